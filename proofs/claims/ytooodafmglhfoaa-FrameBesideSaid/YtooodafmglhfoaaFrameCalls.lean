/-
  What the functions of package frame answer.
-/
import Derived.Test.YtooodafmglhfoaaSls
import Derived.Test.YtooodafmglhfoaaCrcCalls
import Derived.Test.YtooodafmglhfoaaFrameMath
namespace Go.Proofs.Ytooodafmglhfoaa
open Go.RowKit Crc Fm

theorem low_byte (x : BitVec 32) : (x.toNat : Int) % (256 : Int) = ((low x).toNat : Int) := by rw [low_toNat]; omega
theorem shr8 (x : BitVec 32) : (x.toNat : Int) / (256 : Int) = ((x >>> 8).toNat : Int) := by rw [shr_toNat]; omega

/-- The word that is left behind k bytes. -/
def left (x : BitVec 32) : Nat → BitVec 32
  | 0 => x
  | k + 1 => left x k >>> 8
theorem word_take (x : BitVec 32) {k : Nat} (h : k < 4) : (word x).take (k + 1) = (word x).take k ++ [low (left x k)] := by
  match k, h with
  | 0, _ | 1, _ | 2, _ | 3, _ => rfl

set_option maxHeartbeats 400000 in
theorem putWord_any (B : Nat) (A : Option Addr) (n c : Nat) (l : List UInt8) (x : BitVec 32) (w : World) (hown : Own B w A n c l) (hB : B ≤ w.heap.size) (hn : n ≤ 140737488355000) :
    Calls Try.prog 19 #[.slice A n c, .int .u32 x.toNat] w fun e w' => ∃ A' c', e = .returned (.slice A' (n + 4) c') ∧ Own B w' A' (n + 4) c' (l ++ word x) ∧ Below B w w' := by
  go_enter Try.func19, Try.ntmps19
  go_wp2
  go_loopw [0, 1, 5] (fun s y i wr => ∃ k A' c', k ≤ 4 ∧ i = .int .i64 (k : Nat) ∧ s = .slice A' (n + k) c' ∧ y = .int .u32 (left x k).toNat ∧ Own B wr A' (n + k) c' (l ++ (word x).take k) ∧ Below B w wr) (fun _ _ i _ => 4 - (intOf i).toNat)
  case atStart => exact ⟨0, A, c, by omega, rfl, rfl, rfl, by simpa using hown, Below.refl _ _⟩
  case round =>
    obtain ⟨k, A', c', hk, rfl, rfl, rfl, ho, hb⟩ := hrel
    by_cases hlt : k < 4
    · have Ho := hid_ ho
      have Hb := hid_ hb
      clear ho hb
      have Hl := hid_ (fun W : World => own_lit W [low (left x k)] #[.int .u8 ((left x k).toNat % (256 : Int))] (by rw [low_byte]; rfl) 1 rfl (by omega) B)
      have Hw := hid_ (word_take x hlt)
      have Hr := hid_ (show n + k + 1 ≤ 140737488355328 by omega)
      have hbw := Hb.out.size
      have Hh := hid_ (show left x (k + 1) = left x k >>> 8 from rfl)
      go_wp2_with (at_builtin; refine wpList_bytes rfl (.tmp 7) (.tmp 10) rfl B A' (n + k) c' _ rfl (Ho.out.alloc _) (some ⟨wr.heap.size, 0, none⟩) 1 1 [low (left x k)] rfl (Hl.out wr (by omega)).sl (n + k + 1) _ rfl rfl Hr.out (by simp; omega) ?_; intro A2 c2 w2 ho2 hb2)
      go_roundw
      case rel => exact ⟨k + 1, A2, c2, by omega, by go_num, by rw [Nat.add_assoc], by rw [Hh.out, shr8], by rw [List.append_assoc, ← Hw.out] at ho2; exact ho2, Hb.out.trans (((Below.refl _ _).alloc (by omega) _).trans hb2)⟩
      case measure => simp [intOf]; omega
    · obtain rfl : k = 4 := by omega
      have Ho := hid_ ho
      have Hb := hid_ hb
      clear ho hb
      go_wp2
      go_ret
      exact ⟨A', c', rfl, Ho.out, Hb.out⟩

def numK (l : List UInt8) : Nat → Nat
  | 0 => 0
  | k + 1 => numK l k + (l.getD k 0).toNat * 2 ^ (8 * k)
theorem numK_lt (l : List UInt8) (k : Nat) (h : k ≤ 4) : numK l k < 2 ^ (8 * k) := by
  have h0 := UInt8.toNat_lt (l.getD 0 0); have h1 := UInt8.toNat_lt (l.getD 1 0); have h2 := UInt8.toNat_lt (l.getD 2 0); have h3 := UInt8.toNat_lt (l.getD 3 0)
  match k, h with
  | 0, _ => simp [numK]
  | 1, _ => simp only [numK]; omega
  | 2, _ => simp only [numK]; omega
  | 3, _ => simp only [numK]; omega
  | 4, _ => simp only [numK]; omega
theorem numK_all {l : List UInt8} (h : 4 ≤ l.length) : numK l 4 = numN l := by
  match l, h with
  | a :: b :: c :: d :: t, _ =>
    simp [numK, numN]
    omega

theorem pow8 {k : Nat} (h : k < 4) : (2 : Nat) ^ (8 * k) ≤ 16777216 :=
  Nat.le_trans (Nat.pow_le_pow_right (by omega) (show 8 * k ≤ 24 by omega)) (Nat.le_refl _)
theorem num_or (l : List UInt8) {k : Nat} (h : k < 4) (hk : k < l.length) :
    bits .or .u32 (numK l k : Nat) ((l[k].toNat : Int) % (4294967296 : Int) * (2 : Int) ^ (8 * k) % (4294967296 : Int)) = (numK l (k + 1) : Nat) := by
  have h1 := numK_lt l k (by omega)
  have hc := UInt8.toNat_lt l[k]
  have hp := pow8 h
  have hm : l[k].toNat * 2 ^ (8 * k) < 4294967296 :=
    Nat.lt_of_le_of_lt (Nat.mul_le_mul_left _ hp) (by omega)
  have e : (l[k].toNat : Int) % (4294967296 : Int) * (2 : Int) ^ (8 * k) % (4294967296 : Int) = ((l[k].toNat * 2 ^ (8 * k) : Nat) : Int) := by
    rw [show (l[k].toNat : Int) % (4294967296 : Int) = (l[k].toNat : Int) from by omega, show (2 : Int) ^ (8 * k) = ((2 ^ (8 * k) : Nat) : Int) from by rw [Int.natCast_pow]; rfl, ← Int.natCast_mul]
    omega
  have hn : numK l k < 4294967296 := by omega
  rw [e, u32_or_nat _ _ hn hm, Nat.or_comm, nat_join (8 * k) _ _ (Nat.mul_mod_left _ _) h1, numK, Nat.add_comm]
  congr 4
  simp [hk]

set_option maxHeartbeats 400000 in
theorem word_any (A : Option Addr) (n c : Nat) (l : List UInt8) (w : World) (hs : Sl w A n c l) (h4 : 4 ≤ n) :
    Calls Try.prog 28 #[.slice A n c] w fun e w' => e = .returned (.int .u32 (numN l : Nat)) ∧ w = w' := by
  have hle := hs.le
  go_enter Try.func28, Try.ntmps28
  go_wp2
  go_loop [3, 4, 5] (fun s _ i => ∃ k : Nat, k ≤ 4 ∧ i = .int .i64 (k : Nat) ∧ s = .int .u32 (numK l k : Nat)) (fun _ _ i => 4 - (intOf i).toNat)
  case atStart => exact ⟨0, by omega, rfl, rfl⟩
  case round =>
    obtain ⟨k, hk, rfl, rfl⟩ := hrel
    by_cases hlt : k < 4
    · have hkl : k < l.length := by rw [hs.len]; omega
      obtain ⟨b, off, rfl, hcell⟩ := hs.holds.at_ hkl
      have hnk := numK_lt l k (by omega)
      have hkn : k < n := by omega
      go_wp2
      go_round
      case rel => exact ⟨k + 1, by omega, by go_num, int_of (num_or l hlt hkl)⟩
      case measure => simp [intOf]; omega
    · obtain rfl : k = 4 := by omega
      have Hn := hid_ (numK_all (l := l) (by rw [hs.len]; exact h4))
      go_wp2
      go_ret
      exact ⟨ret_of (by rw [Hn.out]), rfl⟩
theorem putWord_at (B : Nat) (A : Option Addr) (n c : Nat) (l : List UInt8) (x : BitVec 32) (v : Int) (w : World) (hv : v = (x.toNat : Int)) (hown : Own B w A n c l) (hB : B ≤ w.heap.size) (hn : n ≤ 140737488355000) :
    Calls Try.prog 19 #[.slice A n c, .int .u32 v] w fun e w' => ∃ A' c', e = .returned (.slice A' (n + 4) c') ∧ Own B w' A' (n + 4) c' (l ++ word x) ∧ Below B w w' := by
  subst hv
  exact putWord_any B A n c l x w hown hB hn
/-- A contract that leaves the world alone, told from the other side. -/
theorem quiet_flip {P : Program} {f : FuncId} {args : Array Value} {w : World} {v : Value} (h : Calls P f args w fun e w' => e = .returned v ∧ w = w') :
    Calls P f args w fun e w' => e = .returned v ∧ w' = w := h.mono fun _ _ ⟨h1, h2⟩ => ⟨h1, h2.symm⟩

def CutPost (w : World) (l : List UInt8) (e : Ending) (w' : World) : Prop :=
  ∃ A1 n1 c1 A2 n2 c2, e = .returned (.tuple #[.slice A1 n1 c1, .slice A2 n2 c2, .int .i64 (cutF l).1]) ∧ Sl w' A1 n1 c1 (cutF l).2.1 ∧ Sl w' A2 n2 c2 (cutF l).2.2 ∧ Below w.heap.size w w'
theorem cutPost_none {w w' : World} {l : List UInt8} {k : Int} (h : cutF l = (k, [], [])) (hb : Below w.heap.size w w') :
    CutPost w l (.returned (.tuple #[.slice none 0 0, .slice none 0 0, .int .i64 k])) w' :=
  ⟨none, 0, 0, none, 0, 0, by rw [h], by rw [h]; exact Sl.none _, by rw [h]; exact Sl.none _, hb⟩

theorem cutPost_ok {w w' : World} {l d r : List UInt8} {A1 A2 : Option Addr} {n1 c1 n2 c2 : Nat} (h : cutF l = (0, d, r)) (h1 : Sl w' A1 n1 c1 d) (h2 : Sl w' A2 n2 c2 r) (hb : Below w.heap.size w w') :
    CutPost w l (.returned (.tuple #[.slice A1 n1 c1, .slice A2 n2 c2, .int .i64 0])) w' :=
  ⟨A1, n1, c1, A2, n2, c2, by rw [h], by rw [h]; exact h1, by rw [h]; exact h2, hb⟩

set_option maxHeartbeats 1000000 in
theorem parted_any (A : Option Addr) (n c : Nat) (l : List UInt8) (w : World) (hs : Sl w A n c l) :
    Calls Try.prog 23 #[.slice A n c] w (CutPost w l) := by
  have hle := hs.le
  have hcm := hs.max
  have hnc := hs.cap
  have Hs := hid_ hs
  have Hlen := hid_ hs.len
  clear hs
  by_cases h4 : n < 4
  · have Hc := hid_ (cut_few (l := l) (by rw [Hlen.out]; exact h4))
    go_enter Try.func23, Try.ntmps23
    go_wp2
    go_ret3
    exact cutPost_none Hc.out (Below.refl _ _)
  have hN := numN_lt l
  have Hw := hid_ (fun W (h : Sl W A n c l) => word_any A n c l W h (by omega))
  have Hl4 := hid_ (show ¬ l.length < 4 by rw [Hlen.out]; exact h4)
  by_cases hbig : 8192 < numN l
  · have Hc := hid_ (cut_long Hl4.out hbig)
    go_enter Try.func23, Try.ntmps23
    go_wp2_with (go_at_call 28; refine (Hw.out _ Hs.out).mono ?_; rintro e w' ⟨rfl, rfl⟩)
    go_ret3
    exact cutPost_none Hc.out (Below.refl _ _)
  by_cases hsh : n < 4 + numN l + 4
  · have Hc := hid_ (cut_cut Hl4.out hbig (by rw [Hlen.out]; exact hsh))
    go_enter Try.func23, Try.ntmps23
    go_wp2_with (go_at_call 28; refine (Hw.out _ Hs.out).mono ?_; rintro e w' ⟨rfl, rfl⟩)
    go_ret3
    exact cutPost_none Hc.out (Below.refl _ _)
  have hup := Hs.out.upto (4 + numN l) (by omega)
  have hfr := Hs.out.from_ (4 + numN l) (by omega)
  have hcut : cutAt A c (4 + numN l) = A.map fun x => x.add (4 + numN l) := if_neg (by omega)
  rw [hcut] at hfr
  have Hsum := hid_ (fun k => sum_any A (4 + numN l) c (l.take (4 + numN l)) (w.drewN k) (hup.drew k).holds hup.len (by omega))
  have Hnum := hid_ (fun k => word_any _ (n - (4 + numN l)) (c - (4 + numN l)) (l.drop (4 + numN l)) (w.drewN k) (hfr.drew k) (by omega))
  have hN2 := numN_lt (l.drop (4 + numN l))
  have hM2 := (more 0#32 (l.take (4 + numN l))).isLt
  by_cases hsum : (more 0#32 (l.take (4 + numN l))).toNat = numN (l.drop (4 + numN l))
  · have Hd := hid_ ((hup.tight (4 + numN l) (by omega) (by omega)).from_ 4 (by omega))
    have Hr := hid_ (Hs.out.from_ (4 + numN l + 4) (by omega))
    have Hc := hid_ (cut_ok Hl4.out hbig (by rw [Hlen.out]; exact hsh) hsum)
    have hb : (((more 0#32 (l.take (4 + numN l))).toNat : Int) != (numN (l.drop (4 + numN l)) : Int)) = false := by rw [hsum]; simp
    clear hsum hup hfr hcut
    go_enter Try.func23, Try.ntmps23
    go_wp2_with (go_at_call 28; refine (Hw.out _ Hs.out).mono ?_; rintro e w' ⟨rfl, rfl⟩)
    go_quiet ((first | (go_at_call 20; exact Calls.quiet_of_same (quiet_flip (Hsum.out _))) | (go_at_call 28; exact Calls.quiet_of_same (quiet_flip (Hnum.out _)))))
    clear Hw Hsum Hnum hN2 hM2
    go_wp2_with fail
    go_quiet (fail)
    go_wp2_with fail
    all_goals
      go_ret3
      refine cutPost_ok Hc.out (Sl.drew (Hd.out.at_ (by first | exact cutAt_same (by omega) | exact cutAt_off (by omega) (by omega) (by omega)) (by omega) (by omega) rfl) _) (Sl.drew (Hr.out.at_ (by first | exact cutAt_same (by omega) | exact cutAt_off (by omega) (by omega) (by omega)) (by omega) (by omega) rfl) _) (below_drewN (Below.refl _ _) _)
  · have Hc := hid_ (cut_bad Hl4.out hbig (by rw [Hlen.out]; exact hsh) hsum)
    have hb : (((more 0#32 (l.take (4 + numN l))).toNat : Int) != (numN (l.drop (4 + numN l)) : Int)) = true := by rw [bne_iff_ne]; omega
    clear hsum hup hfr hcut
    go_enter Try.func23, Try.ntmps23
    go_wp2_with (go_at_call 28; refine (Hw.out _ Hs.out).mono ?_; rintro e w' ⟨rfl, rfl⟩)
    go_quiet ((first | (go_at_call 20; exact Calls.quiet_of_same (quiet_flip (Hsum.out _))) | (go_at_call 28; exact Calls.quiet_of_same (quiet_flip (Hnum.out _)))))
    clear Hw Hsum Hnum hN2 hM2
    go_wp2_with fail
    go_ret3
    exact cutPost_none Hc.out (below_drewN (Below.refl _ _) _)
def SlPost (w : World) (n : Nat) (l : List UInt8) (e : Ending) (w' : World) : Prop := ∃ A c, e = .returned (.slice A n c) ∧ Own w.heap.size w' A n c l ∧ Below w.heap.size w w'

set_option maxHeartbeats 400000 in
theorem clone_any (A : Option Addr) (n c : Nat) (l : List UInt8) (w : World) (hs : Sl w A n c l) (hn : n ≤ 140737488355328) :
    Calls Try.prog 24 #[.slice A n c] w (SlPost w n l) := by
  have kn := fun (w : World) (a : Option Addr) (n c : Nat) => Lib.run_eql_slice_nil (P := Try.prog) w 22 5 a n c 0 0 Try.underlying22
  rcases A with _ | ad
  · have hc := hs.nil rfl
    have hn' := hs.cap
    obtain rfl : c = 0 := hc
    obtain rfl : n = 0 := by omega
    have hl : l = [] := List.eq_nil_of_length_eq_zero hs.len
    subst hl
    go_enter Try.func24, Try.ntmps24
    go_wp2_with fail
    go_ret
    exact ⟨none, 0, rfl, Own.none _ _, Below.refl _ _⟩
  · have Hs := hid_ hs
    clear hs
    have Hl := hid_ (own_lit w [] #[] rfl 0 rfl (by omega) w.heap.size (Nat.le_refl _))
    go_enter Try.func24, Try.ntmps24
    go_wp2_with (at_builtin; refine wpList_bytes rfl (.tmp 5) (.tmp 6) rfl w.heap.size _ 0 0 [] rfl Hl.out _ n c l rfl (Hs.out.below ((Below.refl _ _).alloc (Nat.le_refl _) _)) n l (by omega) rfl hn (by simp) ?_; intro A2 c2 w2 ho2 hb2)
    go_ret
    exact ⟨A2, c2, rfl, ho2, ((Below.refl _ _).alloc (Nat.le_refl _) _).trans hb2⟩
theorem cutPost_mk {w w' : World} {l : List UInt8} {k : Int} {A1 A2 : Option Addr} {n1 c1 n2 c2 : Nat} (h : (cutF l).1 = k) (h1 : Sl w' A1 n1 c1 (cutF l).2.1) (h2 : Sl w' A2 n2 c2 (cutF l).2.2) (hb : Below w.heap.size w w') :
    CutPost w l (.returned (.tuple #[.slice A1 n1 c1, .slice A2 n2 c2, .int .i64 k])) w' := ⟨A1, n1, c1, A2, n2, c2, by rw [h], h1, h2, hb⟩
set_option maxHeartbeats 400000 in
theorem cut_any (A : Option Addr) (n c : Nat) (l : List UInt8) (w : World) (hs : Sl w A n c l) (hn : n ≤ 140737488355328) :
    Calls Try.prog 13 #[.slice A n c] w (CutPost w l) := by
  have Hp := hid_ (parted_any A n c l w hs)
  have Hle := hid_ (cut_le l)
  have Hlen := hid_ hs.len
  clear hs
  go_enter Try.func13, Try.ntmps13
  go_wp2_with fail
  refine Hp.out.mono ?_
  rintro e w1 ⟨A1, n1, c1, A2, n2, c2, rfl, hs1, hs2, hb1⟩
  have Hb1 := hid_ hb1
  have Hs2 := hid_ hs2
  have Hc1 := hid_ (clone_any A1 n1 c1 _ w1 hs1 (by have := hs1.len; have := Hle.out.1; have := Hlen.out; omega))
  have Hn2 := hid_ (show n2 ≤ 140737488355328 by have := hs2.len; have := Hle.out.2; have := Hlen.out; omega)
  clear hs1 hs2 hb1
  generalize hk : (cutF l).1 = k
  have Hk := hid_ hk
  clear hk
  go_wp2_with fail
  refine Hc1.out.mono ?_
  rintro e w2 ⟨A3, c3, rfl, hs3, hb2⟩
  have Hs3 := hid_ hs3
  have Hb2 := hid_ hb2
  have Hc2 := hid_ (clone_any A2 n2 c2 _ w2 (Hs2.out.below hb2) Hn2.out)
  clear hs3 hb2
  go_wp2_with fail
  refine Hc2.out.mono ?_
  rintro e w3 ⟨A4, c4, rfl, hs4, hb3⟩
  go_wp2_with fail
  go_ret3
  exact cutPost_mk Hk.out (Hs3.out.sl.below hb3) hs4.sl (Hb1.out.trans ((Hb2.out.mono Hb1.out.size).trans (hb3.mono (Nat.le_trans Hb1.out.size Hb2.out.size))))

def PutPost (w : World) (n : Nat) (l : List UInt8) (e : Ending) (w' : World) : Prop := ∃ A c, e = .returned (.tuple #[.slice A n c, .int .i64 0]) ∧ Own w.heap.size w' A n c l ∧ Below w.heap.size w w'

set_option maxHeartbeats 400000 in
theorem put_large (A0 A1 : Option Addr) (n0 c0 n1 c1 : Nat) (w : World) (h : 8192 < n1) :
    Calls Try.prog 10 #[.slice A0 n0 c0, .slice A1 n1 c1] w fun e w' => e = .returned (.tuple #[.slice none 0 0, .int .i64 4]) ∧ w = w' := by
  go_enter Try.func10, Try.ntmps10
  go_wp2
  go_ret2
  exact ⟨rfl, rfl⟩

theorem putPost_mk {w w' : World} {A : Option Addr} {n c : Nat} {l : List UInt8} (h : Own w.heap.size w' A n c l) (hb : Below w.heap.size w w') : PutPost w n l (.returned (.tuple #[.slice A n c, .int .i64 0])) w' := ⟨A, c, rfl, h, hb⟩
theorem framed_tail {w : World} {A : Option Addr} {n0 n1 c : Nat} {l0 m l1 : List UInt8} (h : Sl w A (n0 + 4 + n1) c (l0 ++ m ++ l1)) (hl : l0.length = n0) (hne : ¬ c = n0) :
    Sl w (A.map fun x => x.add n0) (n0 + 4 + n1 - n0) (c - n0) (m ++ l1) := by
  have h1 := h.from_ n0 (by omega)
  rw [cutAt_add hne, List.append_assoc, ← hl, List.drop_left] at h1
  rw [hl] at h1
  exact h1
set_option maxHeartbeats 1000000 in
theorem put_any (A0 A1 : Option Addr) (n0 c0 n1 c1 : Nat) (l0 l1 : List UInt8) (w : World) (h0 : Sl w A0 n0 c0 l0) (h1 : Sl w A1 n1 c1 l1) (hn : n1 ≤ 8192) (hm : n0 ≤ 140737488000000) :
    Calls Try.prog 10 #[.slice A0 n0 c0, .slice A1 n1 c1] w (PutPost w (n0 + 4 + n1 + 4) (l0 ++ framed l1)) := by
  have H0 := hid_ h0
  have H1 := hid_ h1
  have Hlen := hid_ h1.len
  have Hlen0 := hid_ h0.len
  clear h0 h1
  go_enter Try.func10, Try.ntmps10
  have Hx := hid_ (show (n1 : Int) = ((BitVec.ofNat 32 n1).toNat : Int) by rw [BitVec.toNat_ofNat]; omega)
  go_wp2_with (first
    | (at_make; (with_reducible refine wpList_makeBytes rfl _ _ rfl _ (n0 + 4 + n1 + 4) rfl rfl (by omega) (by omega) ?_); intro B1 d1 w1 ho' hb'; have Ho1 := hid_ ho'; have Hb1 := hid_ hb'; clear ho' hb')
    | (at_builtin; refine wpList_bytes rfl (.tmp 18) (.tmp 19) rfl w.heap.size _ 0 _ [] rfl Ho1.out _ n0 c0 l0 rfl (H0.out.below Hb1.out) n0 l0 (by omega) rfl (by omega) Hb1.out.size ?_; intro B2 d2 w2 ho' hb'; have Ho2 := hid_ ho'; have Hb2 := hid_ (Hb1.out.trans hb'); clear ho' hb')
    | (go_at_call 19; (with_reducible refine Calls.mono (putWord_at w.heap.size B2 n0 d2 l0 (BitVec.ofNat 32 n1) _ w2 Hx.out Ho2.out Hb2.out.size (by omega)) ?_); rintro e w3 ⟨B3, d3, rfl, ho', hb'⟩; have Ho3 := hid_ ho'; have Hb3 := hid_ (Hb2.out.trans hb'); clear ho' hb')
    | (at_builtin; refine wpList_bytes rfl (.tmp 26) (.tmp 27) rfl w.heap.size _ (n0 + 4) _ _ rfl Ho3.out _ n1 c1 l1 rfl (H1.out.below Hb3.out) (n0 + 4 + n1) _ rfl rfl (by omega) Hb3.out.size ?_; intro B4 d4 w4 ho' hb'; have Ho4 := hid_ ho'; have Hb4 := hid_ (Hb3.out.trans hb'); have hne : ¬ d4 = n0 := (by have := Ho4.out.sl.cap; omega); clear ho' hb')
    | (go_at_call 20; (with_reducible refine Calls.mono (sum_any _ _ _ (word (BitVec.ofNat 32 n1) ++ l1) w4 (framed_tail Ho4.out.sl Hlen0.out hne).holds (framed_tail Ho4.out.sl Hlen0.out hne).len (by omega)) ?_); rintro e w' ⟨rfl, rfl⟩)
    | (go_at_call 19; (with_reducible refine Calls.mono (putWord_any w.heap.size B4 (n0 + 4 + n1) d4 _ _ w4 Ho4.out Hb4.out.size (by omega)) ?_); rintro e w5 ⟨B5, d5, rfl, ho', hb'⟩; have Ho5 := hid_ ho'; have Hb5 := hid_ (Hb4.out.trans hb'); clear ho' hb'))
  go_ret2
  refine putPost_mk (Ho5.out.at_ rfl ?_) Hb5.out
  rw [framed, Hlen.out]
  simp only [List.append_assoc]
theorem put_nil (A1 : Option Addr) (n1 c1 : Nat) (l1 : List UInt8) (w : World) (h1 : Sl w A1 n1 c1 l1) (hn : n1 ≤ 8192) :
    Calls Try.prog 10 #[.slice none 0 0, .slice A1 n1 c1] w (PutPost w (n1 + 8) (framed l1)) := by
  have h := put_any none A1 0 0 n1 c1 [] l1 w (Sl.none _) h1 hn (by omega)
  rw [List.nil_append, show 0 + 4 + n1 + 4 = n1 + 8 by omega] at h
  exact h

def AllPost (w : World) (l : List UInt8) (e : Ending) (w' : World) : Prop :=
  ∃ A n c, e = .returned (.tuple #[.slice A n c, .int .i64 ((allOf l).2.1 : Nat), .int .i64 (allOf l).2.2]) ∧ Sls w' A n c (allOf l).1 ∧ Below w.heap.size w w'
theorem allPost_mk {w w' : World} {l : List UInt8} {ms : List (List UInt8)} {u : Nat} {k : Int} {A : Option Addr} {n c : Nat} (h : allOf l = (ms, u, k)) (hs : Sls w' A n c ms) (hb : Below w.heap.size w w') :
    AllPost w l (.returned (.tuple #[.slice A n c, .int .i64 (u : Nat), .int .i64 k])) w' := ⟨A, n, c, by rw [h], by rw [h]; exact hs, hb⟩

theorem allPost_at {w w' : World} {l : List UInt8} {ms : List (List UInt8)} {u : Nat} {k ui : Int} {A : Option Addr} {n c : Nat} (hu : ui = (u : Int)) (h : allOf l = (ms, u, k)) (hs : Sls w' A n c ms) (hb : Below w.heap.size w w') :
    AllPost w l (.returned (.tuple #[.slice A n c, .int .i64 ui, .int .i64 k])) w' := by subst hu; exact allPost_mk h hs hb

set_option maxHeartbeats 1000000 in
theorem all_any (A : Option Addr) (n c : Nat) (l : List UInt8) (w : World) (hs : Sl w A n c l) (hn : n ≤ 5864062014800) :
    Calls Try.prog 15 #[.slice A n c] w (AllPost w l) := by
  have Hs := hid_ hs
  have Hlen := hid_ hs.len
  have hcap := hs.cap
  have hmax := hs.max
  clear hs
  go_enter Try.func15, Try.ntmps15
  go_wp2
  go_loopw [2, 3, 5, 6, 7] (fun s ui _ _ _ wr => ∃ u A' c' ms, ui = .int .i64 (u : Nat) ∧ s = .slice A' (ms : List (List UInt8)).length c' ∧ OwnS w.heap.size wr A' ms.length c' ms ∧ AllAt l ms u ∧ Below w.heap.size w wr) (fun _ ui _ _ _ _ => n - (intOf ui).toNat)
  case atStart => exact ⟨0, none, 0, [], rfl, rfl, OwnS.none _ _, allAt_zero l, Below.refl _ _⟩
  case round =>
    obtain ⟨u, A', c', ms, rfl, rfl, ho, hat, hb⟩ := hrel
    have hun : u ≤ n := by have := hat.1; have := Hlen.out; omega
    have Ho := hid_ ho
    have Hat := hid_ hat
    have Hb := hid_ hb
    clear ho hat hb
    by_cases hlt : u < n
    · have hcu : ¬ c = u := by omega
      have hfr := (Hs.out.below Hb.out).from_ u hun
      rw [cutAt_add hcu] at hfr
      have Hp := hid_ (parted_any _ _ _ _ wr hfr)
      have Hle := hid_ (cut_le (l.drop u))
      have Hdl := hid_ hfr.len
      have Hmp := hid_ (allAt_few Hat.out)
      clear hfr
      by_cases hk : (cutF (l.drop u)).1 = 0
      · have Hst := hid_ (allAt_step Hat.out (by rw [Hlen.out]; exact hlt) hk)
        go_wp2_with fail
        refine Hp.out.mono ?_
        rintro e w1 ⟨A1, n1, c1, A2, n2, c2, rfl, hs1, hs2, hb1⟩
        rw [hk]
        have Hk := hid_ hk
        have Hcl := hid_ (clone_any A1 n1 c1 _ w1 hs1 (by have := hs1.len; have := Hle.out.1; have := Hdl.out; omega))
        have Ho1 := hid_ (Ho.out.later hb1)
        have Hb1 := hid_ (Below.trans Hb.out (hb1.mono Hb.out.size))
        have Hn2 := hid_ (show (cutF (l.drop u)).2.2.length = n2 from hs2.len)
        have hn2 : n2 ≤ n := by have := hs2.len; have := Hle.out.2; have := Hdl.out; omega
        clear hs1 hs2 hb1 hk
        go_wp2_with (first
          | (go_at_call 24; (with_reducible refine Calls.mono Hcl.out ?_); rintro e w2 ⟨A3, c3, rfl, ho', hb'⟩; have Ho3 := hid_ ho'; have Ho2 := hid_ (Ho1.out.later hb'); have Hb2 := hid_ (Hb1.out.trans (hb'.mono Hb1.out.size)); have Hsz := hid_ (fun k hk => Nat.lt_of_lt_of_le (Ho1.out.from_ k hk).2 (Nat.le_refl _)); clear ho' hb')
          | (at_builtin; refine wpList_slices rfl (.tmp 25) (.tmp 28) rfl w.heap.size A' ms.length c' ms rfl (Ho2.out.later ((Below.refl _ _).alloc (Nat.le_refl _) _)) _ 1 1 [(cutF (l.drop u)).2.1] rfl (one_off _ Ho3.out.sl (Ho3.out.away _ Hsz.out)) (ms.length + 1) _ rfl rfl (by have := Hmp.out; have := Hlen.out; omega) (by have := Hb2.out.size; simp; omega) ?_; intro A4 c4 w4 ho' hb' hg'; have Ho4 := hid_ ho'; have Hb4 := hid_ ((Hb2.out.alloc Hb2.out.size _).trans hb'); clear ho' hb' hg'))
        go_roundw
        case rel =>
          refine ⟨n - n2, A4, c4, ms ++ [(cutF (l.drop u)).2.1], ?_, ?_, ?_, ?_, Hb4.out⟩
          · exact int_of (by omega)
          · rw [List.length_append]; rfl
          · rw [List.length_append]; exact Ho4.out
          · have h := Hst.out.2.2
            rw [Hn2.out, Hlen.out] at h
            exact h
        case measure =>
          have h := Hst.out.1
          rw [Hn2.out, Hlen.out] at h
          simp [intOf]
          omega
      · have Hst := hid_ (allAt_stop Hat.out (by rw [Hlen.out]; exact hlt) hk)
        generalize hK : (cutF (l.drop u)).1 = K at hk Hst
        have HK := hid_ hK
        have hkb : (K != 0) = true := by rw [bne_iff_ne]; exact hk
        clear hK hk
        go_wp2_with fail
        refine Hp.out.mono ?_
        rintro e w1 ⟨A1, n1, c1, A2, n2, c2, rfl, hs1, hs2, hb1⟩
        rw [HK.out]
        have Ho1 := hid_ (Ho.out.later hb1)
        have Hb1 := hid_ (Below.trans Hb.out (hb1.mono Hb.out.size))
        clear hs1 hs2 hb1
        go_wp2_with fail
        go_ret3
        exact allPost_mk Hst.out Ho1.out.sls Hb1.out
    · have Hu := hid_ (show u = n by omega)
      have Hend := hid_ (allAt_end Hat.out (by rw [Hlen.out]; omega))
      go_wp2
      go_ret3
      exact allPost_mk Hend.out Ho.out.sls Hb.out
end Go.Proofs.Ytooodafmglhfoaa
