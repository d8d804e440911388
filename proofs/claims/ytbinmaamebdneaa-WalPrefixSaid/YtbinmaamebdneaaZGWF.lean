/-
  Plain facts on a register of 32 bits that is shifted and fed (CRC-32): no program is named here.
  steps n r: the register after n places; upd: one byte added, eight places; regs: all bytes; more: a sum of bytes behind a sum.
-/
import Derived.Test.YtbinmaamebdneaaZGWA
import Derived.Test.YtbinmaamebdneaaZSls
import Derived.WalkKit
import Derived.Laws.BitsAllLaws
import Derived.Test.YtbinmaamebdneaaRows
import Derived.WalkSpells
import Derived.WalkLawsBesides
import Derived.Lib.SlBytesConst
namespace Go.Proofs.Ytbinmaamebdneaa.Crc
set_option linter.unusedSimpArgs false
set_option linter.unusedVariables false

def poly : BitVec 32 := 0xedb88320#32

def step (r : BitVec 32) : BitVec 32 := if r.getLsbD 0 = true then (r >>> 1) ^^^ poly else r >>> 1

def steps : Nat → BitVec 32 → BitVec 32
  | 0, r => r
  | n + 1, r => step (steps n r)

theorem shr_xor (a b : BitVec 32) : (a ^^^ b) >>> 1 = (a >>> 1) ^^^ (b >>> 1) := by
  apply BitVec.eq_of_getLsbD_eq
  intro i hi
  simp

theorem xor_swap (a b c d : BitVec 32) : (a ^^^ b) ^^^ (c ^^^ d) = (a ^^^ c) ^^^ (b ^^^ d) := by ac_rfl

theorem step_xor (a b : BitVec 32) : step (a ^^^ b) = step a ^^^ step b := by
  unfold step
  rw [shr_xor, BitVec.getLsbD_xor]
  cases a.getLsbD 0 <;> cases b.getLsbD 0 <;> simp
  · ac_rfl
  · ac_rfl
  · rw [xor_swap]; simp

theorem step_zero : step 0#32 = 0#32 := by decide

theorem steps_zero (n : Nat) : steps n 0#32 = 0#32 := by
  induction n with
  | zero => rfl
  | succ n ih => rw [steps, ih, step_zero]

theorem steps_xor (n : Nat) (a b : BitVec 32) : steps n (a ^^^ b) = steps n a ^^^ steps n b := by
  induction n with
  | zero => rfl
  | succ n ih => rw [steps, steps, steps, ih, step_xor]

theorem steps_add (m n : Nat) (r : BitVec 32) : steps (m + n) r = steps m (steps n r) := by
  induction m with
  | zero => rw [Nat.zero_add]; rfl
  | succ m ih => rw [Nat.succ_add, steps, steps, ih]

theorem steps_succ' (n : Nat) (r : BitVec 32) : steps (n + 1) r = steps n (step r) := by
  rw [steps_add n 1]; rfl

theorem poly_high : poly.getLsbD 31 = true := by decide

/-- A register that falls to nothing was nothing: the fallen bit can be read off the highest place. -/
theorem step_eq_zero (a : BitVec 32) (h : step a = 0#32) : a = 0#32 := by
  unfold step at h
  by_cases h0 : a.getLsbD 0 = true
  · rw [if_pos h0] at h
    have h1 : ((a >>> 1) ^^^ poly).getLsbD 31 = false := by rw [h]; simp
    rw [BitVec.getLsbD_xor, poly_high, BitVec.getLsbD_ushiftRight] at h1
    simp at h1
  · rw [if_neg h0] at h
    apply BitVec.eq_of_getLsbD_eq
    intro i hi
    cases i with
    | zero => simpa using h0
    | succ i =>
      have h1 : (a >>> 1).getLsbD i = false := by rw [h]; simp
      rw [BitVec.getLsbD_ushiftRight, Nat.add_comm] at h1
      rw [h1]; simp

theorem steps_eq_zero (n : Nat) (a : BitVec 32) (h : steps n a = 0#32) : a = 0#32 := by
  induction n with
  | zero => exact h
  | succ n ih => exact ih (step_eq_zero _ h)

/-! ### bytes -/
/-- All bits turned (under a name of its own: the walk would write '~~~' out as a difference). -/
def inv (x : BitVec 32) : BitVec 32 := ~~~x

def wide (c : UInt8) : BitVec 32 := c.toBitVec.setWidth 32

theorem wide_toNat (c : UInt8) : (wide c).toNat = c.toNat := by
  unfold wide
  rw [BitVec.toNat_setWidth]
  have : c.toNat < 256 := UInt8.toNat_lt c
  show c.toNat % 2 ^ 32 = c.toNat
  omega

def upd (r : BitVec 32) (c : UInt8) : BitVec 32 := steps 8 (r ^^^ wide c)
def regs (r : BitVec 32) (l : List UInt8) : BitVec 32 := l.foldl upd r
def more (s : BitVec 32) (l : List UInt8) : BitVec 32 := ~~~ (regs (~~~ s) l)

theorem regs_nil (r : BitVec 32) : regs r [] = r := rfl
theorem regs_cons (r : BitVec 32) (c : UInt8) (l : List UInt8) : regs r (c :: l) = regs (upd r c) l := rfl
theorem regs_append (r : BitVec 32) (l m : List UInt8) : regs r (l ++ m) = regs (regs r l) m := List.foldl_append
theorem regs_snoc (r : BitVec 32) (l : List UInt8) (c : UInt8) : regs r (l ++ [c]) = upd (regs r l) c := by rw [regs_append]; rfl
theorem more_nil (s : BitVec 32) : more s [] = s := by unfold more; rw [regs_nil]; simp
theorem not_more (s : BitVec 32) (l : List UInt8) : ~~~ (more s l) = regs (~~~ s) l := by unfold more; simp
theorem more_append (s : BitVec 32) (l m : List UInt8) : more s (l ++ m) = more (more s l) m := by
  unfold more
  rw [regs_append]
  simp

/-- Two registers that are fed with the same bytes: what parts them goes its own way. -/
theorem upd_xor (r z : BitVec 32) (c : UInt8) : upd (r ^^^ z) c = upd r c ^^^ steps 8 z := by
  unfold upd
  rw [← steps_xor]
  congr 1
  ac_rfl

theorem regs_xor (l : List UInt8) : ∀ r z : BitVec 32, regs (r ^^^ z) l = regs r l ^^^ steps (8 * l.length) z := by
  induction l with
  | nil => intro r z; simp [regs_nil, steps]
  | cons c l ih =>
    intro r z
    rw [regs_cons, upd_xor, ih, regs_cons, List.length_cons, ← steps_add]
    congr 2

theorem not_xor (a b : BitVec 32) : ~~~ (a ^^^ b) = ~~~ a ^^^ b := by
  apply BitVec.eq_of_getLsbD_eq
  intro i hi
  simp [hi]

theorem more_join (s : BitVec 32) (l : List UInt8) : more s l = more 0#32 l ^^^ steps (8 * l.length) s := by
  unfold more
  have h : ~~~ s = ~~~ (0#32) ^^^ s := by rw [← not_xor, BitVec.zero_xor]
  rw [h, regs_xor, not_xor]

/-! ### a word fed byte by byte -/
theorem shr_shr (x : BitVec 32) (m n : Nat) : x >>> m >>> n = x >>> (m + n) := by
  apply BitVec.eq_of_getLsbD_eq
  intro i hi
  simp only [BitVec.getLsbD_ushiftRight, Nat.add_assoc]
theorem steps_shift (n : Nat) (z : BitVec 32) (h : ∀ i, i < n → z.getLsbD i = false) : steps n z = z >>> n := by
  induction n generalizing z with
  | zero => rw [BitVec.ushiftRight_zero]; rfl
  | succ n ih =>
    rw [steps_succ', show step z = z >>> 1 from by unfold step; rw [if_neg (by rw [h 0 (by omega)]; decide)], ih]
    · rw [shr_shr, Nat.add_comm]
    · intro i hi
      rw [BitVec.getLsbD_ushiftRight, Nat.add_comm]
      exact h _ (by omega)
def low (x : BitVec 32) : UInt8 := UInt8.ofNat (x.toNat % 256)
theorem low_toNat (x : BitVec 32) : (low x).toNat = x.toNat % 256 := by
  unfold low
  rw [UInt8.toNat_ofNat']
  omega
theorem wide_low (x : BitVec 32) : wide (low x) = x ^^^ ((x >>> 8) <<< 8) := by
  apply BitVec.eq_of_getLsbD_eq
  intro i hi
  have h1 : (wide (low x)).getLsbD i = (x.toNat % 256).testBit i := by
    unfold BitVec.getLsbD
    rw [wide_toNat, low_toNat]
  rw [h1, show (256 : Nat) = 2 ^ 8 from rfl, Nat.testBit_mod_two_pow]
  rw [BitVec.getLsbD_xor, BitVec.getLsbD_shiftLeft, BitVec.getLsbD_ushiftRight]
  by_cases h : i < 8
  · simp [h, BitVec.getLsbD]
  · have : 8 + (i - 8) = i := by omega
    simp [h, hi, this]
theorem steps_feed (k : Nat) (r x : BitVec 32) : steps (k + 8) (r ^^^ x) = steps k (upd r (low x) ^^^ (x >>> 8)) := by
  have h1 : x = wide (low x) ^^^ ((x >>> 8) <<< 8) := by
    rw [wide_low, BitVec.xor_assoc, BitVec.xor_self, BitVec.xor_zero]
  have h2 : steps 8 ((x >>> 8) <<< 8) = x >>> 8 := by
    rw [steps_shift 8 _ (by intro i hi; simp [BitVec.getLsbD_shiftLeft, hi])]
    apply BitVec.eq_of_getLsbD_eq
    intro i hi
    simp only [BitVec.getLsbD_ushiftRight, BitVec.getLsbD_shiftLeft]
    by_cases h : 8 + i < 32
    · simp [h]
    · simp [h, BitVec.getLsbD_of_ge x (8 + i) (by omega)]
  rw [steps_add]
  congr 1
  unfold upd
  rw [← h2, ← steps_xor, BitVec.xor_assoc, ← h1]
def word (x : BitVec 32) : List UInt8 := [low x, low (x >>> 8), low (x >>> 8 >>> 8), low (x >>> 8 >>> 8 >>> 8)]
theorem regs_word (r x : BitVec 32) : regs r (word x) = steps 32 (r ^^^ x) := by
  have h : x >>> 8 >>> 8 >>> 8 >>> 8 = 0#32 := by
    rw [shr_shr, shr_shr, shr_shr]
    exact BitVec.ushiftRight_eq_zero (by omega)
  have h1 := steps_feed 24 r x
  have h2 := steps_feed 16 (upd r (low x)) (x >>> 8)
  have h3 := steps_feed 8 (upd (upd r (low x)) (low (x >>> 8))) (x >>> 8 >>> 8)
  have h4 := steps_feed 0 (upd (upd (upd r (low x)) (low (x >>> 8))) (low (x >>> 8 >>> 8))) (x >>> 8 >>> 8 >>> 8)
  rw [h, BitVec.xor_zero] at h4
  rw [h1, h2, h3, h4]
  rfl
/-- Whatever is summed: with its own sum behind it it has one and the same sum. -/
theorem more_rest (l : List UInt8) : more 0#32 (l ++ word (more 0#32 l)) = 0x2144df1c#32 := by
  unfold more
  rw [regs_append, regs_word]
  generalize regs (~~~0#32) l = r
  have h : r ^^^ ~~~r = BitVec.allOnes 32 := by
    rw [← BitVec.allOnes_xor, ← BitVec.xor_assoc, BitVec.xor_comm r, BitVec.xor_assoc, BitVec.xor_self, BitVec.xor_zero]
  rw [h]
  decide +kernel

/-! ### three texts of one length together -/
theorem wide_xor (c d : UInt8) : wide (c ^^^ d) = wide c ^^^ wide d := by
  apply BitVec.eq_of_toNat_eq
  rw [wide_toNat, BitVec.toNat_xor, wide_toNat, wide_toNat]
  rfl
theorem upd_both (r z : BitVec 32) (c d : UInt8) : upd (r ^^^ z) (c ^^^ d) = upd r c ^^^ upd z d := by
  unfold upd
  rw [wide_xor, xor_swap, steps_xor]
theorem regs_both : ∀ (a b : List UInt8), a.length = b.length → ∀ r z : BitVec 32, regs (r ^^^ z) (List.zipWith (· ^^^ ·) a b) = regs r a ^^^ regs z b
  | [], [], _, r, z => rfl
  | c :: a, d :: b, h, r, z => by
    rw [List.zipWith_cons_cons, regs_cons, regs_cons, regs_cons, upd_both, regs_both a b (by simpa using h)]
  | [], _ :: _, h, _, _ => by simp at h
  | _ :: _, [], h, _, _ => by simp at h
theorem zip_zero : ∀ a : List UInt8, List.zipWith (· ^^^ ·) a (List.replicate a.length (0 : UInt8)) = a
  | [] => rfl
  | c :: a => by
    rw [List.length_cons, List.replicate_succ, List.zipWith_cons_cons, zip_zero a]
    simp
theorem more_both (a b : List UInt8) (h : a.length = b.length) :
    more 0#32 a ^^^ more 0#32 b ^^^ more 0#32 (List.replicate a.length 0) = more 0#32 (List.zipWith (· ^^^ ·) a b) := by
  unfold more
  generalize hr : ~~~(0#32) = r
  have h1 := regs_both a b h r r
  have h2 := regs_both (List.zipWith (· ^^^ ·) a b) (List.replicate a.length 0) (by simp [List.length_zipWith, ← h]) (r ^^^ r) r
  have hl : (List.zipWith (· ^^^ ·) a b).length = a.length := by simp [List.length_zipWith, ← h]
  have h3 := zip_zero (List.zipWith (· ^^^ ·) a b)
  rw [hl] at h3
  rw [h3, h1, BitVec.xor_self, BitVec.zero_xor] at h2
  rw [h2, not_xor]
  generalize regs r a = x
  generalize regs r b = y
  generalize regs r (List.replicate a.length 0) = z
  rw [show ~~~y = y ^^^ ~~~(0#32) from by rw [BitVec.xor_comm, ← not_xor, BitVec.zero_xor], show ~~~z = z ^^^ ~~~(0#32) from by rw [BitVec.xor_comm, ← not_xor, BitVec.zero_xor]]
  rw [not_xor]
  have e : ~~~(0#32) ^^^ ~~~(0#32) = 0#32 := BitVec.xor_self
  calc ~~~x ^^^ (y ^^^ ~~~(0#32)) ^^^ (z ^^^ ~~~(0#32)) = (~~~x ^^^ y ^^^ z) ^^^ (~~~(0#32) ^^^ ~~~(0#32)) := by ac_rfl
    _ = ~~~x ^^^ y ^^^ z := by rw [e, BitVec.xor_zero]

/-- The text so far: the first k bytes together, nothing behind them. -/
def sofar (a b : List UInt8) (k : Nat) : List UInt8 := (List.zipWith (· ^^^ ·) a b).take k ++ List.replicate (a.length - k) 0
theorem sofar_zero (a b : List UInt8) : sofar a b 0 = List.replicate a.length 0 := by simp [sofar]
theorem sofar_all (a b : List UInt8) (h : a.length = b.length) : sofar a b a.length = List.zipWith (· ^^^ ·) a b := by
  unfold sofar
  rw [Nat.sub_self, List.replicate_zero, List.append_nil, List.take_of_length_le (by simp [List.length_zipWith, ← h])]
theorem sofar_length (a b : List UInt8) (h : a.length = b.length) (k : Nat) (hk : k ≤ a.length) : (sofar a b k).length = a.length := by
  simp [sofar, List.length_zipWith, ← h]; omega
theorem sofar_succ (a b : List UInt8) (h : a.length = b.length) (k : Nat) (hk : k < a.length) :
    (sofar a b k).set k (a[k] ^^^ b[k]'(by omega)) = sofar a b (k + 1) := by
  unfold sofar
  have hz : k < (List.zipWith (· ^^^ ·) a b).length := by simp [List.length_zipWith, ← h]; exact hk
  have ht : ((List.zipWith (· ^^^ ·) a b).take k).length = k := by rw [List.length_take]; omega
  rw [List.set_append, if_neg (by omega), ht, Nat.sub_self, show a.length - k = (a.length - (k + 1)) + 1 from by omega, List.replicate_succ, List.set_cons_zero,
    List.take_succ_eq_append_getElem hz, List.append_assoc]
  simp

/-! ### one bit that is turned -/
def bitAt (i : Nat) : BitVec 32 := 1#32 <<< i
theorem steps_bit (i : Nat) (h : i < 32) : steps i (bitAt i) = 1#32 := by
  rw [steps_shift i _ (by intro j hj; simp [bitAt, BitVec.getLsbD_shiftLeft, hj])]
  apply BitVec.eq_of_getLsbD_eq
  intro j hj
  unfold bitAt
  simp only [BitVec.getLsbD_ushiftRight, BitVec.getLsbD_shiftLeft]
  by_cases h0 : j = 0
  · subst h0; simp [h]
  · have : i + j - i = j := by omega
    rw [this]
    have h1 : (1#32).getLsbD j = false := by simp [BitVec.getLsbD_one, h0]
    simp [h1]
theorem steps_bit' (n i : Nat) (h : i < 32) : steps (n + i) (bitAt i) = steps n 1#32 := by rw [steps_add, steps_bit i h]
def bit8 (t : Nat) : UInt8 := UInt8.ofNat (2 ^ t % 256)
theorem wide_bit8 (t : Nat) (h : t < 8) : wide (bit8 t) = bitAt t := by
  match t, h with
  | 0, _ => decide | 1, _ => decide | 2, _ => decide | 3, _ => decide | 4, _ => decide | 5, _ => decide | 6, _ => decide | 7, _ => decide
theorem regs_turn (l : List UInt8) (j t : Nat) (hj : j < l.length) (ht : t < 8) (r : BitVec 32) :
    regs r (l.set j (l[j] ^^^ bit8 t)) = regs r l ^^^ steps (8 * l.length - (8 * j + t)) 1#32 := by
  have e1 : l = l.take j ++ l[j] :: l.drop (j + 1) := by rw [← List.drop_eq_getElem_cons hj, List.take_append_drop]
  have e2 : l.set j (l[j] ^^^ bit8 t) = l.take j ++ (l[j] ^^^ bit8 t) :: l.drop (j + 1) := List.set_eq_take_append_cons_drop .. |>.trans (by rw [if_pos hj])
  rw [e2]
  conv => rhs; arg 1; rw [e1]
  rw [regs_append, regs_cons, regs_append, regs_cons]
  generalize regs r (l.take j) = x
  have h1 : upd x (l[j] ^^^ bit8 t) = upd x l[j] ^^^ steps (8 - t) 1#32 := by
    have h2 := upd_both x 0#32 l[j] (bit8 t)
    rw [BitVec.xor_zero] at h2
    rw [h2]
    congr 1
    unfold upd
    rw [BitVec.zero_xor, wide_bit8 t ht]
    have h3 := steps_bit' (8 - t) t (by omega)
    rw [show 8 - t + t = 8 from by omega] at h3
    exact h3
  rw [h1, regs_xor, ← steps_add]
  congr 2
  rw [List.length_drop]
  omega

/-- The lowest k bits. -/
def lows (x : BitVec 32) : Nat → BitVec 32
  | 0 => 0#32
  | k + 1 => if x.getLsbD k = true then lows x k ^^^ bitAt k else lows x k
theorem lows_bit (x : BitVec 32) (k : Nat) : ∀ i, i < 32 → (lows x k).getLsbD i = (decide (i < k) && x.getLsbD i) := by
  induction k with
  | zero => intro i hi; simp [lows]
  | succ k ih =>
    intro i hi
    have hb : (bitAt k).getLsbD i = decide (i = k) := by
      unfold bitAt
      rw [BitVec.getLsbD_shiftLeft, BitVec.getLsbD_one]
      by_cases e : i = k
      · subst e; simp [hi]
      · have h2 : ¬ (i - k = 0 ∧ k ≤ i) := by omega
        by_cases e1 : i < k
        · simp [e1, e]
        · have : i - k ≠ 0 := by omega
          simp [this, e]
    rw [lows]
    by_cases h : x.getLsbD k = true
    · rw [if_pos h, BitVec.getLsbD_xor, ih i hi, hb]
      by_cases e : i = k
      · subst e; simp [h]
      · have : (decide (i < k + 1)) = decide (i < k) := by simp; omega
        rw [this]; simp [e]
    · rw [if_neg h, ih i hi]
      by_cases e : i = k
      · subst e; simp [h]
      · have : (decide (i < k + 1)) = decide (i < k) := by simp; omega
        rw [this]
theorem lows_all (x : BitVec 32) : lows x 32 = x := by
  apply BitVec.eq_of_getLsbD_eq
  intro i hi
  rw [lows_bit x 32 i hi]
  simp [hi]
/-- Bits turned within 32 places are seen. -/
theorem turned_seen (l c : List UInt8) (n : Nat) (x : BitVec 32) (hx : x ≠ 0#32) (h : regs (inv 0#32) c = regs (inv 0#32) l ^^^ steps n x) : more 0#32 c ≠ more 0#32 l := by
  intro e
  unfold more at e
  have e' : regs (~~~0#32) c = regs (~~~0#32) l := by
    have := congrArg (fun y => ~~~y) e
    simpa using this
  rw [show inv 0#32 = ~~~0#32 from rfl] at h
  rw [h] at e'
  have h2 : steps n x = 0#32 := by
    have := congrArg (fun y => regs (~~~0#32) l ^^^ y) e'
    simp only [← BitVec.xor_assoc, BitVec.xor_self, BitVec.zero_xor] at this
    exact this
  exact hx (steps_eq_zero n x h2)
theorem turned_step (l c : List UInt8) (at_ k p : Nat) (x : BitVec 32) (hl : c.length = l.length) (h32 : at_ + 32 ≤ 8 * l.length) (hk : k < 32) (hp : p = at_ + k) (hb : x.getLsbD k = true)
    (h : regs (inv 0#32) c = regs (inv 0#32) l ^^^ steps (8 * l.length - at_) (lows x k)) (hpl : p / 8 < c.length) :
    regs (inv 0#32) (c.set (p / 8) (c[p / 8] ^^^ bit8 (p % 8))) = regs (inv 0#32) l ^^^ steps (8 * l.length - at_) (lows x (k + 1)) := by
  rw [regs_turn c (p / 8) (p % 8) hpl (by omega), h, lows, if_pos hb, steps_xor, BitVec.xor_assoc]
  congr 2
  have h1 := steps_bit' (8 * l.length - at_ - k) k hk
  rw [show 8 * l.length - at_ - k + k = 8 * l.length - at_ from by omega] at h1
  rw [h1, hl]
  congr 1
  omega
theorem turned_not (l c : List UInt8) (n k : Nat) (x : BitVec 32) (hb : x.getLsbD k = false)
    (h : regs (inv 0#32) c = regs (inv 0#32) l ^^^ steps n (lows x k)) : regs (inv 0#32) c = regs (inv 0#32) l ^^^ steps n (lows x (k + 1)) := by
  rw [h, lows, if_neg (by rw [hb]; decide)]

/-! ### the walk's spellings -/

theorem bits_and1 (y : BitVec 32) : bits .and .u32 (y.toNat : Int) 1 = if y.getLsbD 0 = true then 1 else 0 := by
  have h := u32_and_nat y.toNat 1 y.isLt (by omega)
  rw [show ((1 : Nat) : Int) = 1 from rfl] at h
  rw [h, nat_mask1]
  have h0 : y.getLsbD 0 = decide (y.toNat % 2 = 1) := by simp [BitVec.getLsbD, Nat.testBit_zero]
  rw [h0]
  by_cases h1 : y.toNat % 2 = 1
  · simp [h1]
  · have : y.toNat % 2 = 0 := by omega
    simp [this]
theorem bits_xor (x y : BitVec 32) : bits .xor .u32 (x.toNat : Int) (y.toNat : Int) = ((x ^^^ y).toNat : Int) := by
  rw [u32_xor_nat _ _ x.isLt y.isLt, BitVec.toNat_xor]
theorem half (y : BitVec 32) : ((y.toNat : Nat) : Int) / (2 : Int) = ((y >>> 1).toNat : Int) := by
  rw [BitVec.toNat_ushiftRight, Nat.shiftRight_eq_div_pow]
  omega
theorem xor_poly (x : BitVec 32) : bits .xor .u32 (x.toNat : Int) 3988292384 = ((x ^^^ poly).toNat : Int) := bits_xor x poly
def feed (x : BitVec 32) (c : UInt8) : BitVec 32 := x ^^^ wide c
theorem xor_byte (x : BitVec 32) (c : UInt8) : bits .xor .u32 (x.toNat : Int) (c.toNat : Int) = ((feed x c).toNat : Int) := by
  rw [← wide_toNat, bits_xor]; rfl
theorem xor_byte' (x : BitVec 32) (c : UInt8) : bits .xor .u32 (x.toNat : Int) ((c.toNat : Int) % 4294967296) = ((feed x c).toNat : Int) := by
  have : c.toNat < 256 := UInt8.toNat_lt c
  rw [show (c.toNat : Int) % 4294967296 = (c.toNat : Int) from by omega, xor_byte]
theorem not_u32 (s : BitVec 32) : bits .xor .u32 IntKind.u32.max (s.toNat : Int) = ((inv s).toNat : Int) := by
  rw [show IntKind.u32.max = (((BitVec.allOnes 32).toNat : Nat) : Int) from by decide, bits_xor, BitVec.allOnes_xor]; rfl
theorem shr_toNat (x : BitVec 32) (k : Nat) : (x >>> k).toNat = x.toNat / 2 ^ k := by rw [BitVec.toNat_ushiftRight, Nat.shiftRight_eq_div_pow]
theorem shr_int (x : BitVec 32) (k : Nat) : (x.toNat : Int) / (2 : Int) ^ k = ((x >>> k).toNat : Int) := by
  rw [shr_toNat, Int.natCast_ediv, Int.natCast_pow]
  rfl
theorem bit_yes {x : BitVec 32} {k : Nat} (h : x.getLsbD k = true) : (bits .and .u32 ((x.toNat : Int) / (2 : Int) ^ k) 1 == 1) = true := by
  rw [shr_int, bits_and1, if_pos (by rw [BitVec.getLsbD_ushiftRight]; exact h)]; rfl
theorem bit_no {x : BitVec 32} {k : Nat} (h : x.getLsbD k = false) : (bits .and .u32 ((x.toNat : Int) / (2 : Int) ^ k) 1 == 1) = false := by
  rw [shr_int, bits_and1, if_neg (by rw [BitVec.getLsbD_ushiftRight, Nat.add_zero, h]; decide)]; rfl
theorem byte_xor (c d : UInt8) : bits .xor .u8 (c.toNat : Int) (d.toNat : Int) = ((c ^^^ d).toNat : Int) := by
  rw [u8_xor_nat _ _ (UInt8.toNat_lt c) (UInt8.toNat_lt d)]
  rfl
theorem turn_byte (b : UInt8) (t : Nat) : bits .xor .u8 (b.toNat : Int) ((2 : Int) ^ t % (256 : Int)) = ((b ^^^ bit8 t).toNat : Int) := by
  rw [← byte_xor]
  congr 1
  unfold bit8
  rw [UInt8.toNat_ofNat']
  rw [show (2 : Int) ^ t = ((2 ^ t : Nat) : Int) from by rw [Int.natCast_pow]; rfl]
  omega
theorem and255 (n : Nat) (h : n < 4294967296) : bits .and .u32 (n : Int)  255 % (256 : Int) = ((n % 256 : Nat) : Int) := by
  have h1 := u32_and_nat n 255 h (by omega)
  rw [show ((255 : Nat) : Int) = 255 from rfl] at h1
  rw [h1, nat_mask8]
  omega
/-- The four bytes of a word, as the program cuts them. -/
theorem byte0 (x : BitVec 32) : bits .and .u32 (x.toNat : Int)  255 % (256 : Int) = ((low x).toNat : Int) := by
  rw [and255 _ x.isLt, low_toNat]
theorem byte1 (x : BitVec 32) : bits .and .u32 ((x.toNat : Int) / (256 : Int))  255 % (256 : Int) = ((low (x >>> 8)).toNat : Int) := by
  have := x.isLt
  rw [show (x.toNat : Int) / (256 : Int) = ((x.toNat / 256 : Nat) : Int) from by omega, and255 _ (by omega), low_toNat, shr_toNat]
theorem byte2 (x : BitVec 32) : bits .and .u32 ((x.toNat : Int) / (65536 : Int))  255 % (256 : Int) = ((low (x >>> 8 >>> 8)).toNat : Int) := by
  have := x.isLt
  rw [show (x.toNat : Int) / (65536 : Int) = ((x.toNat / 65536 : Nat) : Int) from by omega, and255 _ (by omega), low_toNat, shr_shr, shr_toNat]
theorem byte3 (x : BitVec 32) : (x.toNat : Int) / (16777216 : Int) = ((low (x >>> 8 >>> 8 >>> 8)).toNat : Int) := by
  have := x.isLt
  rw [low_toNat, shr_shr, shr_shr, shr_toNat]
  show (x.toNat : Int) / 16777216 = ((x.toNat / 16777216 % 256 : Nat) : Int)
  omega
/-- A number of the kind uint32 is a register. -/
theorem reg_of {n : Int} (h : (Lit.int .u32 n).wf = true) : ∃ x : BitVec 32, n = (x.toNat : Int) := by
  have h1 : 0 ≤ n ∧ n ≤ 4294967295 := by simpa [Lit.wf, IntKind.min, IntKind.max, IntKind.bits, IntKind.signed] using h
  refine ⟨BitVec.ofNat 32 n.toNat, ?_⟩
  rw [BitVec.toNat_ofNat]
  omega
theorem step_one (y : BitVec 32) (h : y.getLsbD 0 = true) : step y = (y >>> 1) ^^^ poly := by unfold step; rw [if_pos h]
theorem step_none (y : BitVec 32) (h : y.getLsbD 0 = false) : step y = y >>> 1 := by unfold step; rw [if_neg (by rw [h]; decide)]
end Go.Proofs.Ytbinmaamebdneaa.Crc

/-
  Plain facts on frames: a length's four bytes, the data, a sum's four bytes. No program is named here.
-/
namespace Go.Proofs.Ytbinmaamebdneaa.Fm
set_option linter.unusedSimpArgs false
set_option linter.unusedVariables false
open Crc

/-- The number that a text begins with, its lowest byte first. -/
def numN : List UInt8 → Nat
  | a :: b :: c :: d :: _ => a.toNat + 256 * b.toNat + 65536 * c.toNat + 16777216 * d.toNat
  | _ => 0

theorem numN_lt (l : List UInt8) : numN l < 4294967296 := by
  match l with
  | [] | [_] | [_, _] | [_, _, _] => simp [numN]
  | a :: b :: c :: d :: _ =>
    have := UInt8.toNat_lt a; have := UInt8.toNat_lt b; have := UInt8.toNat_lt c; have := UInt8.toNat_lt d
    simp only [numN]; omega

theorem word_length (x : BitVec 32) : (word x).length = 4 := rfl

theorem numN_word (x : BitVec 32) (t : List UInt8) : numN (word x ++ t) = x.toNat := by
  have h := x.isLt
  simp only [word, List.cons_append, List.nil_append, numN, low_toNat, shr_toNat, Nat.reducePow]
  omega

/-- Four bytes are the bytes of their number. -/
theorem word_numN (l : List UInt8) (h : l.length = 4) : word (BitVec.ofNat 32 (numN l)) = l := by
  match l, h with
  | [a, b, c, d], _ =>
    have h1 := UInt8.toNat_lt a; have h2 := UInt8.toNat_lt b; have h3 := UInt8.toNat_lt c; have h4 := UInt8.toNat_lt d
    have hx : (BitVec.ofNat 32 (numN [a, b, c, d])).toNat = numN [a, b, c, d] := by
      rw [BitVec.toNat_ofNat]; exact Nat.mod_eq_of_lt (numN_lt _)
    generalize BitVec.ofNat 32 (numN [a, b, c, d]) = x at *
    simp only [numN] at hx
    have e : ∀ (c : UInt8) (y : BitVec 32), y.toNat % 256 = c.toNat → low y = c := by
      intro c y hy
      apply UInt8.toNat_inj.1
      rw [low_toNat, hy]
    unfold word
    rw [e a x (by omega), e b (x >>> 8) (by rw [shr_toNat]; omega), e c (x >>> 8 >>> 8) (by rw [shr_toNat, shr_toNat]; omega), e d (x >>> 8 >>> 8 >>> 8) (by rw [shr_toNat, shr_toNat, shr_toNat]; omega)]

theorem numN_take (l : List UInt8) (k : Nat) (h : 4 ≤ k) : numN (l.take k) = numN l := by
  match l with
  | [] => simp
  | [a] => rw [List.take_of_length_le (by simp; omega)]
  | [a, b] => rw [List.take_of_length_le (by simp; omega)]
  | [a, b, c] => rw [List.take_of_length_le (by simp; omega)]
  | a :: b :: c :: d :: t =>
    obtain ⟨k, rfl⟩ : ∃ j, k = j + 4 := ⟨k - 4, by omega⟩
    simp [numN]

/-- What Cut answers: the kind, the data, what is behind. -/
def cutF (l : List UInt8) : Int × List UInt8 × List UInt8 :=
  if l.length < 4 then (3, [], [])
  else if 8192 < numN l then (2, [], [])
  else if l.length < 4 + numN l + 4 then (3, [], [])
  else if (more 0#32 (l.take (4 + numN l))).toNat = numN (l.drop (4 + numN l)) then (0, (l.take (4 + numN l)).drop 4, l.drop (4 + numN l + 4))
  else (2, [], [])

theorem cut_few {l : List UInt8} (h : l.length < 4) : cutF l = (3, [], []) := by unfold cutF; rw [if_pos h]
theorem cut_long {l : List UInt8} (h : ¬ l.length < 4) (h1 : 8192 < numN l) : cutF l = (2, [], []) := by unfold cutF; rw [if_neg h, if_pos h1]
theorem cut_cut {l : List UInt8} (h : ¬ l.length < 4) (h1 : ¬ 8192 < numN l) (h2 : l.length < 4 + numN l + 4) : cutF l = (3, [], []) := by unfold cutF; rw [if_neg h, if_neg h1, if_pos h2]
theorem cut_ok {l : List UInt8} (h : ¬ l.length < 4) (h1 : ¬ 8192 < numN l) (h2 : ¬ l.length < 4 + numN l + 4) (h3 : (more 0#32 (l.take (4 + numN l))).toNat = numN (l.drop (4 + numN l))) :
    cutF l = (0, (l.take (4 + numN l)).drop 4, l.drop (4 + numN l + 4)) := by unfold cutF; rw [if_neg h, if_neg h1, if_neg h2, if_pos h3]
theorem cut_bad {l : List UInt8} (h : ¬ l.length < 4) (h1 : ¬ 8192 < numN l) (h2 : ¬ l.length < 4 + numN l + 4) (h3 : ¬ (more 0#32 (l.take (4 + numN l))).toNat = numN (l.drop (4 + numN l))) :
    cutF l = (2, [], []) := by unfold cutF; rw [if_neg h, if_neg h1, if_neg h2, if_neg h3]

/-- What is behind is shorter, and of the data it is told how long it is. -/
theorem cut_lengths {l : List UInt8} (h : (cutF l).1 = 0) : (cutF l).2.1.length ≤ 8192 ∧ (cutF l).2.1.length + 8 + (cutF l).2.2.length = l.length ∧ (cutF l).2.2 = l.drop ((cutF l).2.1.length + 8) := by
  by_cases h0 : l.length < 4
  · rw [cut_few h0] at h; cases h
  by_cases h1 : 8192 < numN l
  · rw [cut_long h0 h1] at h; cases h
  by_cases h2 : l.length < 4 + numN l + 4
  · rw [cut_cut h0 h1 h2] at h; cases h
  by_cases h3 : (more 0#32 (l.take (4 + numN l))).toNat = numN (l.drop (4 + numN l))
  · rw [cut_ok h0 h1 h2 h3]
    have hl : ((l.take (4 + numN l)).drop 4).length = numN l := by rw [List.length_drop, List.length_take]; omega
    refine ⟨?_, ?_, ?_⟩
    · show ((l.take (4 + numN l)).drop 4).length ≤ 8192
      omega
    · show ((l.take (4 + numN l)).drop 4).length + 8 + (l.drop (4 + numN l + 4)).length = l.length
      rw [hl, List.length_drop]; omega
    · show l.drop (4 + numN l + 4) = l.drop (((l.take (4 + numN l)).drop 4).length + 8)
      rw [hl]; congr 1; omega
  · rw [cut_bad h0 h1 h2 h3] at h; cases h
theorem cut_kind (l : List UInt8) : (cutF l).1 = 0 ∨ ((cutF l).1 ≠ 0 ∧ (cutF l).2 = ([], [])) := by
  unfold cutF
  repeat' split
  all_goals simp

theorem cut_le (l : List UInt8) : (cutF l).2.1.length ≤ l.length ∧ (cutF l).2.2.length ≤ l.length := by
  rcases cut_kind l with h | ⟨_, h⟩
  · have := cut_lengths h
    omega
  · rw [h]; simp

/-- The frame of data. -/
def framed (d : List UInt8) : List UInt8 := (word (BitVec.ofNat 32 d.length) ++ d) ++ word (more 0#32 (word (BitVec.ofNat 32 d.length) ++ d))
theorem framed_length (d : List UInt8) : (framed d).length = 4 + d.length + 4 := by
  unfold framed
  rw [List.length_append, List.length_append, word_length, word_length]
theorem numN_head (n : Nat) (h : n ≤ 8192) (t : List UInt8) : numN (word (BitVec.ofNat 32 n) ++ t) = n := by
  rw [numN_word, BitVec.toNat_ofNat]
  exact Nat.mod_eq_of_lt (by omega)

theorem cut_framed (d r : List UInt8) (h : d.length ≤ 8192) : cutF (framed d ++ r) = (0, d, r) := by
  have hn : numN (framed d ++ r) = d.length := by
    unfold framed
    rw [List.append_assoc, List.append_assoc]
    exact numN_head _ h _
  have hl := framed_length d
  have e1 : (framed d ++ r).take (4 + numN (framed d ++ r)) = word (BitVec.ofNat 32 d.length) ++ d := by
    rw [hn, framed, List.append_assoc, List.take_append_of_le_length (by rw [List.length_append, word_length]; omega), List.take_of_length_le (by rw [List.length_append, word_length]; omega)]
  have e2 : (framed d ++ r).drop (4 + numN (framed d ++ r)) = word (more 0#32 (word (BitVec.ofNat 32 d.length) ++ d)) ++ r := by
    rw [hn, framed, List.append_assoc, List.drop_append_of_le_length (by rw [List.length_append, word_length]; omega), List.drop_of_length_le (by rw [List.length_append, word_length]; omega)]
    rfl
  have e3 : (framed d ++ r).drop (4 + numN (framed d ++ r) + 4) = r := by
    rw [hn, ← hl, List.drop_left]
  rw [cut_ok (by rw [List.length_append]; omega) (by rw [hn]; omega) (by rw [List.length_append, hn]; omega) (by rw [e1, e2, numN_word]), e1, e3]
  congr 1

/-- A frame that is cut off is too short. -/
theorem cut_framed_off (d : List UInt8) (h : d.length ≤ 8192) (k : Nat) (hk : k < (framed d).length) : cutF ((framed d).take k) = (3, [], []) := by
  have hl := framed_length d
  have hlen : ((framed d).take k).length = k := by rw [List.length_take]; omega
  by_cases h4 : k < 4
  · exact cut_few (by omega)
  have hn : numN ((framed d).take k) = d.length := by
    rw [numN_take _ _ (by omega)]
    unfold framed
    rw [List.append_assoc]
    exact numN_head _ h _
  exact cut_cut (by omega) (by omega) (by omega)

/-! ### all frames -/
/-- The data of the frames from the beginning on, how many bytes they took, what stopped them. -/
def allF : Nat → List UInt8 → List (List UInt8) × Nat × Int
  | 0, _ => ([], 0, 0)
  | f + 1, l => if l = [] then ([], 0, 0) else if (cutF l).1 = 0 then
      ((cutF l).2.1 :: (allF f (cutF l).2.2).1, (cutF l).2.1.length + 8 + (allF f (cutF l).2.2).2.1, (allF f (cutF l).2.2).2.2) else ([], 0, (cutF l).1)
theorem allF_fuel : ∀ (f g : Nat) (l : List UInt8), l.length ≤ f → l.length ≤ g → allF f l = allF g l
  | 0, 0, _, _, _ => rfl
  | 0, g + 1, l, h, _ => by
    obtain rfl : l = [] := List.eq_nil_of_length_eq_zero (by omega)
    simp [allF]
  | f + 1, 0, l, _, h => by
    obtain rfl : l = [] := List.eq_nil_of_length_eq_zero (by omega)
    simp [allF]
  | f + 1, g + 1, l, h1, h2 => by
    rw [allF, allF]
    by_cases h0 : l = []
    · rw [if_pos h0, if_pos h0]
    · rw [if_neg h0, if_neg h0]
      by_cases hk : (cutF l).1 = 0
      · have := (cut_lengths hk).2.1
        rw [if_pos hk, if_pos hk, allF_fuel f g _ (by omega) (by omega)]
      · rw [if_neg hk, if_neg hk]
def allOf (l : List UInt8) : List (List UInt8) × Nat × Int := allF l.length l
theorem all_none : allOf [] = ([], 0, 0) := rfl
theorem all_stop {l : List UInt8} (h0 : l ≠ []) (hk : (cutF l).1 ≠ 0) : allOf l = ([], 0, (cutF l).1) := by
  unfold allOf
  obtain ⟨n, hn⟩ : ∃ n, l.length = n + 1 := ⟨l.length - 1, by have := List.length_pos_iff.2 h0; omega⟩
  rw [hn, allF, if_neg h0, if_neg hk]
theorem all_step {l : List UInt8} (h0 : l ≠ []) (hk : (cutF l).1 = 0) : allOf l = ((cutF l).2.1 :: (allOf (cutF l).2.2).1, (cutF l).2.1.length + 8 + (allOf (cutF l).2.2).2.1, (allOf (cutF l).2.2).2.2) := by
  unfold allOf
  obtain ⟨n, hn⟩ : ∃ n, l.length = n + 1 := ⟨l.length - 1, by have := List.length_pos_iff.2 h0; omega⟩
  have := (cut_lengths hk).2.1
  conv => lhs; rw [hn, allF, if_neg h0, if_pos hk]
  rw [allF_fuel n (cutF l).2.2.length _ (by omega) (Nat.le_refl _)]

/-- So far the frames of the first u bytes have given ms. -/
def AllAt (l : List UInt8) (ms : List (List UInt8)) (u : Nat) : Prop := u ≤ l.length ∧ allOf l = (ms ++ (allOf (l.drop u)).1, u + (allOf (l.drop u)).2.1, (allOf (l.drop u)).2.2)
theorem allAt_zero (l : List UInt8) : AllAt l [] 0 := ⟨Nat.zero_le _, by simp⟩
theorem allAt_end {l : List UInt8} {ms : List (List UInt8)} {u : Nat} (h : AllAt l ms u) (hu : u = l.length) : allOf l = (ms, u, 0) := by
  rw [h.2, List.drop_of_length_le (by omega), all_none]
  simp
theorem drop_ne {l : List UInt8} {u : Nat} (h : u < l.length) : l.drop u ≠ [] := by
  intro e
  have := congrArg List.length e
  rw [List.length_drop, List.length_nil] at this
  omega
theorem allAt_stop {l : List UInt8} {ms : List (List UInt8)} {u : Nat} (h : AllAt l ms u) (hu : u < l.length) (hk : (cutF (l.drop u)).1 ≠ 0) : allOf l = (ms, u, (cutF (l.drop u)).1) := by
  rw [h.2, all_stop (drop_ne hu) hk]
  simp
theorem allAt_step {l : List UInt8} {ms : List (List UInt8)} {u : Nat} (h : AllAt l ms u) (hu : u < l.length) (hk : (cutF (l.drop u)).1 = 0) :
    u < l.length - (cutF (l.drop u)).2.2.length ∧ (cutF (l.drop u)).2.2 = l.drop (l.length - (cutF (l.drop u)).2.2.length) ∧ AllAt l (ms ++ [(cutF (l.drop u)).2.1]) (l.length - (cutF (l.drop u)).2.2.length) := by
  obtain ⟨h1, h2, h3⟩ := cut_lengths hk
  rw [List.length_drop] at h2
  have e : l.length - (cutF (l.drop u)).2.2.length = u + ((cutF (l.drop u)).2.1.length + 8) := by omega
  rw [List.drop_drop] at h3
  refine ⟨by omega, by rw [e]; exact h3, by omega, ?_⟩
  rw [h.2, all_step (drop_ne hu) hk, e, ← h3]
  show (ms ++ (cutF (l.drop u)).2.1 :: (allOf (cutF (l.drop u)).2.2).1, u + ((cutF (l.drop u)).2.1.length + 8 + (allOf (cutF (l.drop u)).2.2).2.1), _) = _
  rw [List.append_assoc, List.singleton_append, Nat.add_assoc, Nat.add_assoc, Nat.add_assoc]
/-- There are no more of them than bytes. -/
theorem allF_few : ∀ (f : Nat) (l : List UInt8), (allF f l).1.length ≤ l.length
  | 0, _ => Nat.zero_le _
  | f + 1, l => by
    rw [allF]
    split
    · exact Nat.zero_le _
    · split
      · rename_i hk
        have := (cut_lengths hk).2.1
        have := allF_few f (cutF l).2.2
        rw [List.length_cons]
        omega
      · exact Nat.zero_le _
theorem allAt_few {l : List UInt8} {ms : List (List UInt8)} {u : Nat} (h : AllAt l ms u) : ms.length ≤ l.length := by
  have h1 := allF_few l.length l
  have h2 : (allOf l).1.length = (ms ++ (allOf (l.drop u)).1).length := by rw [h.2]
  rw [List.length_append] at h2
  unfold allOf at h2
  omega

def frames (ds : List (List UInt8)) : List UInt8 := (ds.map framed).flatten
theorem frames_nil : frames [] = [] := rfl
theorem frames_cons (d : List UInt8) (ds : List (List UInt8)) : frames (d :: ds) = framed d ++ frames ds := rfl
theorem frames_append (a b : List (List UInt8)) : frames (a ++ b) = frames a ++ frames b := by simp [frames]
theorem frames_snoc (a : List (List UInt8)) (d : List UInt8) : frames (a ++ [d]) = frames a ++ framed d := by rw [frames_append]; simp [frames]
theorem framed_ne (d r : List UInt8) : framed d ++ r ≠ [] := by
  intro h
  have := congrArg List.length h
  rw [List.length_append, framed_length] at this
  simp at this
/-- All of whole frames with something behind them: these, and then what is behind. -/
theorem all_frames : ∀ (ds : List (List UInt8)) (r : List UInt8), (∀ d ∈ ds, d.length ≤ 8192) →
    allOf (frames ds ++ r) = (ds ++ (allOf r).1, (frames ds).length + (allOf r).2.1, (allOf r).2.2)
  | [], r, _ => by simp [frames]
  | d :: ds, r, h => by
    have hd : d.length ≤ 8192 := h d (by simp)
    have hc := cut_framed d (frames ds ++ r) hd
    have ih := all_frames ds r (fun x hx => h x (by simp [hx]))
    rw [frames_cons, List.append_assoc, all_step (framed_ne _ _) (by rw [hc]), hc]
    show (d :: (allOf (frames ds ++ r)).1, d.length + 8 + (allOf (frames ds ++ r)).2.1, (allOf (frames ds ++ r)).2.2) = _
    rw [ih, List.length_append, framed_length]
    congr 2
    show d.length + 8 + ((frames ds).length + (allOf r).2.1) = 4 + d.length + 4 + (frames ds).length + (allOf r).2.1
    omega
theorem all_whole (ds : List (List UInt8)) (h : ∀ d ∈ ds, d.length ≤ 8192) : allOf (frames ds) = (ds, (frames ds).length, 0) := by
  have := all_frames ds [] h
  rw [List.append_nil] at this
  rw [this, all_none]
  simp
/-- .. cut off within the next one. -/
theorem all_off (ds : List (List UInt8)) (d : List UInt8) (h : ∀ d ∈ ds, d.length ≤ 8192) (hd : d.length ≤ 8192) (k : Nat) (h0 : 0 < k) (hk : k < (framed d).length) :
    allOf (frames ds ++ (framed d).take k) = (ds, (frames ds).length, 3) := by
  have hc := cut_framed_off d hd k hk
  have hs : allOf ((framed d).take k) = ([], 0, 3) := by
    rw [all_stop (by intro e; have := congrArg List.length e; rw [List.length_take, List.length_nil] at this; omega) (by rw [hc]; decide), hc]
  rw [all_frames ds _ h, hs]
  simp

/-! ### a byte that is turned -/
theorem xor_ne (c t : UInt8) (h : t ≠ 0) : c ^^^ t ≠ c := by
  intro e
  have h2 : c ^^^ (c ^^^ t) = c ^^^ c := by rw [e]
  rw [← UInt8.xor_assoc] at h2
  simp at h2
  exact h h2
theorem regs_set (l : List UInt8) (j : Nat) (hj : j < l.length) (t : UInt8) (r : BitVec 32) :
    regs r (l.set j (l[j] ^^^ t)) = regs r l ^^^ steps (8 * (l.length - j)) (wide t) := by
  have e1 : l = l.take j ++ l[j] :: l.drop (j + 1) := by rw [← List.drop_eq_getElem_cons hj, List.take_append_drop]
  have e2 : l.set j (l[j] ^^^ t) = l.take j ++ (l[j] ^^^ t) :: l.drop (j + 1) := List.set_eq_take_append_cons_drop .. |>.trans (by rw [if_pos hj])
  rw [e2]
  conv => rhs; arg 1; rw [e1]
  rw [regs_append, regs_cons, regs_append, regs_cons]
  generalize regs r (l.take j) = x
  have h1 : upd x (l[j] ^^^ t) = upd x l[j] ^^^ steps 8 (wide t) := by
    have h2 := upd_both x 0#32 l[j] t
    rw [BitVec.xor_zero] at h2
    rw [h2]
    congr 1
    unfold upd
    rw [BitVec.zero_xor]
  rw [h1, regs_xor, ← steps_add]
  congr 2
  rw [List.length_drop]
  omega
theorem wide_ne {t : UInt8} (h : t ≠ 0) : wide t ≠ 0#32 := by
  intro e
  have := congrArg BitVec.toNat e
  rw [wide_toNat] at this
  apply h
  exact UInt8.toNat_inj.1 this
theorem more_set (l : List UInt8) (j : Nat) (hj : j < l.length) (t : UInt8) (ht : t ≠ 0) : more 0#32 (l.set j (l[j] ^^^ t)) ≠ more 0#32 l :=
  turned_seen l _ _ _ (wide_ne ht) (regs_set l j hj t _)
/-- A byte of a frame that is turned, but of its length, is seen. -/
theorem cut_turned (d : List UInt8) (h : d.length ≤ 8192) (j : Nat) (h4 : 4 ≤ j) (hj : j < (framed d).length) (t : UInt8) (ht : t ≠ 0) :
    cutF ((framed d).set j ((framed d)[j] ^^^ t)) = (2, [], []) := by
  have hl := framed_length d
  have hg0 : ∀ x, (framed d)[j]? = some x → (framed d)[j] = x := fun x hx => by rw [List.getElem?_eq_getElem hj] at hx; exact Option.some.inj hx
  obtain ⟨y, hy⟩ : ∃ y, (framed d)[j] = y := ⟨_, rfl⟩
  rw [hy]
  generalize hz : (framed d).set j (y ^^^ t) = z
  have hzl : z.length = 4 + d.length + 4 := by rw [← hz, List.length_set, hl]
  have hn : numN z = d.length := by
    have e : z.take 4 = (framed d).take 4 := by rw [← hz, List.take_set_of_le h4]
    rw [← numN_take z 4 (Nat.le_refl _), e, numN_take _ 4 (Nat.le_refl _)]
    unfold framed
    rw [List.append_assoc]
    exact numN_head _ h _
  refine cut_bad (by omega) (by omega) (by omega) ?_
  rw [hn]
  intro e
  generalize hb : word (BitVec.ofNat 32 d.length) ++ d = b at *
  have hbl : b.length = 4 + d.length := by rw [← hb, List.length_append, word_length]
  have hf : framed d = b ++ word (more 0#32 b) := by rw [framed, hb]
  by_cases hin : j < 4 + d.length
  · have hjb : j < b.length := by rw [hbl]; exact hin
    have e1 : z.take (4 + d.length) = b.set j (b[j]'hjb ^^^ t) := by
      have hg : y = b[j]'hjb := by rw [← hy]; exact hg0 _ (by rw [hf, List.getElem?_append_left (by omega), List.getElem?_eq_getElem])
      rw [← hz, hg, List.take_set, hf, List.take_append_of_le_length (by omega), List.take_of_length_le (by omega)]
    have e2 : z.drop (4 + d.length) = word (more 0#32 b) := by
      rw [← hz, List.drop_set_of_lt (by omega), hf, ← hbl, List.drop_left]
    rw [e1, e2] at e
    have h3 := numN_word (more 0#32 b) []
    rw [List.append_nil] at h3
    rw [h3] at e
    exact more_set b j hjb t ht (BitVec.eq_of_toNat_eq e)
  · have e1 : z.take (4 + d.length) = b := by
      rw [← hz, List.take_set_of_le (by omega), hf, List.take_append_of_le_length (by omega), List.take_of_length_le (by omega)]
    rw [e1] at e
    have hdl : (z.drop (4 + d.length)).length = 4 := by rw [List.length_drop]; omega
    have e2 : word (more 0#32 b) = z.drop (4 + d.length) := by
      have h3 := word_numN _ hdl
      rw [← e, BitVec.ofNat_toNat, BitVec.setWidth_eq] at h3
      exact h3
    have e3 : z = framed d := by
      rw [hf, e2]
      conv => lhs; rw [← List.take_append_drop (4 + d.length) z, e1]
    have e4 : z[j]? = (framed d)[j]? := by rw [e3]
    rw [← hz, List.getElem?_set_self hj, List.getElem?_eq_getElem hj, hy] at e4
    exact xor_ne _ _ ht (Option.some.inj e4)
end Go.Proofs.Ytbinmaamebdneaa.Fm

/-
  What the functions of package crc, and of its reference, answer.
-/
namespace Go.Proofs.Ytbinmaamebdneaa
set_option linter.unusedSimpArgs false
set_option linter.unusedVariables false
open Go.RowKit Crc

theorem int_of {k : IntKind} {a b : Int} (h : a = b) : Value.int k a = Value.int k b := by rw [h]
theorem ret_of {k : IntKind} {a b : Int} (h : a = b) : Ending.returned (.int k a) = .returned (.int k b) := by rw [h]

theorem and1_yes {y : BitVec 32} (h : y.getLsbD 0 = true) : (bits .and .u32 (y.toNat : Int) 1 == 1) = true := by rw [bits_and1, if_pos h]; rfl
theorem and1_no {y : BitVec 32} (h : y.getLsbD 0 = false) : (bits .and .u32 (y.toNat : Int) 1 == 1) = false := by rw [bits_and1, if_neg (by rw [h]; decide)]; rfl

set_option maxHeartbeats 400000 in
theorem eight_any (x : BitVec 32) (w : World) :
    Calls Try.prog 65 #[.int .u32 x.toNat] w fun e w' => e = .returned (.int .u32 (steps 8 x).toNat) ∧ w = w' := by
  go_enter Try.func65, Try.ntmps65
  go_wp2
  go_loop [0,3,4] (fun a _ i => ∃ k : Nat, k ≤ 8 ∧ i = .int .i64 k ∧ a = .int .u32 (steps k x).toNat) (fun _ _ i => 8 - (intOf i).toNat)
  case atStart => exact ⟨0, by omega, rfl, rfl⟩
  case round =>
    obtain ⟨k, hk, rfl, rfl⟩ := hrel
    by_cases hlt : k < 8
    · cases hb : (steps k x).getLsbD 0
      · have h1 := and1_no hb
        have H : Hid (Crc.step (steps k x) = steps k x >>> 1) := step_none _ hb
        clear hb
        go_wp2
        go_round
        case rel => exact ⟨k + 1, by omega, by go_num, by rw [steps, H.out, half]⟩
        case measure => simp [intOf]; omega
      · have h1 := and1_yes hb
        have H : Hid (Crc.step (steps k x) = steps k x >>> 1 ^^^ poly) := step_one _ hb
        clear hb
        go_wp2
        go_round
        case rel => exact ⟨k + 1, by omega, by go_num, by rw [steps, H.out, half, xor_poly]⟩
        case measure => simp [intOf]; omega
    · obtain rfl : k = 8 := by omega
      go_wp2
      go_ret
      exact ⟨rfl, rfl⟩

theorem take_snoc {α : Type} (l : List α) {k : Nat} (h : k < l.length) : l.take (k + 1) = l.take k ++ [l[k]] := by
  rw [List.take_succ_eq_append_getElem h]
theorem regs_take (r : BitVec 32) (l : List UInt8) {k : Nat} (h : k < l.length) : regs r (l.take (k + 1)) = steps 8 (feed (regs r (l.take k)) l[k]) := by
  rw [take_snoc l h, regs_snoc]; rfl

set_option maxHeartbeats 400000 in
theorem more_any (s : BitVec 32) (A : Option Addr) (n c : Nat) (l : List UInt8) (w : World) (hA : Holds w A (bytes l)) (hn : l.length = n) (hc : n ≤ 9223372036854775807) :
    Calls Try.prog 60 #[.int .u32 s.toNat, .slice A n c] w fun e w' => e = .returned (.int .u32 (more s l).toNat) ∧ w = w' := by
  subst hn
  have hnot := not_u32 s
  go_enter Try.func60, Try.ntmps60
  go_wp2
  clear hnot
  go_loop [5, 7, 12] (fun r _ i => ∃ k : Nat, k ≤ l.length ∧ i = .int .i64 k ∧ r = .int .u32 (regs (inv s) (l.take k)).toNat) (fun _ _ i => l.length - (intOf i).toNat)
  case atStart => exact ⟨0, by omega, rfl, by simp [regs_nil]⟩
  case round =>
    obtain ⟨k, hk, rfl, rfl⟩ := hrel
    by_cases hlt : k < l.length
    · obtain ⟨b, off, rfl, hcell⟩ := hA.at_ hlt
      have hb := xor_byte' (regs (inv s) (l.take k)) l[k]
      have H := hid_ (regs_take (inv s) l hlt)
      go_wp2_with (go_at_call 65; refine (eight_any _ _).mono ?_; rintro e w' ⟨rfl, rfl⟩)
      go_round
      case rel => exact ⟨k + 1, by omega, by go_num, by rw [H.out]⟩
      case measure => simp [intOf]; omega
    · obtain rfl : k = l.length := by omega
      go_wp2
      go_ret
      refine ⟨ret_of ?_, rfl⟩
      rw [not_u32]; rfl

set_option maxHeartbeats 400000 in
theorem sum_any (A : Option Addr) (n c : Nat) (l : List UInt8) (w : World) (hA : Holds w A (bytes l)) (hn : l.length = n) (hc : n ≤ 9223372036854775807) :
    Calls Try.prog 49 #[.slice A n c] w fun e w' => e = .returned (.int .u32 (more 0#32 l).toNat) ∧ w = w' := by
  have h1 := hid_ (more_any 0 A n c l w hA hn hc)
  go_enter Try.func49, Try.ntmps49
  go_wp2_with (go_at_call 60; refine h1.out.mono ?_; rintro e w' ⟨rfl, rfl⟩)
  go_ret
  exact ⟨rfl, rfl⟩

end Go.Proofs.Ytbinmaamebdneaa

/-
  What the functions of package frame answer.
-/
namespace Go.Proofs.Ytbinmaamebdneaa
set_option linter.unusedSimpArgs false
set_option linter.unusedVariables false
open Go.RowKit Crc Fm

theorem low_byte (x : BitVec 32) : (x.toNat : Int) % (256 : Int) = ((low x).toNat : Int) := by rw [low_toNat]; omega
theorem shr8 (x : BitVec 32) : (x.toNat : Int) / (256 : Int) = ((x >>> 8).toNat : Int) := by rw [shr_toNat]; omega

/-- The word that is left behind k bytes. -/
def left (x : BitVec 32) : Nat → BitVec 32
  | 0 => x
  | k + 1 => left x k >>> 8
theorem word_take (x : BitVec 32) {k : Nat} (h : k < 4) : (word x).take (k + 1) = (word x).take k ++ [low (left x k)] := by
  match k, h with
  | 0, _ | 1, _ | 2, _ | 3, _ => rfl

set_option maxHeartbeats 400000 in
theorem putWord_any (B : Nat) (A : Option Addr) (n c : Nat) (l : List UInt8) (x : BitVec 32) (w : World) (hown : Own B w A n c l) (hB : B ≤ w.heap.size) (hn : n ≤ 140737488355000) :
    Calls Try.prog 48 #[.slice A n c, .int .u32 x.toNat] w fun e w' => ∃ A' c', e = .returned (.slice A' (n + 4) c') ∧ Own B w' A' (n + 4) c' (l ++ word x) ∧ Below B w w' := by
  go_enter Try.func48, Try.ntmps48
  go_wp2
  go_loopw [0, 1, 5] (fun s y i wr => ∃ k A' c', k ≤ 4 ∧ i = .int .i64 (k : Nat) ∧ s = .slice A' (n + k) c' ∧ y = .int .u32 (left x k).toNat ∧ Own B wr A' (n + k) c' (l ++ (word x).take k) ∧ Below B w wr) (fun _ _ i _ => 4 - (intOf i).toNat)
  case atStart => exact ⟨0, A, c, by omega, rfl, rfl, rfl, by simpa using hown, Below.refl _ _⟩
  case round =>
    obtain ⟨k, A', c', hk, rfl, rfl, rfl, ho, hb⟩ := hrel
    by_cases hlt : k < 4
    · have Ho := hid_ ho
      have Hb := hid_ hb
      clear ho hb
      have Hl := hid_ (fun W : World => own_lit W [low (left x k)] #[.int .u8 ((left x k).toNat % (256 : Int))] (by rw [low_byte]; rfl) 1 rfl (by omega) B)
      have Hw := hid_ (word_take x hlt)
      have Hr := hid_ (show n + k + 1 ≤ 140737488355328 by omega)
      have hbw := Hb.out.size
      have Hh := hid_ (show left x (k + 1) = left x k >>> 8 from rfl)
      go_wp2_with (at_builtin; refine wpList_bytes rfl (.tmp 7) (.tmp 10) rfl B A' (n + k) c' _ rfl (Ho.out.alloc _) (some ⟨wr.heap.size, 0, none⟩) 1 1 [low (left x k)] rfl (Hl.out wr (by omega)).sl (n + k + 1) _ rfl rfl Hr.out (by simp; omega) ?_; intro A2 c2 w2 ho2 hb2)
      go_roundw
      case rel => exact ⟨k + 1, A2, c2, by omega, by go_num, by rw [Nat.add_assoc], by rw [Hh.out, shr8], by rw [List.append_assoc, ← Hw.out] at ho2; exact ho2, Hb.out.trans (((Below.refl _ _).alloc (by omega) _).trans hb2)⟩
      case measure => simp [intOf]; omega
    · obtain rfl : k = 4 := by omega
      have Ho := hid_ ho
      have Hb := hid_ hb
      clear ho hb
      go_wp2
      go_ret
      exact ⟨A', c', rfl, Ho.out, Hb.out⟩

def numK (l : List UInt8) : Nat → Nat
  | 0 => 0
  | k + 1 => numK l k + (l.getD k 0).toNat * 2 ^ (8 * k)
theorem numK_lt (l : List UInt8) (k : Nat) (h : k ≤ 4) : numK l k < 2 ^ (8 * k) := by
  have h0 := UInt8.toNat_lt (l.getD 0 0); have h1 := UInt8.toNat_lt (l.getD 1 0); have h2 := UInt8.toNat_lt (l.getD 2 0); have h3 := UInt8.toNat_lt (l.getD 3 0)
  match k, h with
  | 0, _ => simp [numK]
  | 1, _ => simp only [numK]; omega
  | 2, _ => simp only [numK]; omega
  | 3, _ => simp only [numK]; omega
  | 4, _ => simp only [numK]; omega
theorem numK_all {l : List UInt8} (h : 4 ≤ l.length) : numK l 4 = numN l := by
  match l, h with
  | a :: b :: c :: d :: t, _ =>
    simp [numK, numN]
    omega

theorem pow8 {k : Nat} (h : k < 4) : (2 : Nat) ^ (8 * k) ≤ 16777216 :=
  Nat.le_trans (Nat.pow_le_pow_right (by omega) (show 8 * k ≤ 24 by omega)) (Nat.le_refl _)
theorem num_or (l : List UInt8) {k : Nat} (h : k < 4) (hk : k < l.length) :
    bits .or .u32 (numK l k : Nat) ((l[k].toNat : Int) % (4294967296 : Int) * (2 : Int) ^ (8 * k) % (4294967296 : Int)) = (numK l (k + 1) : Nat) := by
  have h1 := numK_lt l k (by omega)
  have hc := UInt8.toNat_lt l[k]
  have hp := pow8 h
  have hm : l[k].toNat * 2 ^ (8 * k) < 4294967296 :=
    Nat.lt_of_le_of_lt (Nat.mul_le_mul_left _ hp) (by omega)
  have e : (l[k].toNat : Int) % (4294967296 : Int) * (2 : Int) ^ (8 * k) % (4294967296 : Int) = ((l[k].toNat * 2 ^ (8 * k) : Nat) : Int) := by
    rw [show (l[k].toNat : Int) % (4294967296 : Int) = (l[k].toNat : Int) from by omega, show (2 : Int) ^ (8 * k) = ((2 ^ (8 * k) : Nat) : Int) from by rw [Int.natCast_pow]; rfl, ← Int.natCast_mul]
    omega
  have hn : numK l k < 4294967296 := by omega
  rw [e, u32_or_nat _ _ hn hm, Nat.or_comm, nat_join (8 * k) _ _ (Nat.mul_mod_left _ _) h1, numK, Nat.add_comm]
  congr 4
  simp [hk]

set_option maxHeartbeats 400000 in
theorem word_any (A : Option Addr) (n c : Nat) (l : List UInt8) (w : World) (hs : Sl w A n c l) (h4 : 4 ≤ n) :
    Calls Try.prog 77 #[.slice A n c] w fun e w' => e = .returned (.int .u32 (numN l : Nat)) ∧ w = w' := by
  have hle := hs.le
  go_enter Try.func77, Try.ntmps77
  go_wp2
  go_loop [3, 4, 5] (fun s _ i => ∃ k : Nat, k ≤ 4 ∧ i = .int .i64 (k : Nat) ∧ s = .int .u32 (numK l k : Nat)) (fun _ _ i => 4 - (intOf i).toNat)
  case atStart => exact ⟨0, by omega, rfl, rfl⟩
  case round =>
    obtain ⟨k, hk, rfl, rfl⟩ := hrel
    by_cases hlt : k < 4
    · have hkl : k < l.length := by rw [hs.len]; omega
      obtain ⟨b, off, rfl, hcell⟩ := hs.holds.at_ hkl
      have hnk := numK_lt l k (by omega)
      have hkn : k < n := by omega
      go_wp2
      go_round
      case rel => exact ⟨k + 1, by omega, by go_num, int_of (num_or l hlt hkl)⟩
      case measure => simp [intOf]; omega
    · obtain rfl : k = 4 := by omega
      have Hn := hid_ (numK_all (l := l) (by rw [hs.len]; exact h4))
      go_wp2
      go_ret
      exact ⟨ret_of (by rw [Hn.out]), rfl⟩
theorem putWord_at (B : Nat) (A : Option Addr) (n c : Nat) (l : List UInt8) (x : BitVec 32) (v : Int) (w : World) (hv : v = (x.toNat : Int)) (hown : Own B w A n c l) (hB : B ≤ w.heap.size) (hn : n ≤ 140737488355000) :
    Calls Try.prog 48 #[.slice A n c, .int .u32 v] w fun e w' => ∃ A' c', e = .returned (.slice A' (n + 4) c') ∧ Own B w' A' (n + 4) c' (l ++ word x) ∧ Below B w w' := by
  subst hv
  exact putWord_any B A n c l x w hown hB hn

def CutPost (w : World) (l : List UInt8) (e : Ending) (w' : World) : Prop :=
  ∃ A1 n1 c1 A2 n2 c2, e = .returned (.tuple #[.slice A1 n1 c1, .slice A2 n2 c2, .int .i64 (cutF l).1]) ∧ Sl w' A1 n1 c1 (cutF l).2.1 ∧ Sl w' A2 n2 c2 (cutF l).2.2 ∧ Below w.heap.size w w'
theorem cutPost_none {w w' : World} {l : List UInt8} {k : Int} (h : cutF l = (k, [], [])) (hb : Below w.heap.size w w') :
    CutPost w l (.returned (.tuple #[.slice none 0 0, .slice none 0 0, .int .i64 k])) w' :=
  ⟨none, 0, 0, none, 0, 0, by rw [h], by rw [h]; exact Sl.none _, by rw [h]; exact Sl.none _, hb⟩

theorem cutPost_ok {w w' : World} {l d r : List UInt8} {A1 A2 : Option Addr} {n1 c1 n2 c2 : Nat} (h : cutF l = (0, d, r)) (h1 : Sl w' A1 n1 c1 d) (h2 : Sl w' A2 n2 c2 r) (hb : Below w.heap.size w w') :
    CutPost w l (.returned (.tuple #[.slice A1 n1 c1, .slice A2 n2 c2, .int .i64 0])) w' :=
  ⟨A1, n1, c1, A2, n2, c2, by rw [h], by rw [h]; exact h1, by rw [h]; exact h2, hb⟩

set_option maxHeartbeats 1000000 in
theorem parted_any (A : Option Addr) (n c : Nat) (l : List UInt8) (w : World) (hs : Sl w A n c l) :
    Calls Try.prog 64 #[.slice A n c] w (CutPost w l) := by
  have hle := hs.le
  have hcm := hs.max
  have hnc := hs.cap
  have Hs := hid_ hs
  have Hlen := hid_ hs.len
  clear hs
  by_cases h4 : n < 4
  · have Hc := hid_ (cut_few (l := l) (by rw [Hlen.out]; exact h4))
    go_enter Try.func64, Try.ntmps64
    go_wp2
    go_ret3
    exact cutPost_none Hc.out (Below.refl _ _)
  have hN := numN_lt l
  have Hw := hid_ (fun W (h : Sl W A n c l) => word_any A n c l W h (by omega))
  have Hl4 := hid_ (show ¬ l.length < 4 by rw [Hlen.out]; exact h4)
  by_cases hbig : 8192 < numN l
  · have Hc := hid_ (cut_long Hl4.out hbig)
    go_enter Try.func64, Try.ntmps64
    go_wp2_with (go_at_call 77; refine (Hw.out _ Hs.out).mono ?_; rintro e w' ⟨rfl, rfl⟩)
    go_ret3
    exact cutPost_none Hc.out (Below.refl _ _)
  by_cases hsh : n < 4 + numN l + 4
  · have Hc := hid_ (cut_cut Hl4.out hbig (by rw [Hlen.out]; exact hsh))
    go_enter Try.func64, Try.ntmps64
    go_wp2_with (go_at_call 77; refine (Hw.out _ Hs.out).mono ?_; rintro e w' ⟨rfl, rfl⟩)
    go_ret3
    exact cutPost_none Hc.out (Below.refl _ _)
  have hup := Hs.out.upto (4 + numN l) (by omega)
  have hfr := Hs.out.from_ (4 + numN l) (by omega)
  have hcut : cutAt A c (4 + numN l) = A.map fun x => x.add (4 + numN l) := if_neg (by omega)
  rw [hcut] at hfr
  have Hsum := hid_ (fun k => sum_any A (4 + numN l) c (l.take (4 + numN l)) (w.drewN k) (hup.drew k).holds hup.len (by omega))
  have Hnum := hid_ (fun k => word_any _ (n - (4 + numN l)) (c - (4 + numN l)) (l.drop (4 + numN l)) (w.drewN k) (hfr.drew k) (by omega))
  have hN2 := numN_lt (l.drop (4 + numN l))
  have hM2 := (more 0#32 (l.take (4 + numN l))).isLt
  by_cases hsum : (more 0#32 (l.take (4 + numN l))).toNat = numN (l.drop (4 + numN l))
  · have Hd := hid_ ((hup.tight (4 + numN l) (by omega) (by omega)).from_ 4 (by omega))
    have Hr := hid_ (Hs.out.from_ (4 + numN l + 4) (by omega))
    have Hc := hid_ (cut_ok Hl4.out hbig (by rw [Hlen.out]; exact hsh) hsum)
    have hb : (((more 0#32 (l.take (4 + numN l))).toNat : Int) != (numN (l.drop (4 + numN l)) : Int)) = false := by rw [hsum]; simp
    clear hsum hup hfr hcut
    go_enter Try.func64, Try.ntmps64
    go_wp2_with (go_at_call 77; refine (Hw.out _ Hs.out).mono ?_; rintro e w' ⟨rfl, rfl⟩)
    go_quiet ((first | (go_at_call 49; exact Calls.quiet_of_same (quiet_flip (Hsum.out _))) | (go_at_call 77; exact Calls.quiet_of_same (quiet_flip (Hnum.out _)))))
    clear Hw Hsum Hnum hN2 hM2
    go_wp2_with fail
    go_quiet (fail)
    go_wp2_with fail
    all_goals
      go_ret3
      refine cutPost_ok Hc.out (Sl.drew (Hd.out.at_ (by first | exact cutAt_same (by omega) | exact cutAt_off (by omega) (by omega) (by omega)) (by omega) (by omega) rfl) _) (Sl.drew (Hr.out.at_ (by first | exact cutAt_same (by omega) | exact cutAt_off (by omega) (by omega) (by omega)) (by omega) (by omega) rfl) _) (below_drewN (Below.refl _ _) _)
  · have Hc := hid_ (cut_bad Hl4.out hbig (by rw [Hlen.out]; exact hsh) hsum)
    have hb : (((more 0#32 (l.take (4 + numN l))).toNat : Int) != (numN (l.drop (4 + numN l)) : Int)) = true := by rw [bne_iff_ne]; omega
    clear hsum hup hfr hcut
    go_enter Try.func64, Try.ntmps64
    go_wp2_with (go_at_call 77; refine (Hw.out _ Hs.out).mono ?_; rintro e w' ⟨rfl, rfl⟩)
    go_quiet ((first | (go_at_call 49; exact Calls.quiet_of_same (quiet_flip (Hsum.out _))) | (go_at_call 77; exact Calls.quiet_of_same (quiet_flip (Hnum.out _)))))
    clear Hw Hsum Hnum hN2 hM2
    go_wp2_with fail
    go_ret3
    exact cutPost_none Hc.out (below_drewN (Below.refl _ _) _)
def SlPost (w : World) (n : Nat) (l : List UInt8) (e : Ending) (w' : World) : Prop := ∃ A c, e = .returned (.slice A n c) ∧ Own w.heap.size w' A n c l ∧ Below w.heap.size w w'

set_option maxHeartbeats 400000 in
theorem clone_any (A : Option Addr) (n c : Nat) (l : List UInt8) (w : World) (hs : Sl w A n c l) (hn : n ≤ 140737488355328) :
    Calls Try.prog 27 #[.slice A n c] w (SlPost w n l) := by
  have kn := fun (w : World) (a : Option Addr) (n c : Nat) => Lib.run_eql_slice_nil (P := Try.prog) w 33 5 a n c 0 0 Try.underlying33
  rcases A with _ | ad
  · have hc := hs.nil rfl
    have hn' := hs.cap
    obtain rfl : c = 0 := hc
    obtain rfl : n = 0 := by omega
    have hl : l = [] := List.eq_nil_of_length_eq_zero hs.len
    subst hl
    go_enter Try.func27, Try.ntmps27
    go_wp2_with fail
    go_ret
    exact ⟨none, 0, rfl, Own.none _ _, Below.refl _ _⟩
  · have Hs := hid_ hs
    clear hs
    have Hl := hid_ (own_lit w [] #[] rfl 0 rfl (by omega) w.heap.size (Nat.le_refl _))
    go_enter Try.func27, Try.ntmps27
    go_wp2_with (at_builtin; refine wpList_bytes rfl (.tmp 5) (.tmp 6) rfl w.heap.size _ 0 0 [] rfl Hl.out _ n c l rfl (Hs.out.below ((Below.refl _ _).alloc (Nat.le_refl _) _)) n l (by omega) rfl hn (by simp) ?_; intro A2 c2 w2 ho2 hb2)
    go_ret
    exact ⟨A2, c2, rfl, ho2, ((Below.refl _ _).alloc (Nat.le_refl _) _).trans hb2⟩
theorem cutPost_mk {w w' : World} {l : List UInt8} {k : Int} {A1 A2 : Option Addr} {n1 c1 n2 c2 : Nat} (h : (cutF l).1 = k) (h1 : Sl w' A1 n1 c1 (cutF l).2.1) (h2 : Sl w' A2 n2 c2 (cutF l).2.2) (hb : Below w.heap.size w w') :
    CutPost w l (.returned (.tuple #[.slice A1 n1 c1, .slice A2 n2 c2, .int .i64 k])) w' := ⟨A1, n1, c1, A2, n2, c2, by rw [h], h1, h2, hb⟩
def PutPost (w : World) (n : Nat) (l : List UInt8) (e : Ending) (w' : World) : Prop := ∃ A c, e = .returned (.tuple #[.slice A n c, .int .i64 0]) ∧ Own w.heap.size w' A n c l ∧ Below w.heap.size w w'

set_option maxHeartbeats 400000 in
theorem put_large (A0 A1 : Option Addr) (n0 c0 n1 c1 : Nat) (w : World) (h : 8192 < n1) :
    Calls Try.prog 33 #[.slice A0 n0 c0, .slice A1 n1 c1] w fun e w' => e = .returned (.tuple #[.slice none 0 0, .int .i64 4]) ∧ w = w' := by
  go_enter Try.func33, Try.ntmps33
  go_wp2
  go_ret2
  exact ⟨rfl, rfl⟩

theorem putPost_mk {w w' : World} {A : Option Addr} {n c : Nat} {l : List UInt8} (h : Own w.heap.size w' A n c l) (hb : Below w.heap.size w w') : PutPost w n l (.returned (.tuple #[.slice A n c, .int .i64 0])) w' := ⟨A, c, rfl, h, hb⟩
theorem framed_tail {w : World} {A : Option Addr} {n0 n1 c : Nat} {l0 m l1 : List UInt8} (h : Sl w A (n0 + 4 + n1) c (l0 ++ m ++ l1)) (hl : l0.length = n0) (hne : ¬ c = n0) :
    Sl w (A.map fun x => x.add n0) (n0 + 4 + n1 - n0) (c - n0) (m ++ l1) := by
  have h1 := h.from_ n0 (by omega)
  rw [cutAt_add hne, List.append_assoc, ← hl, List.drop_left] at h1
  rw [hl] at h1
  exact h1
set_option maxHeartbeats 1000000 in
theorem put_any (A0 A1 : Option Addr) (n0 c0 n1 c1 : Nat) (l0 l1 : List UInt8) (w : World) (h0 : Sl w A0 n0 c0 l0) (h1 : Sl w A1 n1 c1 l1) (hn : n1 ≤ 8192) (hm : n0 ≤ 140737488000000) :
    Calls Try.prog 33 #[.slice A0 n0 c0, .slice A1 n1 c1] w (PutPost w (n0 + 4 + n1 + 4) (l0 ++ framed l1)) := by
  have H0 := hid_ h0
  have H1 := hid_ h1
  have Hlen := hid_ h1.len
  have Hlen0 := hid_ h0.len
  clear h0 h1
  go_enter Try.func33, Try.ntmps33
  have Hx := hid_ (show (n1 : Int) = ((BitVec.ofNat 32 n1).toNat : Int) by rw [BitVec.toNat_ofNat]; omega)
  go_wp2_with (first
    | (at_make; (with_reducible refine wpList_makeBytes rfl _ _ rfl _ (n0 + 4 + n1 + 4) rfl rfl (by omega) (by omega) ?_); intro B1 d1 w1 ho' hb'; have Ho1 := hid_ ho'; have Hb1 := hid_ hb'; clear ho' hb')
    | (at_builtin; refine wpList_bytes rfl (.tmp 18) (.tmp 19) rfl w.heap.size _ 0 _ [] rfl Ho1.out _ n0 c0 l0 rfl (H0.out.below Hb1.out) n0 l0 (by omega) rfl (by omega) Hb1.out.size ?_; intro B2 d2 w2 ho' hb'; have Ho2 := hid_ ho'; have Hb2 := hid_ (Hb1.out.trans hb'); clear ho' hb')
    | (go_at_call 48; (with_reducible refine Calls.mono (putWord_at w.heap.size B2 n0 d2 l0 (BitVec.ofNat 32 n1) _ w2 Hx.out Ho2.out Hb2.out.size (by omega)) ?_); rintro e w3 ⟨B3, d3, rfl, ho', hb'⟩; have Ho3 := hid_ ho'; have Hb3 := hid_ (Hb2.out.trans hb'); clear ho' hb')
    | (at_builtin; refine wpList_bytes rfl (.tmp 26) (.tmp 27) rfl w.heap.size _ (n0 + 4) _ _ rfl Ho3.out _ n1 c1 l1 rfl (H1.out.below Hb3.out) (n0 + 4 + n1) _ rfl rfl (by omega) Hb3.out.size ?_; intro B4 d4 w4 ho' hb'; have Ho4 := hid_ ho'; have Hb4 := hid_ (Hb3.out.trans hb'); have hne : ¬ d4 = n0 := (by have := Ho4.out.sl.cap; omega); clear ho' hb')
    | (go_at_call 49; (with_reducible refine Calls.mono (sum_any _ _ _ (word (BitVec.ofNat 32 n1) ++ l1) w4 (framed_tail Ho4.out.sl Hlen0.out hne).holds (framed_tail Ho4.out.sl Hlen0.out hne).len (by omega)) ?_); rintro e w' ⟨rfl, rfl⟩)
    | (go_at_call 48; (with_reducible refine Calls.mono (putWord_any w.heap.size B4 (n0 + 4 + n1) d4 _ _ w4 Ho4.out Hb4.out.size (by omega)) ?_); rintro e w5 ⟨B5, d5, rfl, ho', hb'⟩; have Ho5 := hid_ ho'; have Hb5 := hid_ (Hb4.out.trans hb'); clear ho' hb'))
  go_ret2
  refine putPost_mk (Ho5.out.at_ rfl ?_) Hb5.out
  rw [framed, Hlen.out]
  simp only [List.append_assoc]
theorem put_nil (A1 : Option Addr) (n1 c1 : Nat) (l1 : List UInt8) (w : World) (h1 : Sl w A1 n1 c1 l1) (hn : n1 ≤ 8192) :
    Calls Try.prog 33 #[.slice none 0 0, .slice A1 n1 c1] w (PutPost w (n1 + 8) (framed l1)) := by
  have h := put_any none A1 0 0 n1 c1 [] l1 w (Sl.none _) h1 hn (by omega)
  rw [List.nil_append, show 0 + 4 + n1 + 4 = n1 + 8 by omega] at h
  exact h

def AllPost (w : World) (l : List UInt8) (e : Ending) (w' : World) : Prop :=
  ∃ A n c, e = .returned (.tuple #[.slice A n c, .int .i64 ((allOf l).2.1 : Nat), .int .i64 (allOf l).2.2]) ∧ Sls w' A n c (allOf l).1 ∧ Below w.heap.size w w'
theorem allPost_mk {w w' : World} {l : List UInt8} {ms : List (List UInt8)} {u : Nat} {k : Int} {A : Option Addr} {n c : Nat} (h : allOf l = (ms, u, k)) (hs : Sls w' A n c ms) (hb : Below w.heap.size w w') :
    AllPost w l (.returned (.tuple #[.slice A n c, .int .i64 (u : Nat), .int .i64 k])) w' := ⟨A, n, c, by rw [h], by rw [h]; exact hs, hb⟩

theorem allPost_at {w w' : World} {l : List UInt8} {ms : List (List UInt8)} {u : Nat} {k ui : Int} {A : Option Addr} {n c : Nat} (hu : ui = (u : Int)) (h : allOf l = (ms, u, k)) (hs : Sls w' A n c ms) (hb : Below w.heap.size w w') :
    AllPost w l (.returned (.tuple #[.slice A n c, .int .i64 ui, .int .i64 k])) w' := by subst hu; exact allPost_mk h hs hb

set_option maxHeartbeats 1000000 in
theorem all_any (A : Option Addr) (n c : Nat) (l : List UInt8) (w : World) (hs : Sl w A n c l) (hn : n ≤ 5864062014800) :
    Calls Try.prog 57 #[.slice A n c] w (AllPost w l) := by
  have Hs := hid_ hs
  have Hlen := hid_ hs.len
  have hcap := hs.cap
  have hmax := hs.max
  clear hs
  go_enter Try.func57, Try.ntmps57
  go_wp2
  go_loopw [2, 3, 5, 6, 7] (fun s ui _ _ _ wr => ∃ u A' c' ms, ui = .int .i64 (u : Nat) ∧ s = .slice A' (ms : List (List UInt8)).length c' ∧ OwnS w.heap.size wr A' ms.length c' ms ∧ AllAt l ms u ∧ Below w.heap.size w wr) (fun _ ui _ _ _ _ => n - (intOf ui).toNat)
  case atStart => exact ⟨0, none, 0, [], rfl, rfl, OwnS.none _ _, allAt_zero l, Below.refl _ _⟩
  case round =>
    obtain ⟨u, A', c', ms, rfl, rfl, ho, hat, hb⟩ := hrel
    have hun : u ≤ n := by have := hat.1; have := Hlen.out; omega
    have Ho := hid_ ho
    have Hat := hid_ hat
    have Hb := hid_ hb
    clear ho hat hb
    by_cases hlt : u < n
    · have hcu : ¬ c = u := by omega
      have hfr := (Hs.out.below Hb.out).from_ u hun
      rw [cutAt_add hcu] at hfr
      have Hp := hid_ (parted_any _ _ _ _ wr hfr)
      have Hle := hid_ (cut_le (l.drop u))
      have Hdl := hid_ hfr.len
      have Hmp := hid_ (allAt_few Hat.out)
      clear hfr
      by_cases hk : (cutF (l.drop u)).1 = 0
      · have Hst := hid_ (allAt_step Hat.out (by rw [Hlen.out]; exact hlt) hk)
        go_wp2_with fail
        refine Hp.out.mono ?_
        rintro e w1 ⟨A1, n1, c1, A2, n2, c2, rfl, hs1, hs2, hb1⟩
        rw [hk]
        have Hk := hid_ hk
        have Hcl := hid_ (clone_any A1 n1 c1 _ w1 hs1 (by have := hs1.len; have := Hle.out.1; have := Hdl.out; omega))
        have Ho1 := hid_ (Ho.out.later hb1)
        have Hb1 := hid_ (Below.trans Hb.out (hb1.mono Hb.out.size))
        have Hn2 := hid_ (show (cutF (l.drop u)).2.2.length = n2 from hs2.len)
        have hn2 : n2 ≤ n := by have := hs2.len; have := Hle.out.2; have := Hdl.out; omega
        clear hs1 hs2 hb1 hk
        go_wp2_with (first
          | (go_at_call 27; (with_reducible refine Calls.mono Hcl.out ?_); rintro e w2 ⟨A3, c3, rfl, ho', hb'⟩; have Ho3 := hid_ ho'; have Ho2 := hid_ (Ho1.out.later hb'); have Hb2 := hid_ (Hb1.out.trans (hb'.mono Hb1.out.size)); have Hsz := hid_ (fun k hk => Nat.lt_of_lt_of_le (Ho1.out.from_ k hk).2 (Nat.le_refl _)); clear ho' hb')
          | (at_builtin; refine wpList_slices rfl (.tmp 25) (.tmp 28) rfl w.heap.size A' ms.length c' ms rfl (Ho2.out.later ((Below.refl _ _).alloc (Nat.le_refl _) _)) _ 1 1 [(cutF (l.drop u)).2.1] rfl (one_off _ Ho3.out.sl (Ho3.out.away _ Hsz.out)) (ms.length + 1) _ rfl rfl (by have := Hmp.out; have := Hlen.out; omega) (by have := Hb2.out.size; simp; omega) ?_; intro A4 c4 w4 ho' hb' hg'; have Ho4 := hid_ ho'; have Hb4 := hid_ ((Hb2.out.alloc Hb2.out.size _).trans hb'); clear ho' hb' hg'))
        go_roundw
        case rel =>
          refine ⟨n - n2, A4, c4, ms ++ [(cutF (l.drop u)).2.1], ?_, ?_, ?_, ?_, Hb4.out⟩
          · exact int_of (by omega)
          · rw [List.length_append]; rfl
          · rw [List.length_append]; exact Ho4.out
          · have h := Hst.out.2.2
            rw [Hn2.out, Hlen.out] at h
            exact h
        case measure =>
          have h := Hst.out.1
          rw [Hn2.out, Hlen.out] at h
          simp [intOf]
          omega
      · have Hst := hid_ (allAt_stop Hat.out (by rw [Hlen.out]; exact hlt) hk)
        generalize hK : (cutF (l.drop u)).1 = K at hk Hst
        have HK := hid_ hK
        have hkb : (K != 0) = true := by rw [bne_iff_ne]; exact hk
        clear hK hk
        go_wp2_with fail
        refine Hp.out.mono ?_
        rintro e w1 ⟨A1, n1, c1, A2, n2, c2, rfl, hs1, hs2, hb1⟩
        rw [HK.out]
        have Ho1 := hid_ (Ho.out.later hb1)
        have Hb1 := hid_ (Below.trans Hb.out (hb1.mono Hb.out.size))
        clear hs1 hs2 hb1
        go_wp2_with fail
        go_ret3
        exact allPost_mk Hst.out Ho1.out.sls Hb1.out
    · have Hu := hid_ (show u = n by omega)
      have Hend := hid_ (allAt_end Hat.out (by rw [Hlen.out]; omega))
      go_wp2
      go_ret3
      exact allPost_mk Hend.out Ho.out.sls Hb.out
end Go.Proofs.Ytbinmaamebdneaa
