/-
  Plain facts on a register of 32 bits that is shifted and fed (CRC-32): no program is named here.
  steps n r: the register after n places; upd: one byte added, eight places; regs: all bytes; more: a sum of bytes behind a sum.
-/
import Derived.WalkKit
import Derived.Laws.BitsAllLaws
namespace Go.Proofs.Ytcjgnnbbbhmfnaa.Crc

def poly : BitVec 32 := 0xedb88320#32

def step (r : BitVec 32) : BitVec 32 := if r.getLsbD 0 = true then (r >>> 1) ^^^ poly else r >>> 1

def steps : Nat → BitVec 32 → BitVec 32
  | 0, r => r
  | n + 1, r => step (steps n r)

theorem shr_xor (a b : BitVec 32) : (a ^^^ b) >>> 1 = (a >>> 1) ^^^ (b >>> 1) := by
  apply BitVec.eq_of_getLsbD_eq
  intro i hi
  simp

theorem xor_swap (a b c d : BitVec 32) : (a ^^^ b) ^^^ (c ^^^ d) = (a ^^^ c) ^^^ (b ^^^ d) := by ac_rfl

theorem step_xor (a b : BitVec 32) : step (a ^^^ b) = step a ^^^ step b := by
  unfold step
  rw [shr_xor, BitVec.getLsbD_xor]
  cases a.getLsbD 0 <;> cases b.getLsbD 0 <;> simp
  · ac_rfl
  · ac_rfl
  · rw [xor_swap]; simp

theorem step_zero : step 0#32 = 0#32 := by decide

theorem steps_zero (n : Nat) : steps n 0#32 = 0#32 := by
  induction n with
  | zero => rfl
  | succ n ih => rw [steps, ih, step_zero]

theorem steps_xor (n : Nat) (a b : BitVec 32) : steps n (a ^^^ b) = steps n a ^^^ steps n b := by
  induction n with
  | zero => rfl
  | succ n ih => rw [steps, steps, steps, ih, step_xor]

theorem steps_add (m n : Nat) (r : BitVec 32) : steps (m + n) r = steps m (steps n r) := by
  induction m with
  | zero => rw [Nat.zero_add]; rfl
  | succ m ih => rw [Nat.succ_add, steps, steps, ih]

theorem steps_succ' (n : Nat) (r : BitVec 32) : steps (n + 1) r = steps n (step r) := by
  rw [steps_add n 1]; rfl

theorem poly_high : poly.getLsbD 31 = true := by decide

/-- A register that falls to nothing was nothing: the fallen bit can be read off the highest place. -/
theorem step_eq_zero (a : BitVec 32) (h : step a = 0#32) : a = 0#32 := by
  unfold step at h
  by_cases h0 : a.getLsbD 0 = true
  · rw [if_pos h0] at h
    have h1 : ((a >>> 1) ^^^ poly).getLsbD 31 = false := by rw [h]; simp
    rw [BitVec.getLsbD_xor, poly_high, BitVec.getLsbD_ushiftRight] at h1
    simp at h1
  · rw [if_neg h0] at h
    apply BitVec.eq_of_getLsbD_eq
    intro i hi
    cases i with
    | zero => simpa using h0
    | succ i =>
      have h1 : (a >>> 1).getLsbD i = false := by rw [h]; simp
      rw [BitVec.getLsbD_ushiftRight, Nat.add_comm] at h1
      rw [h1]; simp

theorem steps_eq_zero (n : Nat) (a : BitVec 32) (h : steps n a = 0#32) : a = 0#32 := by
  induction n with
  | zero => exact h
  | succ n ih => exact ih (step_eq_zero _ h)

/-! ### bytes -/
def wide (c : UInt8) : BitVec 32 := c.toBitVec.setWidth 32

theorem wide_toNat (c : UInt8) : (wide c).toNat = c.toNat := by
  unfold wide
  rw [BitVec.toNat_setWidth]
  have : c.toNat < 256 := UInt8.toNat_lt c
  show c.toNat % 2 ^ 32 = c.toNat
  omega

def upd (r : BitVec 32) (c : UInt8) : BitVec 32 := steps 8 (r ^^^ wide c)
def regs (r : BitVec 32) (l : List UInt8) : BitVec 32 := l.foldl upd r
def more (s : BitVec 32) (l : List UInt8) : BitVec 32 := ~~~ (regs (~~~ s) l)

theorem regs_nil (r : BitVec 32) : regs r [] = r := rfl
theorem regs_cons (r : BitVec 32) (c : UInt8) (l : List UInt8) : regs r (c :: l) = regs (upd r c) l := rfl
theorem regs_append (r : BitVec 32) (l m : List UInt8) : regs r (l ++ m) = regs (regs r l) m := List.foldl_append
theorem regs_snoc (r : BitVec 32) (l : List UInt8) (c : UInt8) : regs r (l ++ [c]) = upd (regs r l) c := by rw [regs_append]; rfl
theorem more_nil (s : BitVec 32) : more s [] = s := by unfold more; rw [regs_nil]; simp
theorem not_more (s : BitVec 32) (l : List UInt8) : ~~~ (more s l) = regs (~~~ s) l := by unfold more; simp
theorem more_append (s : BitVec 32) (l m : List UInt8) : more s (l ++ m) = more (more s l) m := by
  unfold more
  rw [regs_append]
  simp

/-- Two registers that are fed with the same bytes: what parts them goes its own way. -/
theorem upd_xor (r z : BitVec 32) (c : UInt8) : upd (r ^^^ z) c = upd r c ^^^ steps 8 z := by
  unfold upd
  rw [← steps_xor]
  congr 1
  ac_rfl

theorem regs_xor (l : List UInt8) : ∀ r z : BitVec 32, regs (r ^^^ z) l = regs r l ^^^ steps (8 * l.length) z := by
  induction l with
  | nil => intro r z; simp [regs_nil, steps]
  | cons c l ih =>
    intro r z
    rw [regs_cons, upd_xor, ih, regs_cons, List.length_cons, ← steps_add]
    congr 2

theorem not_xor (a b : BitVec 32) : ~~~ (a ^^^ b) = ~~~ a ^^^ b := by
  apply BitVec.eq_of_getLsbD_eq
  intro i hi
  simp [hi]

theorem more_join (s : BitVec 32) (l : List UInt8) : more s l = more 0#32 l ^^^ steps (8 * l.length) s := by
  unfold more
  have h : ~~~ s = ~~~ (0#32) ^^^ s := by rw [← not_xor, BitVec.zero_xor]
  rw [h, regs_xor, not_xor]

/-! ### a word fed byte by byte -/
theorem shr_shr (x : BitVec 32) (m n : Nat) : x >>> m >>> n = x >>> (m + n) := by
  apply BitVec.eq_of_getLsbD_eq
  intro i hi
  simp only [BitVec.getLsbD_ushiftRight, Nat.add_assoc]
theorem steps_shift (n : Nat) (z : BitVec 32) (h : ∀ i, i < n → z.getLsbD i = false) : steps n z = z >>> n := by
  induction n generalizing z with
  | zero => rw [BitVec.ushiftRight_zero]; rfl
  | succ n ih =>
    rw [steps_succ', show step z = z >>> 1 from by unfold step; rw [if_neg (by rw [h 0 (by omega)]; decide)], ih]
    · rw [shr_shr, Nat.add_comm]
    · intro i hi
      rw [BitVec.getLsbD_ushiftRight, Nat.add_comm]
      exact h _ (by omega)
def low (x : BitVec 32) : UInt8 := UInt8.ofNat (x.toNat % 256)
theorem low_toNat (x : BitVec 32) : (low x).toNat = x.toNat % 256 := by
  unfold low
  rw [UInt8.toNat_ofNat']
  omega
theorem wide_low (x : BitVec 32) : wide (low x) = x ^^^ ((x >>> 8) <<< 8) := by
  apply BitVec.eq_of_getLsbD_eq
  intro i hi
  have h1 : (wide (low x)).getLsbD i = (x.toNat % 256).testBit i := by
    unfold BitVec.getLsbD
    rw [wide_toNat, low_toNat]
  rw [h1, show (256 : Nat) = 2 ^ 8 from rfl, Nat.testBit_mod_two_pow]
  rw [BitVec.getLsbD_xor, BitVec.getLsbD_shiftLeft, BitVec.getLsbD_ushiftRight]
  by_cases h : i < 8
  · simp [h, BitVec.getLsbD]
  · have : 8 + (i - 8) = i := by omega
    simp [h, hi, this]
theorem steps_feed (k : Nat) (r x : BitVec 32) : steps (k + 8) (r ^^^ x) = steps k (upd r (low x) ^^^ (x >>> 8)) := by
  have h1 : x = wide (low x) ^^^ ((x >>> 8) <<< 8) := by
    rw [wide_low, BitVec.xor_assoc, BitVec.xor_self, BitVec.xor_zero]
  have h2 : steps 8 ((x >>> 8) <<< 8) = x >>> 8 := by
    rw [steps_shift 8 _ (by intro i hi; simp [BitVec.getLsbD_shiftLeft, hi])]
    apply BitVec.eq_of_getLsbD_eq
    intro i hi
    simp only [BitVec.getLsbD_ushiftRight, BitVec.getLsbD_shiftLeft]
    by_cases h : 8 + i < 32
    · simp [h]
    · simp [h, BitVec.getLsbD_of_ge x (8 + i) (by omega)]
  rw [steps_add]
  congr 1
  unfold upd
  rw [← h2, ← steps_xor, BitVec.xor_assoc, ← h1]
def word (x : BitVec 32) : List UInt8 := [low x, low (x >>> 8), low (x >>> 8 >>> 8), low (x >>> 8 >>> 8 >>> 8)]
theorem regs_word (r x : BitVec 32) : regs r (word x) = steps 32 (r ^^^ x) := by
  have h : x >>> 8 >>> 8 >>> 8 >>> 8 = 0#32 := by
    rw [shr_shr, shr_shr, shr_shr]
    exact BitVec.ushiftRight_eq_zero (by omega)
  have h1 := steps_feed 24 r x
  have h2 := steps_feed 16 (upd r (low x)) (x >>> 8)
  have h3 := steps_feed 8 (upd (upd r (low x)) (low (x >>> 8))) (x >>> 8 >>> 8)
  have h4 := steps_feed 0 (upd (upd (upd r (low x)) (low (x >>> 8))) (low (x >>> 8 >>> 8))) (x >>> 8 >>> 8 >>> 8)
  rw [h, BitVec.xor_zero] at h4
  rw [h1, h2, h3, h4]
  rfl
/-- Whatever is summed: with its own sum behind it it has one and the same sum. -/
theorem more_rest (l : List UInt8) : more 0#32 (l ++ word (more 0#32 l)) = 0x2144df1c#32 := by
  unfold more
  rw [regs_append, regs_word]
  generalize regs (~~~0#32) l = r
  have h : r ^^^ ~~~r = BitVec.allOnes 32 := by
    rw [← BitVec.allOnes_xor, ← BitVec.xor_assoc, BitVec.xor_comm r, BitVec.xor_assoc, BitVec.xor_self, BitVec.xor_zero]
  rw [h]
  decide +kernel

/-! ### the walk's spellings -/
/-- All bits turned (under a name of its own: the walk would write '~~~' out as a difference). -/
def inv (x : BitVec 32) : BitVec 32 := ~~~x

theorem bits_and1 (y : BitVec 32) : bits .and .u32 (y.toNat : Int) 1 = if y.getLsbD 0 = true then 1 else 0 := by
  have h := u32_and_nat y.toNat 1 y.isLt (by omega)
  rw [show ((1 : Nat) : Int) = 1 from rfl] at h
  rw [h, nat_mask1]
  have h0 : y.getLsbD 0 = decide (y.toNat % 2 = 1) := by simp [BitVec.getLsbD, Nat.testBit_zero]
  rw [h0]
  by_cases h1 : y.toNat % 2 = 1
  · simp [h1]
  · have : y.toNat % 2 = 0 := by omega
    simp [this]
theorem bits_xor (x y : BitVec 32) : bits .xor .u32 (x.toNat : Int) (y.toNat : Int) = ((x ^^^ y).toNat : Int) := by
  rw [u32_xor_nat _ _ x.isLt y.isLt, BitVec.toNat_xor]
theorem half (y : BitVec 32) : ((y.toNat : Nat) : Int) / (2 : Int) = ((y >>> 1).toNat : Int) := by
  rw [BitVec.toNat_ushiftRight, Nat.shiftRight_eq_div_pow]
  omega
theorem xor_poly (x : BitVec 32) : bits .xor .u32 (x.toNat : Int) 3988292384 = ((x ^^^ poly).toNat : Int) := bits_xor x poly
def feed (x : BitVec 32) (c : UInt8) : BitVec 32 := x ^^^ wide c
theorem xor_byte (x : BitVec 32) (c : UInt8) : bits .xor .u32 (x.toNat : Int) (c.toNat : Int) = ((feed x c).toNat : Int) := by
  rw [← wide_toNat, bits_xor]; rfl
theorem xor_byte' (x : BitVec 32) (c : UInt8) : bits .xor .u32 (x.toNat : Int) ((c.toNat : Int) % 4294967296) = ((feed x c).toNat : Int) := by
  have : c.toNat < 256 := UInt8.toNat_lt c
  rw [show (c.toNat : Int) % 4294967296 = (c.toNat : Int) from by omega, xor_byte]
theorem not_u32 (s : BitVec 32) : bits .xor .u32 IntKind.u32.max (s.toNat : Int) = ((inv s).toNat : Int) := by
  rw [show IntKind.u32.max = (((BitVec.allOnes 32).toNat : Nat) : Int) from by decide, bits_xor, BitVec.allOnes_xor]; rfl
theorem and255 (n : Nat) (h : n < 4294967296) : bits .and .u32 (n : Int)  255 % (256 : Int) = ((n % 256 : Nat) : Int) := by
  have h1 := u32_and_nat n 255 h (by omega)
  rw [show ((255 : Nat) : Int) = 255 from rfl] at h1
  rw [h1, nat_mask8]
  omega
theorem shr_toNat (x : BitVec 32) (k : Nat) : (x >>> k).toNat = x.toNat / 2 ^ k := by rw [BitVec.toNat_ushiftRight, Nat.shiftRight_eq_div_pow]
/-- The four bytes of a word, as the program cuts them. -/
theorem byte0 (x : BitVec 32) : bits .and .u32 (x.toNat : Int)  255 % (256 : Int) = ((low x).toNat : Int) := by
  rw [and255 _ x.isLt, low_toNat]
theorem byte1 (x : BitVec 32) : bits .and .u32 ((x.toNat : Int) / (256 : Int))  255 % (256 : Int) = ((low (x >>> 8)).toNat : Int) := by
  have := x.isLt
  rw [show (x.toNat : Int) / (256 : Int) = ((x.toNat / 256 : Nat) : Int) from by omega, and255 _ (by omega), low_toNat, shr_toNat]
theorem byte2 (x : BitVec 32) : bits .and .u32 ((x.toNat : Int) / (65536 : Int))  255 % (256 : Int) = ((low (x >>> 8 >>> 8)).toNat : Int) := by
  have := x.isLt
  rw [show (x.toNat : Int) / (65536 : Int) = ((x.toNat / 65536 : Nat) : Int) from by omega, and255 _ (by omega), low_toNat, shr_shr, shr_toNat]
theorem byte3 (x : BitVec 32) : (x.toNat : Int) / (16777216 : Int) = ((low (x >>> 8 >>> 8 >>> 8)).toNat : Int) := by
  have := x.isLt
  rw [low_toNat, shr_shr, shr_shr, shr_toNat]
  show (x.toNat : Int) / 16777216 = ((x.toNat / 16777216 % 256 : Nat) : Int)
  omega
/-- A number of the kind uint32 is a register. -/
theorem reg_of {n : Int} (h : (Lit.int .u32 n).wf = true) : ∃ x : BitVec 32, n = (x.toNat : Int) := by
  have h1 : 0 ≤ n ∧ n ≤ 4294967295 := by simpa [Lit.wf, IntKind.min, IntKind.max, IntKind.bits, IntKind.signed] using h
  refine ⟨BitVec.ofNat 32 n.toNat, ?_⟩
  rw [BitVec.toNat_ofNat]
  omega
theorem step_one (y : BitVec 32) (h : y.getLsbD 0 = true) : step y = (y >>> 1) ^^^ poly := by unfold step; rw [if_pos h]
theorem step_none (y : BitVec 32) (h : y.getLsbD 0 = false) : step y = y >>> 1 := by unfold step; rw [if_neg (by rw [h]; decide)]
end Go.Proofs.Ytcjgnnbbbhmfnaa.Crc
