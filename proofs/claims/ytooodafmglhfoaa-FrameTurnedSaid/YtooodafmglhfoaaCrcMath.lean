/-
  Plain facts on a register of 32 bits that is shifted and fed (CRC-32): no program is named here.
  steps n r: the register after n places; upd: one byte added, eight places; regs: all bytes; more: a sum of bytes behind a sum.
-/
import Derived.WalkKit
import Derived.Laws.BitsAllLaws
namespace Go.Proofs.Ytooodafmglhfoaa.Crc

def poly : BitVec 32 := 0xedb88320#32

def step (r : BitVec 32) : BitVec 32 := if r.getLsbD 0 = true then (r >>> 1) ^^^ poly else r >>> 1

def steps : Nat → BitVec 32 → BitVec 32
  | 0, r => r
  | n + 1, r => step (steps n r)

theorem shr_xor (a b : BitVec 32) : (a ^^^ b) >>> 1 = (a >>> 1) ^^^ (b >>> 1) := by
  apply BitVec.eq_of_getLsbD_eq
  intro i hi
  simp

theorem xor_swap (a b c d : BitVec 32) : (a ^^^ b) ^^^ (c ^^^ d) = (a ^^^ c) ^^^ (b ^^^ d) := by ac_rfl

theorem step_xor (a b : BitVec 32) : step (a ^^^ b) = step a ^^^ step b := by
  unfold step
  rw [shr_xor, BitVec.getLsbD_xor]
  cases a.getLsbD 0 <;> cases b.getLsbD 0 <;> simp
  · ac_rfl
  · ac_rfl
  · rw [xor_swap]; simp

theorem step_zero : step 0#32 = 0#32 := by decide

theorem steps_zero (n : Nat) : steps n 0#32 = 0#32 := by
  induction n with
  | zero => rfl
  | succ n ih => rw [steps, ih, step_zero]

theorem steps_xor (n : Nat) (a b : BitVec 32) : steps n (a ^^^ b) = steps n a ^^^ steps n b := by
  induction n with
  | zero => rfl
  | succ n ih => rw [steps, steps, steps, ih, step_xor]

theorem steps_add (m n : Nat) (r : BitVec 32) : steps (m + n) r = steps m (steps n r) := by
  induction m with
  | zero => rw [Nat.zero_add]; rfl
  | succ m ih => rw [Nat.succ_add, steps, steps, ih]

theorem steps_succ' (n : Nat) (r : BitVec 32) : steps (n + 1) r = steps n (step r) := by
  rw [steps_add n 1]; rfl

theorem poly_high : poly.getLsbD 31 = true := by decide

/-- A register that falls to nothing was nothing: the fallen bit can be read off the highest place. -/
theorem step_eq_zero (a : BitVec 32) (h : step a = 0#32) : a = 0#32 := by
  unfold step at h
  by_cases h0 : a.getLsbD 0 = true
  · rw [if_pos h0] at h
    have h1 : ((a >>> 1) ^^^ poly).getLsbD 31 = false := by rw [h]; simp
    rw [BitVec.getLsbD_xor, poly_high, BitVec.getLsbD_ushiftRight] at h1
    simp at h1
  · rw [if_neg h0] at h
    apply BitVec.eq_of_getLsbD_eq
    intro i hi
    cases i with
    | zero => simpa using h0
    | succ i =>
      have h1 : (a >>> 1).getLsbD i = false := by rw [h]; simp
      rw [BitVec.getLsbD_ushiftRight, Nat.add_comm] at h1
      rw [h1]; simp

theorem steps_eq_zero (n : Nat) (a : BitVec 32) (h : steps n a = 0#32) : a = 0#32 := by
  induction n with
  | zero => exact h
  | succ n ih => exact ih (step_eq_zero _ h)

/-! ### bytes -/
/-- All bits turned (under a name of its own: the walk would write '~~~' out as a difference). -/
def inv (x : BitVec 32) : BitVec 32 := ~~~x

def wide (c : UInt8) : BitVec 32 := c.toBitVec.setWidth 32

theorem wide_toNat (c : UInt8) : (wide c).toNat = c.toNat := by
  unfold wide
  rw [BitVec.toNat_setWidth]
  have : c.toNat < 256 := UInt8.toNat_lt c
  show c.toNat % 2 ^ 32 = c.toNat
  omega

def upd (r : BitVec 32) (c : UInt8) : BitVec 32 := steps 8 (r ^^^ wide c)
def regs (r : BitVec 32) (l : List UInt8) : BitVec 32 := l.foldl upd r
def more (s : BitVec 32) (l : List UInt8) : BitVec 32 := ~~~ (regs (~~~ s) l)

theorem regs_nil (r : BitVec 32) : regs r [] = r := rfl
theorem regs_cons (r : BitVec 32) (c : UInt8) (l : List UInt8) : regs r (c :: l) = regs (upd r c) l := rfl
theorem regs_append (r : BitVec 32) (l m : List UInt8) : regs r (l ++ m) = regs (regs r l) m := List.foldl_append
theorem regs_snoc (r : BitVec 32) (l : List UInt8) (c : UInt8) : regs r (l ++ [c]) = upd (regs r l) c := by rw [regs_append]; rfl
theorem more_nil (s : BitVec 32) : more s [] = s := by unfold more; rw [regs_nil]; simp
theorem not_more (s : BitVec 32) (l : List UInt8) : ~~~ (more s l) = regs (~~~ s) l := by unfold more; simp
theorem more_append (s : BitVec 32) (l m : List UInt8) : more s (l ++ m) = more (more s l) m := by
  unfold more
  rw [regs_append]
  simp

/-- Two registers that are fed with the same bytes: what parts them goes its own way. -/
theorem upd_xor (r z : BitVec 32) (c : UInt8) : upd (r ^^^ z) c = upd r c ^^^ steps 8 z := by
  unfold upd
  rw [← steps_xor]
  congr 1
  ac_rfl

theorem regs_xor (l : List UInt8) : ∀ r z : BitVec 32, regs (r ^^^ z) l = regs r l ^^^ steps (8 * l.length) z := by
  induction l with
  | nil => intro r z; simp [regs_nil, steps]
  | cons c l ih =>
    intro r z
    rw [regs_cons, upd_xor, ih, regs_cons, List.length_cons, ← steps_add]
    congr 2

theorem not_xor (a b : BitVec 32) : ~~~ (a ^^^ b) = ~~~ a ^^^ b := by
  apply BitVec.eq_of_getLsbD_eq
  intro i hi
  simp [hi]

theorem more_join (s : BitVec 32) (l : List UInt8) : more s l = more 0#32 l ^^^ steps (8 * l.length) s := by
  unfold more
  have h : ~~~ s = ~~~ (0#32) ^^^ s := by rw [← not_xor, BitVec.zero_xor]
  rw [h, regs_xor, not_xor]

/-! ### a word fed byte by byte -/
theorem shr_shr (x : BitVec 32) (m n : Nat) : x >>> m >>> n = x >>> (m + n) := by
  apply BitVec.eq_of_getLsbD_eq
  intro i hi
  simp only [BitVec.getLsbD_ushiftRight, Nat.add_assoc]
theorem steps_shift (n : Nat) (z : BitVec 32) (h : ∀ i, i < n → z.getLsbD i = false) : steps n z = z >>> n := by
  induction n generalizing z with
  | zero => rw [BitVec.ushiftRight_zero]; rfl
  | succ n ih =>
    rw [steps_succ', show step z = z >>> 1 from by unfold step; rw [if_neg (by rw [h 0 (by omega)]; decide)], ih]
    · rw [shr_shr, Nat.add_comm]
    · intro i hi
      rw [BitVec.getLsbD_ushiftRight, Nat.add_comm]
      exact h _ (by omega)
def low (x : BitVec 32) : UInt8 := UInt8.ofNat (x.toNat % 256)
theorem low_toNat (x : BitVec 32) : (low x).toNat = x.toNat % 256 := by
  unfold low
  rw [UInt8.toNat_ofNat']
  omega
theorem wide_low (x : BitVec 32) : wide (low x) = x ^^^ ((x >>> 8) <<< 8) := by
  apply BitVec.eq_of_getLsbD_eq
  intro i hi
  have h1 : (wide (low x)).getLsbD i = (x.toNat % 256).testBit i := by
    unfold BitVec.getLsbD
    rw [wide_toNat, low_toNat]
  rw [h1, show (256 : Nat) = 2 ^ 8 from rfl, Nat.testBit_mod_two_pow]
  rw [BitVec.getLsbD_xor, BitVec.getLsbD_shiftLeft, BitVec.getLsbD_ushiftRight]
  by_cases h : i < 8
  · simp [h, BitVec.getLsbD]
  · have : 8 + (i - 8) = i := by omega
    simp [h, hi, this]
theorem steps_feed (k : Nat) (r x : BitVec 32) : steps (k + 8) (r ^^^ x) = steps k (upd r (low x) ^^^ (x >>> 8)) := by
  have h1 : x = wide (low x) ^^^ ((x >>> 8) <<< 8) := by
    rw [wide_low, BitVec.xor_assoc, BitVec.xor_self, BitVec.xor_zero]
  have h2 : steps 8 ((x >>> 8) <<< 8) = x >>> 8 := by
    rw [steps_shift 8 _ (by intro i hi; simp [BitVec.getLsbD_shiftLeft, hi])]
    apply BitVec.eq_of_getLsbD_eq
    intro i hi
    simp only [BitVec.getLsbD_ushiftRight, BitVec.getLsbD_shiftLeft]
    by_cases h : 8 + i < 32
    · simp [h]
    · simp [h, BitVec.getLsbD_of_ge x (8 + i) (by omega)]
  rw [steps_add]
  congr 1
  unfold upd
  rw [← h2, ← steps_xor, BitVec.xor_assoc, ← h1]
def word (x : BitVec 32) : List UInt8 := [low x, low (x >>> 8), low (x >>> 8 >>> 8), low (x >>> 8 >>> 8 >>> 8)]
theorem regs_word (r x : BitVec 32) : regs r (word x) = steps 32 (r ^^^ x) := by
  have h : x >>> 8 >>> 8 >>> 8 >>> 8 = 0#32 := by
    rw [shr_shr, shr_shr, shr_shr]
    exact BitVec.ushiftRight_eq_zero (by omega)
  have h1 := steps_feed 24 r x
  have h2 := steps_feed 16 (upd r (low x)) (x >>> 8)
  have h3 := steps_feed 8 (upd (upd r (low x)) (low (x >>> 8))) (x >>> 8 >>> 8)
  have h4 := steps_feed 0 (upd (upd (upd r (low x)) (low (x >>> 8))) (low (x >>> 8 >>> 8))) (x >>> 8 >>> 8 >>> 8)
  rw [h, BitVec.xor_zero] at h4
  rw [h1, h2, h3, h4]
  rfl
/-- Whatever is summed: with its own sum behind it it has one and the same sum. -/
theorem more_rest (l : List UInt8) : more 0#32 (l ++ word (more 0#32 l)) = 0x2144df1c#32 := by
  unfold more
  rw [regs_append, regs_word]
  generalize regs (~~~0#32) l = r
  have h : r ^^^ ~~~r = BitVec.allOnes 32 := by
    rw [← BitVec.allOnes_xor, ← BitVec.xor_assoc, BitVec.xor_comm r, BitVec.xor_assoc, BitVec.xor_self, BitVec.xor_zero]
  rw [h]
  decide +kernel

/-! ### three texts of one length together -/
theorem wide_xor (c d : UInt8) : wide (c ^^^ d) = wide c ^^^ wide d := by
  apply BitVec.eq_of_toNat_eq
  rw [wide_toNat, BitVec.toNat_xor, wide_toNat, wide_toNat]
  rfl
theorem upd_both (r z : BitVec 32) (c d : UInt8) : upd (r ^^^ z) (c ^^^ d) = upd r c ^^^ upd z d := by
  unfold upd
  rw [wide_xor, xor_swap, steps_xor]
theorem regs_both : ∀ (a b : List UInt8), a.length = b.length → ∀ r z : BitVec 32, regs (r ^^^ z) (List.zipWith (· ^^^ ·) a b) = regs r a ^^^ regs z b
  | [], [], _, r, z => rfl
  | c :: a, d :: b, h, r, z => by
    rw [List.zipWith_cons_cons, regs_cons, regs_cons, regs_cons, upd_both, regs_both a b (by simpa using h)]
  | [], _ :: _, h, _, _ => by simp at h
  | _ :: _, [], h, _, _ => by simp at h
theorem zip_zero : ∀ a : List UInt8, List.zipWith (· ^^^ ·) a (List.replicate a.length (0 : UInt8)) = a
  | [] => rfl
  | c :: a => by
    rw [List.length_cons, List.replicate_succ, List.zipWith_cons_cons, zip_zero a]
    simp
theorem more_both (a b : List UInt8) (h : a.length = b.length) :
    more 0#32 a ^^^ more 0#32 b ^^^ more 0#32 (List.replicate a.length 0) = more 0#32 (List.zipWith (· ^^^ ·) a b) := by
  unfold more
  generalize hr : ~~~(0#32) = r
  have h1 := regs_both a b h r r
  have h2 := regs_both (List.zipWith (· ^^^ ·) a b) (List.replicate a.length 0) (by simp [List.length_zipWith, ← h]) (r ^^^ r) r
  have hl : (List.zipWith (· ^^^ ·) a b).length = a.length := by simp [List.length_zipWith, ← h]
  have h3 := zip_zero (List.zipWith (· ^^^ ·) a b)
  rw [hl] at h3
  rw [h3, h1, BitVec.xor_self, BitVec.zero_xor] at h2
  rw [h2, not_xor]
  generalize regs r a = x
  generalize regs r b = y
  generalize regs r (List.replicate a.length 0) = z
  rw [show ~~~y = y ^^^ ~~~(0#32) from by rw [BitVec.xor_comm, ← not_xor, BitVec.zero_xor], show ~~~z = z ^^^ ~~~(0#32) from by rw [BitVec.xor_comm, ← not_xor, BitVec.zero_xor]]
  rw [not_xor]
  have e : ~~~(0#32) ^^^ ~~~(0#32) = 0#32 := BitVec.xor_self
  calc ~~~x ^^^ (y ^^^ ~~~(0#32)) ^^^ (z ^^^ ~~~(0#32)) = (~~~x ^^^ y ^^^ z) ^^^ (~~~(0#32) ^^^ ~~~(0#32)) := by ac_rfl
    _ = ~~~x ^^^ y ^^^ z := by rw [e, BitVec.xor_zero]

/-- The text so far: the first k bytes together, nothing behind them. -/
def sofar (a b : List UInt8) (k : Nat) : List UInt8 := (List.zipWith (· ^^^ ·) a b).take k ++ List.replicate (a.length - k) 0
theorem sofar_zero (a b : List UInt8) : sofar a b 0 = List.replicate a.length 0 := by simp [sofar]
theorem sofar_all (a b : List UInt8) (h : a.length = b.length) : sofar a b a.length = List.zipWith (· ^^^ ·) a b := by
  unfold sofar
  rw [Nat.sub_self, List.replicate_zero, List.append_nil, List.take_of_length_le (by simp [List.length_zipWith, ← h])]
theorem sofar_length (a b : List UInt8) (h : a.length = b.length) (k : Nat) (hk : k ≤ a.length) : (sofar a b k).length = a.length := by
  simp [sofar, List.length_zipWith, ← h]; omega
theorem sofar_succ (a b : List UInt8) (h : a.length = b.length) (k : Nat) (hk : k < a.length) :
    (sofar a b k).set k (a[k] ^^^ b[k]'(by omega)) = sofar a b (k + 1) := by
  unfold sofar
  have hz : k < (List.zipWith (· ^^^ ·) a b).length := by simp [List.length_zipWith, ← h]; exact hk
  have ht : ((List.zipWith (· ^^^ ·) a b).take k).length = k := by rw [List.length_take]; omega
  rw [List.set_append, if_neg (by omega), ht, Nat.sub_self, show a.length - k = (a.length - (k + 1)) + 1 from by omega, List.replicate_succ, List.set_cons_zero,
    List.take_succ_eq_append_getElem hz, List.append_assoc]
  simp

/-! ### one bit that is turned -/
def bitAt (i : Nat) : BitVec 32 := 1#32 <<< i
theorem steps_bit (i : Nat) (h : i < 32) : steps i (bitAt i) = 1#32 := by
  rw [steps_shift i _ (by intro j hj; simp [bitAt, BitVec.getLsbD_shiftLeft, hj])]
  apply BitVec.eq_of_getLsbD_eq
  intro j hj
  unfold bitAt
  simp only [BitVec.getLsbD_ushiftRight, BitVec.getLsbD_shiftLeft]
  by_cases h0 : j = 0
  · subst h0; simp [h]
  · have : i + j - i = j := by omega
    rw [this]
    have h1 : (1#32).getLsbD j = false := by simp [BitVec.getLsbD_one, h0]
    simp [h1]
theorem steps_bit' (n i : Nat) (h : i < 32) : steps (n + i) (bitAt i) = steps n 1#32 := by rw [steps_add, steps_bit i h]
def bit8 (t : Nat) : UInt8 := UInt8.ofNat (2 ^ t % 256)
theorem wide_bit8 (t : Nat) (h : t < 8) : wide (bit8 t) = bitAt t := by
  match t, h with
  | 0, _ => decide | 1, _ => decide | 2, _ => decide | 3, _ => decide | 4, _ => decide | 5, _ => decide | 6, _ => decide | 7, _ => decide
theorem regs_turn (l : List UInt8) (j t : Nat) (hj : j < l.length) (ht : t < 8) (r : BitVec 32) :
    regs r (l.set j (l[j] ^^^ bit8 t)) = regs r l ^^^ steps (8 * l.length - (8 * j + t)) 1#32 := by
  have e1 : l = l.take j ++ l[j] :: l.drop (j + 1) := by rw [← List.drop_eq_getElem_cons hj, List.take_append_drop]
  have e2 : l.set j (l[j] ^^^ bit8 t) = l.take j ++ (l[j] ^^^ bit8 t) :: l.drop (j + 1) := List.set_eq_take_append_cons_drop .. |>.trans (by rw [if_pos hj])
  rw [e2]
  conv => rhs; arg 1; rw [e1]
  rw [regs_append, regs_cons, regs_append, regs_cons]
  generalize regs r (l.take j) = x
  have h1 : upd x (l[j] ^^^ bit8 t) = upd x l[j] ^^^ steps (8 - t) 1#32 := by
    have h2 := upd_both x 0#32 l[j] (bit8 t)
    rw [BitVec.xor_zero] at h2
    rw [h2]
    congr 1
    unfold upd
    rw [BitVec.zero_xor, wide_bit8 t ht]
    have h3 := steps_bit' (8 - t) t (by omega)
    rw [show 8 - t + t = 8 from by omega] at h3
    exact h3
  rw [h1, regs_xor, ← steps_add]
  congr 2
  rw [List.length_drop]
  omega

/-- The lowest k bits. -/
def lows (x : BitVec 32) : Nat → BitVec 32
  | 0 => 0#32
  | k + 1 => if x.getLsbD k = true then lows x k ^^^ bitAt k else lows x k
theorem lows_bit (x : BitVec 32) (k : Nat) : ∀ i, i < 32 → (lows x k).getLsbD i = (decide (i < k) && x.getLsbD i) := by
  induction k with
  | zero => intro i hi; simp [lows]
  | succ k ih =>
    intro i hi
    have hb : (bitAt k).getLsbD i = decide (i = k) := by
      unfold bitAt
      rw [BitVec.getLsbD_shiftLeft, BitVec.getLsbD_one]
      by_cases e : i = k
      · subst e; simp [hi]
      · have h2 : ¬ (i - k = 0 ∧ k ≤ i) := by omega
        by_cases e1 : i < k
        · simp [e1, e]
        · have : i - k ≠ 0 := by omega
          simp [this, e]
    rw [lows]
    by_cases h : x.getLsbD k = true
    · rw [if_pos h, BitVec.getLsbD_xor, ih i hi, hb]
      by_cases e : i = k
      · subst e; simp [h]
      · have : (decide (i < k + 1)) = decide (i < k) := by simp; omega
        rw [this]; simp [e]
    · rw [if_neg h, ih i hi]
      by_cases e : i = k
      · subst e; simp [h]
      · have : (decide (i < k + 1)) = decide (i < k) := by simp; omega
        rw [this]
theorem lows_all (x : BitVec 32) : lows x 32 = x := by
  apply BitVec.eq_of_getLsbD_eq
  intro i hi
  rw [lows_bit x 32 i hi]
  simp [hi]
/-- Bits turned within 32 places are seen. -/
theorem turned_seen (l c : List UInt8) (n : Nat) (x : BitVec 32) (hx : x ≠ 0#32) (h : regs (inv 0#32) c = regs (inv 0#32) l ^^^ steps n x) : more 0#32 c ≠ more 0#32 l := by
  intro e
  unfold more at e
  have e' : regs (~~~0#32) c = regs (~~~0#32) l := by
    have := congrArg (fun y => ~~~y) e
    simpa using this
  rw [show inv 0#32 = ~~~0#32 from rfl] at h
  rw [h] at e'
  have h2 : steps n x = 0#32 := by
    have := congrArg (fun y => regs (~~~0#32) l ^^^ y) e'
    simp only [← BitVec.xor_assoc, BitVec.xor_self, BitVec.zero_xor] at this
    exact this
  exact hx (steps_eq_zero n x h2)
theorem turned_step (l c : List UInt8) (at_ k p : Nat) (x : BitVec 32) (hl : c.length = l.length) (h32 : at_ + 32 ≤ 8 * l.length) (hk : k < 32) (hp : p = at_ + k) (hb : x.getLsbD k = true)
    (h : regs (inv 0#32) c = regs (inv 0#32) l ^^^ steps (8 * l.length - at_) (lows x k)) (hpl : p / 8 < c.length) :
    regs (inv 0#32) (c.set (p / 8) (c[p / 8] ^^^ bit8 (p % 8))) = regs (inv 0#32) l ^^^ steps (8 * l.length - at_) (lows x (k + 1)) := by
  rw [regs_turn c (p / 8) (p % 8) hpl (by omega), h, lows, if_pos hb, steps_xor, BitVec.xor_assoc]
  congr 2
  have h1 := steps_bit' (8 * l.length - at_ - k) k hk
  rw [show 8 * l.length - at_ - k + k = 8 * l.length - at_ from by omega] at h1
  rw [h1, hl]
  congr 1
  omega
theorem turned_not (l c : List UInt8) (n k : Nat) (x : BitVec 32) (hb : x.getLsbD k = false)
    (h : regs (inv 0#32) c = regs (inv 0#32) l ^^^ steps n (lows x k)) : regs (inv 0#32) c = regs (inv 0#32) l ^^^ steps n (lows x (k + 1)) := by
  rw [h, lows, if_neg (by rw [hb]; decide)]

/-! ### the walk's spellings -/

theorem bits_and1 (y : BitVec 32) : bits .and .u32 (y.toNat : Int) 1 = if y.getLsbD 0 = true then 1 else 0 := by
  have h := u32_and_nat y.toNat 1 y.isLt (by omega)
  rw [show ((1 : Nat) : Int) = 1 from rfl] at h
  rw [h, nat_mask1]
  have h0 : y.getLsbD 0 = decide (y.toNat % 2 = 1) := by simp [BitVec.getLsbD, Nat.testBit_zero]
  rw [h0]
  by_cases h1 : y.toNat % 2 = 1
  · simp [h1]
  · have : y.toNat % 2 = 0 := by omega
    simp [this]
theorem bits_xor (x y : BitVec 32) : bits .xor .u32 (x.toNat : Int) (y.toNat : Int) = ((x ^^^ y).toNat : Int) := by
  rw [u32_xor_nat _ _ x.isLt y.isLt, BitVec.toNat_xor]
theorem half (y : BitVec 32) : ((y.toNat : Nat) : Int) / (2 : Int) = ((y >>> 1).toNat : Int) := by
  rw [BitVec.toNat_ushiftRight, Nat.shiftRight_eq_div_pow]
  omega
theorem xor_poly (x : BitVec 32) : bits .xor .u32 (x.toNat : Int) 3988292384 = ((x ^^^ poly).toNat : Int) := bits_xor x poly
def feed (x : BitVec 32) (c : UInt8) : BitVec 32 := x ^^^ wide c
theorem xor_byte (x : BitVec 32) (c : UInt8) : bits .xor .u32 (x.toNat : Int) (c.toNat : Int) = ((feed x c).toNat : Int) := by
  rw [← wide_toNat, bits_xor]; rfl
theorem xor_byte' (x : BitVec 32) (c : UInt8) : bits .xor .u32 (x.toNat : Int) ((c.toNat : Int) % 4294967296) = ((feed x c).toNat : Int) := by
  have : c.toNat < 256 := UInt8.toNat_lt c
  rw [show (c.toNat : Int) % 4294967296 = (c.toNat : Int) from by omega, xor_byte]
theorem not_u32 (s : BitVec 32) : bits .xor .u32 IntKind.u32.max (s.toNat : Int) = ((inv s).toNat : Int) := by
  rw [show IntKind.u32.max = (((BitVec.allOnes 32).toNat : Nat) : Int) from by decide, bits_xor, BitVec.allOnes_xor]; rfl
theorem shr_toNat (x : BitVec 32) (k : Nat) : (x >>> k).toNat = x.toNat / 2 ^ k := by rw [BitVec.toNat_ushiftRight, Nat.shiftRight_eq_div_pow]
theorem shr_int (x : BitVec 32) (k : Nat) : (x.toNat : Int) / (2 : Int) ^ k = ((x >>> k).toNat : Int) := by
  rw [shr_toNat, Int.natCast_ediv, Int.natCast_pow]
  rfl
theorem bit_yes {x : BitVec 32} {k : Nat} (h : x.getLsbD k = true) : (bits .and .u32 ((x.toNat : Int) / (2 : Int) ^ k) 1 == 1) = true := by
  rw [shr_int, bits_and1, if_pos (by rw [BitVec.getLsbD_ushiftRight]; exact h)]; rfl
theorem bit_no {x : BitVec 32} {k : Nat} (h : x.getLsbD k = false) : (bits .and .u32 ((x.toNat : Int) / (2 : Int) ^ k) 1 == 1) = false := by
  rw [shr_int, bits_and1, if_neg (by rw [BitVec.getLsbD_ushiftRight, Nat.add_zero, h]; decide)]; rfl
theorem byte_xor (c d : UInt8) : bits .xor .u8 (c.toNat : Int) (d.toNat : Int) = ((c ^^^ d).toNat : Int) := by
  rw [u8_xor_nat _ _ (UInt8.toNat_lt c) (UInt8.toNat_lt d)]
  rfl
theorem turn_byte (b : UInt8) (t : Nat) : bits .xor .u8 (b.toNat : Int) ((2 : Int) ^ t % (256 : Int)) = ((b ^^^ bit8 t).toNat : Int) := by
  rw [← byte_xor]
  congr 1
  unfold bit8
  rw [UInt8.toNat_ofNat']
  rw [show (2 : Int) ^ t = ((2 ^ t : Nat) : Int) from by rw [Int.natCast_pow]; rfl]
  omega
theorem and255 (n : Nat) (h : n < 4294967296) : bits .and .u32 (n : Int)  255 % (256 : Int) = ((n % 256 : Nat) : Int) := by
  have h1 := u32_and_nat n 255 h (by omega)
  rw [show ((255 : Nat) : Int) = 255 from rfl] at h1
  rw [h1, nat_mask8]
  omega
/-- The four bytes of a word, as the program cuts them. -/
theorem byte0 (x : BitVec 32) : bits .and .u32 (x.toNat : Int)  255 % (256 : Int) = ((low x).toNat : Int) := by
  rw [and255 _ x.isLt, low_toNat]
theorem byte1 (x : BitVec 32) : bits .and .u32 ((x.toNat : Int) / (256 : Int))  255 % (256 : Int) = ((low (x >>> 8)).toNat : Int) := by
  have := x.isLt
  rw [show (x.toNat : Int) / (256 : Int) = ((x.toNat / 256 : Nat) : Int) from by omega, and255 _ (by omega), low_toNat, shr_toNat]
theorem byte2 (x : BitVec 32) : bits .and .u32 ((x.toNat : Int) / (65536 : Int))  255 % (256 : Int) = ((low (x >>> 8 >>> 8)).toNat : Int) := by
  have := x.isLt
  rw [show (x.toNat : Int) / (65536 : Int) = ((x.toNat / 65536 : Nat) : Int) from by omega, and255 _ (by omega), low_toNat, shr_shr, shr_toNat]
theorem byte3 (x : BitVec 32) : (x.toNat : Int) / (16777216 : Int) = ((low (x >>> 8 >>> 8 >>> 8)).toNat : Int) := by
  have := x.isLt
  rw [low_toNat, shr_shr, shr_shr, shr_toNat]
  show (x.toNat : Int) / 16777216 = ((x.toNat / 16777216 % 256 : Nat) : Int)
  omega
/-- A number of the kind uint32 is a register. -/
theorem reg_of {n : Int} (h : (Lit.int .u32 n).wf = true) : ∃ x : BitVec 32, n = (x.toNat : Int) := by
  have h1 : 0 ≤ n ∧ n ≤ 4294967295 := by simpa [Lit.wf, IntKind.min, IntKind.max, IntKind.bits, IntKind.signed] using h
  refine ⟨BitVec.ofNat 32 n.toNat, ?_⟩
  rw [BitVec.toNat_ofNat]
  omega
theorem step_one (y : BitVec 32) (h : y.getLsbD 0 = true) : step y = (y >>> 1) ^^^ poly := by unfold step; rw [if_pos h]
theorem step_none (y : BitVec 32) (h : y.getLsbD 0 = false) : step y = y >>> 1 := by unfold step; rw [if_neg (by rw [h]; decide)]
end Go.Proofs.Ytooodafmglhfoaa.Crc
