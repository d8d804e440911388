/-
  What Join of package crc answers: what noughts do, as an array that is squared.
-/
import Derived.Test.YtcjgnnbbbhmfnaaCrcCalls
import Derived.Test.YtcjgnnbbbhmfnaaApp
import Derived.Laws.Rows
import Derived.Laws.CopyOwn
import Derived.Laws.ResultCell
namespace Go.Proofs.Ytcjgnnbbbhmfnaa
open Go.RowKit Crc

def arr (l : List (BitVec 32)) : Array Value := (l.map fun x => Value.int .u32 (x.toNat : Int)).toArray
theorem arr_size (l : List (BitVec 32)) : (arr l).size = l.length := by simp [arr]
theorem arr_get (l : List (BitVec 32)) (k : Nat) (h : k < l.length) : (arr l)[k]? = some (.int .u32 (l[k].toNat : Int)) := by simp [arr, h]
theorem arr_set (l : List (BitVec 32)) (k : Nat) (v : BitVec 32) : (arr l).setIfInBounds k (.int .u32 (v.toNat : Int)) = arr (l.set k v) := by
  unfold arr
  rw [List.setIfInBounds_toArray, List.map_set]
theorem arr_one (l : List (BitVec 32)) : (arr l).all (·.oneCell') = true := by
  rw [Array.all_eq_true_iff_forall_mem]
  intro v hv
  unfold arr at hv
  rw [List.mem_toArray, List.mem_map] at hv
  obtain ⟨x, _, rfl⟩ := hv
  rfl

/-- What n places make of each bit alone; so far: of the first k. -/
def rows (n : Nat) : List (BitVec 32) := (List.range 32).map fun i => steps n (bitAt i)
def rowsTo (n k : Nat) : List (BitVec 32) := (List.range 32).map fun i => if i < k then steps n (bitAt i) else 0#32
theorem rows_length (n : Nat) : (rows n).length = 32 := by simp [rows]
theorem rowsTo_length (n k : Nat) : (rowsTo n k).length = 32 := by simp [rowsTo]
theorem rows_get (n k : Nat) (h : k < (rows n).length) : (rows n)[k] = steps n (bitAt k) := by simp [rows]
theorem rowsTo_all (n : Nat) : rowsTo n 32 = rows n := by
  unfold rowsTo rows
  apply List.map_congr_left
  intro i hi
  rw [if_pos (by simpa using hi)]
theorem rowsTo_none (n : Nat) : rowsTo n 0 = List.replicate 32 0#32 := by
  unfold rowsTo
  simp only [Nat.not_lt_zero, if_false]
  decide
theorem rowsTo_succ (n k : Nat) : (rowsTo n k).set k (steps n (bitAt k)) = rowsTo n (k + 1) := by
  apply List.ext_getElem?
  intro i
  rw [List.getElem?_set]
  unfold rowsTo
  by_cases e : k = i
  · subst e
    by_cases h : k < 32 <;> simp [h]
  · rw [if_neg e]
    by_cases h : i < 32
    · have : (i < k + 1) ↔ (i < k) := by omega
      simp [h, this]
    · simp [h]
theorem arr_zero : arr (List.replicate 32 0#32) = #[.int .u32 0, .int .u32 0, .int .u32 0, .int .u32 0, .int .u32 0, .int .u32 0, .int .u32 0, .int .u32 0, .int .u32 0, .int .u32 0, .int .u32 0, .int .u32 0, .int .u32 0, .int .u32 0, .int .u32 0, .int .u32 0,
    .int .u32 0, .int .u32 0, .int .u32 0, .int .u32 0, .int .u32 0, .int .u32 0, .int .u32 0, .int .u32 0, .int .u32 0, .int .u32 0, .int .u32 0, .int .u32 0, .int .u32 0, .int .u32 0, .int .u32 0, .int .u32 0] := by rfl

/-- Block g is the table l. -/
def Tab (w : World) (g : Nat) (l : List (BitVec 32)) : Prop := w.heap[g]? = some (.cells (arr l) 38 (0, 0))
theorem Tab.cell {w : World} {g : Nat} {l : List (BitVec 32)} (h : Tab w g l) {k : Nat} (hk : k < l.length) : w.cell? ⟨g, k, none⟩ = some (.int .u32 (l[k].toNat : Int)) := by
  rw [cell_of_row w g k _ _ _ h, arr_get l k hk]
theorem Tab.frozen {w : World} {g : Nat} {l : List (BitVec 32)} (h : Tab w g l) (k : Nat) : w.frozen? ⟨g, k, none⟩ = false := frozen_of_row w g k _ _ h
theorem Tab.lt {w : World} {g : Nat} {l : List (BitVec 32)} (h : Tab w g l) : g < w.heap.size := by
  rcases Nat.lt_or_ge g w.heap.size with hlt | hge
  · exact hlt
  · unfold Tab at h; rw [Array.getElem?_eq_none hge] at h; cases h
theorem Tab.set {w : World} {g : Nat} {l : List (BitVec 32)} (h : Tab w g l) (k : Nat) (v : BitVec 32) : Tab (w.setCell ⟨g, k, none⟩ (.int .u32 (v.toNat : Int))) g (l.set k v) := by
  unfold Tab
  rw [heap_setCell_same w g k _ _ _ h, arr_set]
theorem Tab.far {w : World} {g : Nat} {l : List (BitVec 32)} (h : Tab w g l) {a : Addr} (ha : g ≠ a.block) (v : Value) : Tab (w.setCell a v) g l := (heap_setCell_other w a g v ha).trans h
theorem Tab.below {w w' : World} {B g : Nat} {l : List (BitVec 32)} (h : Tab w g l) (hb : Below B w w') (hg : g < B) : Tab w' g l := (hb.block g hg).trans h

theorem noughts_size : (Try.prog.info? 38).map (·.size) = some 32 := by kernel_rfl

theorem bitAt_toNat (k : Nat) (h : k < 32) : (bitAt k).toNat = 2 ^ k := by
  unfold bitAt
  rw [BitVec.toNat_shiftLeft]
  have : 2 ^ k < 2 ^ 32 := Nat.pow_lt_pow_right (by omega) h
  rw [Nat.shiftLeft_eq, show (1#32).toNat = 1 from rfl, Nat.one_mul, Nat.mod_eq_of_lt this]

theorem bitAt_int (k : Nat) (h : k < 32) : (2 : Int) ^ k % (4294967296 : Int) = ((bitAt k).toNat : Int) := by
  rw [bitAt_toNat k h]
  have h1 : 2 ^ k < 2 ^ 32 := Nat.pow_lt_pow_right (by omega) h
  have h2 : (2 : Int) ^ k = ((2 ^ k : Nat) : Int) := by rw [Int.natCast_pow]; rfl
  rw [h2]
  generalize (2 ^ k : Nat) = q at h1
  omega

set_option maxHeartbeats 1000000 in
theorem one_any (w : World) :
    Calls Try.prog 18 #[] w fun e w' => e = .returned (.agg (arr (rows 8))) ∧ Below w.heap.size w w' := by
  go_enter Try.func18, Try.ntmps18
  go_wp2_with fail
  go_loopw [2, 3] (fun _ i wr => ∃ k : Nat, k ≤ 32 ∧ i = .int .i64 k ∧ Tab wr w.heap.size (rowsTo 8 0) ∧ Tab wr (w.heap.size + 1) (rowsTo 8 k) ∧ Below w.heap.size w wr) (fun _ i _ => 32 - (intOf i).toNat)
  case atStart =>
    refine ⟨0, by omega, rfl, ?_, ?_, ((Below.refl _ _).alloc (Nat.le_refl _) _).alloc (by simp) _⟩
    · unfold Tab; rw [rowsTo_none, arr_zero]; exact heap_alloc2_old w _ _
    · unfold Tab; rw [rowsTo_none, arr_zero]; exact heap_alloc2_new w _ _
  case round =>
    obtain ⟨k, hk, rfl, hz, ht, hbel⟩ := hrel
    by_cases hlt : k < 32
    · have hcell := ht.cell (k := k) (by rw [rowsTo_length]; exact hlt)
      have hfr := ht.frozen k
      have hb := bitAt_int k hlt
      have ht2 := hid_ ((ht.set k (steps 8 (bitAt k))))
      rw [rowsTo_succ] at ht2
      have hz2 := hid_ (hz.far (a := ⟨w.heap.size + 1, k, none⟩) (by simp) (.int .u32 ((steps 8 (bitAt k)).toNat : Int)))
      have hbel2 := hid_ (hbel.setCell (p := ⟨w.heap.size + 1, k, none⟩) (by simp) (.int .u32 ((steps 8 (bitAt k)).toNat : Int)))
      clear hz ht hbel
      go_wp2_with (go_at_call 16; refine (eight_any _ _).mono ?_; rintro e w' ⟨rfl, rfl⟩)
      go_roundw
      case rel => exact ⟨k + 1, by omega, by go_num, hz2.out, ht2.out, hbel2.out⟩
      case measure => simp [intOf]; omega
    · obtain rfl : k = 32 := by omega
      rw [rowsTo_all] at ht
      have hw2 := hid_ (below_setRow hbel (Nat.le_refl w.heap.size) (arr (rows 8)))
      have hres := hid_ (setRow_heap wr w.heap.size (arr (rowsTo 8 0)) (arr (rows 8)) 38 (0, 0) hz)
      go_wp2_with (first | (refine wpList_load_row rfl 38 (.tmp 1) rfl (w.heap.size + 1) rfl 38 (arr (rows 8)) (0, 0) _ ht Try.underlying38 rfl (by rw [arr_size, rows_length]; exact noughts_size) ?_) | (refine wpList_store_row rfl 38 (.tmp 0) (.tmp 12) rfl w.heap.size (arr (rows 8)) rfl rfl 38 (arr (rowsTo 8 0)) hz (by rw [arr_size, rows_length]; exact noughts_size) (by rw [arr_size, arr_size, rows_length, rowsTo_length]) (arr_one _) ?_))
      refine bodyPost_ret (results_cell_row rfl _ _ w.heap.size 38 (arr (rows 8)) (0, 0) _ rfl hres.out Try.underlying38 rfl (by rw [arr_size, rows_length]; exact noughts_size)) rfl ⟨rfl, hw2.out⟩

set_option maxHeartbeats 1000000 in
theorem of_any (n : Nat) (x : BitVec 32) (w : World) :
    Calls Try.prog 19 #[.agg (arr (rows n)), .int .u32 x.toNat] w fun e w' => e = .returned (.int .u32 (steps n x).toNat) ∧ Below w.heap.size w w' := by
  have HT := hid_ (show Tab (w.alloc (.cells (arr (rows n)) 38)) w.heap.size (rows n) from heap_alloc_new w _)
  have HB := hid_ ((Below.refl w.heap.size w).alloc (Nat.le_refl _) (.cells (arr (rows n)) 38))
  generalize harr : arr (rows n) = A at *
  clear harr
  go_enter Try.func19, Try.ntmps19
  go_wp2_with fail
  generalize w.alloc (.cells A 38) = w1 at *
  go_loop [5, 6, 7] (fun s _ i => ∃ k : Nat, k ≤ 32 ∧ i = .int .i64 k ∧ s = .int .u32 (steps n (lows x k)).toNat) (fun _ _ i => 32 - (intOf i).toNat)
  case atStart => exact ⟨0, by omega, rfl, by rw [lows, steps_zero]; rfl⟩
  case round =>
    obtain ⟨k, hk, rfl, rfl⟩ := hrel
    by_cases hlt : k < 32
    · cases hb : x.getLsbD k
      · have hbb := bit_no hb
        have H := hid_ (congrArg (steps n) (show lows x (k + 1) = lows x k by rw [lows, if_neg (by rw [hb]; decide)]))
        clear hb
        go_wp2_with fail
        go_round
        case rel => exact ⟨k + 1, by omega, by go_num, by rw [H.out]⟩
        case measure => simp [intOf]; omega
      · have hbb := bit_yes hb
        have H := hid_ ((congrArg (steps n) (show lows x (k + 1) = lows x k ^^^ bitAt k by rw [lows, if_pos hb])).trans (steps_xor n _ _))
        have hc := HT.out.cell (k := k) (by rw [rows_length]; exact hlt)
        rw [rows_get] at hc
        have hx := bits_xor (steps n (lows x k)) (steps n (bitAt k))
        generalize steps n (lows x k) ^^^ steps n (bitAt k) = y at *
        clear hb
        go_wp2_with fail
        go_round
        case rel => exact ⟨k + 1, by omega, by go_num, by rw [H.out]⟩
        case measure => simp [intOf]; omega
    · obtain rfl : k = 32 := by omega
      have H := hid_ (congrArg (steps n) (lows_all x))
      go_wp2_with fail
      go_ret
      exact ⟨by rw [H.out]; rfl, HB.out⟩

/-- For a load of the whole table inside a statement that leaves its order open: what the block holds, as a function of the world. -/
def tabOf (w : World) (g : Nat) : Array Value := match w.heap[g]? with | some (.cells cs _ _) => cs | _ => #[]
def isTab (w : World) (g : Nat) : Bool := match w.heap[g]? with | some (.cells cs _ _) => cs.size == 32 | _ => false
theorem load_tab (w : World) (g : Nat) (h : isTab w g = true) : (loadVar 38 ⟨g, 0, none⟩).run Try.prog w = .ok (.agg (tabOf w g)) w := by
  unfold isTab at h
  unfold tabOf
  cases hg : w.heap[g]? with
  | none => rw [hg] at h; cases h
  | some o =>
    rw [hg] at h
    cases o with
    | cells cs t fr =>
      exact run_loadVar_row w g t 38 cs fr _ hg Try.underlying38 rfl (by rw [noughts_size]; simp at h; rw [h])
    | _ => cases h
def isTabAt (w : World) : Value → Bool
  | .pointer (some ⟨g, 0, none⟩) => isTab w g
  | _ => false
def tabAt (w : World) : Value → Array Value
  | .pointer (some ⟨g, 0, none⟩) => tabOf w g
  | _ => #[]
theorem isTabAt_ptr (w : World) (g : Nat) : isTabAt w (.pointer (some ⟨g, 0, none⟩)) = isTab w g := rfl
theorem tabAt_ptr (w : World) (g : Nat) : tabAt w (.pointer (some ⟨g, 0, none⟩)) = tabOf w g := rfl
theorem loadAt_tab (w : World) (v : Value) (h : isTabAt w v = true) : (Instr.loadAt 38 v).run Try.prog w = .ok (.agg (tabAt w v)) w := by
  unfold isTabAt at h
  split at h
  · unfold Instr.loadAt Instr.sureAddr
    rw [Sem.run_bind, Sem.run_pure]
    exact load_tab w _ h
  · cases h
def isLoad (o : Oper) (a : Act) (w : World) : Bool := match o.op with | .load 38 x => isTabAt w (a.eval x) | _ => false
def loaded (o : Oper) (a : Act) (w : World) : Array Value := match o.op with | .load _ x => tabAt w (a.eval x) | _ => #[]
theorem isLoad_is (dst : Option Tmp) (x : Operand) (ty : TypeId) (pos : String) (after : Array Edge) (gd : Option (Nat × Bool)) (a : Act) (w : World) :
    isLoad ⟨dst, .load 38 x, ty, pos, after, gd⟩ a w = isTabAt w (a.eval x) := rfl
theorem loaded_is (dst : Option Tmp) (x : Operand) (ty : TypeId) (pos : String) (after : Array Edge) (gd : Option (Nat × Bool)) (a : Act) (w : World) :
    loaded ⟨dst, .load 38 x, ty, pos, after, gd⟩ a w = tabAt w (a.eval x) := rfl
theorem wp_load_tab {o : Oper} {a : Act} {w : World} {K : Act → World → Prop} {Q : Exit → Act → World → Prop}
    (h : isLoad o a w = true) : Oper.wp Try.prog o a w K Q = K (a.put o.dst (.agg (loaded o a w))) w := by
  obtain ⟨dst, op, ty, pos, after, gd⟩ := o
  unfold isLoad at h
  split at h
  · rename_i x hx
    cases hx
    rw [loaded_is]
    unfold Oper.wp execOp
    simp only [Sem.run_bind, loadAt_tab w _ h, Result.andThen_ok, Sem.run_pure]
    rfl
  · cases h
theorem tabOf_drew (w : World) (g : Nat) : tabOf w.drew g = tabOf w g := rfl
theorem isTab_drew (w : World) (g : Nat) : isTab w.drew g = isTab w g := rfl
theorem tabOf_drewN (w : World) (n g : Nat) : tabOf (w.drewN n) g = tabOf w g := rfl
theorem isTab_drewN (w : World) (n g : Nat) : isTab (w.drewN n) g = isTab w g := rfl
theorem tabOf_is {w : World} {g : Nat} {cs : Array Value} {t : TypeId} (h : w.heap[g]? = some (.cells cs t (0, 0))) : tabOf w g = cs := by unfold tabOf; rw [h]
theorem isTab_is {w : World} {g : Nat} {cs : Array Value} {t : TypeId} (h : w.heap[g]? = some (.cells cs t (0, 0))) (hs : cs.size = 32) : isTab w g = true := by unfold isTab; rw [h]; simp [hs]

section
attribute [local go_sem ↓] wp_load_tab
attribute [local go_sem] isLoad_is loaded_is isTabAt_ptr tabAt_ptr tabOf_drew isTab_drew tabOf_drewN isTab_drewN
set_option maxHeartbeats 1000000 in
theorem sq_any (n : Nat) (w : World) :
    Calls Try.prog 20 #[.agg (arr (rows n))] w fun e w' => e = .returned (.agg (arr (rows (n + n)))) ∧ Below w.heap.size w w' := by
  have HO := hid_ (fun (x : BitVec 32) (W : World) => of_any n x W)
  have K1 := hid_ (heap_alloc_new w (.cells (arr (rows n)) 38))
  have hsz : (arr (rows n)).size = 32 := by rw [arr_size, rows_length]
  generalize harr : arr (rows n) = A at *
  have Harr := hid_ harr
  clear harr
  go_enter Try.func20, Try.ntmps20
  go_wp2_with fail
  go_loopw [4, 5] (fun _ i wr => ∃ k : Nat, k ≤ 32 ∧ i = .int .i64 k ∧ wr.heap[w.heap.size]? = some (.cells A 38 (0, 0)) ∧ Tab wr (w.heap.size + 1) (rowsTo (n + n) 0) ∧ Tab wr (w.heap.size + 1 + 1) (rowsTo (n + n) k) ∧ Below w.heap.size w wr ∧ w.heap.size + 1 + 1 < wr.heap.size) (fun _ i _ => 32 - (intOf i).toNat)
  case atStart =>
    refine ⟨0, by omega, rfl, ?_, ?_, ?_, (((Below.refl _ _).alloc (Nat.le_refl _) _).alloc (by simp) _).alloc (by simp; omega) _, by simp⟩
    · rw [Below.heap_alloc _ _ _ (by simp; omega), Below.heap_alloc _ _ _ (by simp)]; exact K1.out
    · unfold Tab; rw [Below.heap_alloc _ _ _ (by simp), rowsTo_none, arr_zero]; exact heap_alloc2_new w _ _
    · unfold Tab
      rw [rowsTo_none, arr_zero]
      have h := heap_alloc2_new (w.alloc (.cells A 38)) (.cells (arr (List.replicate 32 0#32)) 38) (.cells (arr (List.replicate 32 0#32)) 38)
      rw [arr_zero, World.size_alloc] at h
      exact h
  case round =>
    obtain ⟨k, hk, rfl, hm, hz, ht, hbel, hlt3⟩ := hrel
    by_cases hlt : k < 32
    · have hc : wr.cell? ⟨w.heap.size, k, none⟩ = some (.int .u32 ((steps n (bitAt k)).toNat : Int)) := by
        rw [cell_of_row wr _ k _ _ _ hm, ← Harr.out, arr_get _ k (by rw [rows_length]; exact hlt), rows_get]
      have Hz := hid_ hz
      have Ht := hid_ ht
      have Hbel := hid_ hbel
      have hm1 := tabOf_is hm
      have hm2 := isTab_is hm hsz
      have Hm := hid_ hm
      clear hz ht hbel hm
      go_wp2_with fail
      go_region_with ((with_reducible refine (HO.out _ _).mono ?_); rintro e w1 ⟨rfl, hb0⟩; have hb1 : Below wr.heap.size wr w1 := (Below.refl _ wr).drew.trans hb0; have hcc := (Ht.out.below hb1 hlt3).cell (k := k) (by rw [rowsTo_length]; exact hlt); have hfr := (Ht.out.below hb1 hlt3).frozen k; have Hb1 := hid_ hb1; clear hb0 hb1)
      all_goals
        have Ht2 := (Ht.out.below Hb1.out hlt3).set k (steps n (steps n (bitAt k)))
        rw [← steps_add, rowsTo_succ] at Ht2
        have Hf := hid_ Ht2
        clear Ht2
        go_wp2
        go_roundw
        case rel => exact ⟨k + 1, by omega, by go_num, (heap_setCell_other _ _ _ _ (by simp; omega)).trans ((Hb1.out.block _ (by omega)).trans Hm.out), (Hz.out.below Hb1.out (by omega)).far (by simp) _, by rw [steps_add] at Hf; exact Hf.out, (Hbel.out.trans (Hb1.out.mono Hbel.out.size)).setCell (by simp; omega) _, by have := Hb1.out.size; simp [World.setCell]; omega⟩
        case measure => simp [intOf]; omega
    · obtain rfl : k = 32 := by omega
      rw [rowsTo_all] at ht
      have hw2 := hid_ (below_setRow hbel (show w.heap.size ≤ w.heap.size + 1 by omega) (arr (rows (n + n))))
      have hres := hid_ (setRow_heap wr (w.heap.size + 1) (arr (rowsTo (n + n) 0)) (arr (rows (n + n))) 38 (0, 0) hz)
      clear hm hsz K1 Harr HO
      go_wp2_with (first | (refine wpList_load_row rfl 38 (.tmp 3) rfl (w.heap.size + 1 + 1) rfl 38 (arr (rows (n + n))) (0, 0) _ ht Try.underlying38 rfl (by rw [arr_size, rows_length]; exact noughts_size) ?_) | (refine wpList_store_row rfl 38 (.tmp 2) (.tmp 16) rfl (w.heap.size + 1) (arr (rows (n + n))) rfl rfl 38 (arr (rowsTo (n + n) 0)) hz (by rw [arr_size, rows_length]; exact noughts_size) (by rw [arr_size, arr_size, rows_length, rowsTo_length]) (arr_one _) ?_))
      refine bodyPost_ret (results_cell_row rfl _ _ (w.heap.size + 1) 38 (arr (rows (n + n))) (0, 0) _ rfl hres.out Try.underlying38 rfl (by rw [arr_size, rows_length]; exact noughts_size)) rfl ⟨rfl, hw2.out⟩
end

theorem ofInt64 (q : Nat) (h : q < 9223372036854775808) : (BitVec.ofInt 64 (q : Int)).toNat = q := by
  rw [BitVec.ofInt_natCast, BitVec.toNat_ofNat]
  exact Nat.mod_eq_of_lt (by omega)
theorem and1_int (q : Nat) (h : q ≤ 1048576) : bits .and .i64 (q : Int) 1 = ((q % 2 : Nat) : Int) := by
  show IntKind.i64.wrap ((BitVec.ofInt 64 (q : Int) &&& BitVec.ofInt 64 ((1 : Nat) : Int)).toNat : Int) = _
  rw [BitVec.toNat_and, ofInt64 q (by omega), ofInt64 1 (by omega), nat_mask1, IntKind.wrap_i64]
  omega
theorem odd_yes {q : Nat} (h : q ≤ 1048576) (h1 : q % 2 = 1) : (bits .and .i64 (q : Int) 1 == 1) = true := by rw [and1_int q h, h1]; rfl
theorem odd_no {q : Nat} (h : q ≤ 1048576) (h1 : q % 2 = 0) : (bits .and .i64 (q : Int) 1 == 1) = false := by rw [and1_int q h, h1]; rfl
theorem double_even (p q : Nat) (y : BitVec 32) (h : q % 2 = 0) : steps ((p + p) * (q / 2)) y = steps (p * q) y := by
  congr 1
  have e : q = q / 2 + q / 2 := by omega
  conv => rhs; rw [e, Nat.mul_add]
  rw [Nat.add_mul]
theorem double_odd (p q : Nat) (y : BitVec 32) (h : q % 2 = 1) : steps ((p + p) * (q / 2)) (steps p y) = steps (p * q) y := by
  rw [← steps_add]
  congr 1
  have e : q = q / 2 + q / 2 + 1 := by omega
  conv => rhs; rw [e, Nat.mul_add, Nat.mul_add, Nat.mul_one]
  rw [Nat.add_mul]

set_option maxHeartbeats 1000000 in
theorem join_bad (a b : BitVec 32) (n : Int) (w : World) (h : n < 0 ∨ 1048576 < n) :
    Calls Try.prog 15 #[.int .u32 a.toNat, .int .u32 b.toNat, .int .i64 n] w fun e w' => e = .returned (.tuple #[.int .u32 0, .int .i64 1]) ∧ w = w' := by
  by_cases h0 : n < 0
  · go_enter Try.func15, Try.ntmps15
    go_wp2_with fail
    go_ret2
    exact ⟨rfl, rfl⟩
  · have h1 : (1048576 : Int) < n := by omega
    go_enter Try.func15, Try.ntmps15
    go_wp2_with fail
    go_ret2
    exact ⟨rfl, rfl⟩

set_option maxHeartbeats 1000000 in
theorem join_good (a b : BitVec 32) (n : Nat) (w : World) (h : n ≤ 1048576) :
    Calls Try.prog 15 #[.int .u32 a.toNat, .int .u32 b.toNat, .int .i64 n] w fun e w' => e = .returned (.tuple #[.int .u32 (steps (8 * n) a ^^^ b).toNat, .int .i64 0]) ∧ Below w.heap.size w w' := by
  have d1 : decide ((n : Int) < 0) = false := by simp
  have d2 : decide ((1048576 : Int) < (n : Int)) = false := by simp; omega
  have HO := hid_ (fun (p : Nat) (x : BitVec 32) (W : World) => of_any p x W)
  have HS := hid_ (fun (p : Nat) (W : World) => sq_any p W)
  go_enter Try.func15, Try.ntmps15
  go_wp2_with fail
  refine (one_any w).mono ?_
  rintro e w1 ⟨rfl, hb1⟩
  have hg : w.heap.size ≤ w1.heap.size := hb1.size
  have ht0 := heap_alloc_new w1 (.cells (arr (rowsTo 8 0)) 38)
  have ht1 := hid_ (setRow_heap (w1.alloc (.cells (arr (rowsTo 8 0)) 38)) w1.heap.size _ (arr (rows 8)) 38 (0, 0) ht0)
  have hb2 := hid_ (below_setRow (hb1.alloc hg (.cells (arr (rowsTo 8 0)) 38)) hg (arr (rows 8)))
  rw [rowsTo_none, arr_zero] at ht0 ht1 hb2
  have Ht0 := hid_ ht0
  have Hb1 := hid_ hb1
  clear ht0 hb1
  go_wp2_with (refine wpList_store_row rfl 38 (.tmp 8) (.tmp 15) rfl w1.heap.size (arr (rows 8)) rfl rfl 38 _ Ht0.out (by rw [arr_size, rows_length]; exact noughts_size) (by rw [arr_size, rows_length]; rfl) (arr_one _) ?_)
  clear d1 d2 Ht0
  generalize World.setRow _ _ _ = w2 at *
  generalize w1.heap.size = g at *
  go_simp
  go_loopw [0, 2] (fun y q wr => ∃ (k p : Nat) (x : BitVec 32), k ≤ n ∧ q = .int .i64 k ∧ y = .int .u32 x.toNat ∧ Tab wr g (rows p) ∧ Below w.heap.size w wr ∧ Hid (steps (p * k) x = steps (8 * n) a)) (fun _ q _ => (intOf q).toNat)
  case atStart => exact ⟨n, 8, a, Nat.le_refl _, rfl, rfl, ht1.out, hb2.out, rfl⟩
  case round =>
    obtain ⟨k, p, x, hk, rfl, rfl, ht, hbel, hst⟩ := hrel
    by_cases hlt : 0 < k
    · have hdiv := hid_ (show ((k : Int) / (2 : Int)) = ((k / 2 : Nat) : Int) by omega)
      by_cases ho : k % 2 = 1
      · have hod := odd_yes (q := k) (by omega) ho
        have hst2 := hid_ ((double_odd p k x ho).trans hst.out)
        clear ho
        go_wp2_with (refine wpList_load_row rfl 38 (.tmp 8) rfl g rfl 38 (arr (rows p)) (0, 0) _ ht Try.underlying38 rfl (by rw [arr_size, rows_length]; exact noughts_size) ?_)
        refine (HO.out p x wr).mono ?_
        rintro e w3 ⟨rfl, hb3⟩
        have ht3 := ht.below hb3 ht.lt
        go_wp2_with (refine wpList_load_row rfl 38 (.tmp 8) rfl g rfl 38 (arr (rows p)) (0, 0) _ ht3 Try.underlying38 rfl (by rw [arr_size, rows_length]; exact noughts_size) ?_)
        refine (HS.out p w3).mono ?_
        rintro e w4 ⟨rfl, hb4⟩
        have ht4 := ht3.below hb4 ht3.lt
        have hb5 := hid_ (below_setRow ((hbel.trans (hb3.mono hbel.size)).trans (hb4.mono (Nat.le_trans hbel.size hb3.size))) hg (arr (rows (p + p))))
        have ht5 := hid_ (setRow_heap w4 g _ (arr (rows (p + p))) 38 (0, 0) ht4)
        clear ht ht3 hbel hb3 hb4
        go_wp2_with (refine wpList_store_row rfl 38 (.tmp 8) (.tmp 27) rfl g (arr (rows (p + p))) rfl rfl 38 _ ht4 (by rw [arr_size, rows_length]; exact noughts_size) (by rw [arr_size, arr_size, rows_length, rows_length]) (arr_one _) ?_)
        go_roundw
        case rel => exact ⟨k / 2, p + p, steps p x, by omega, by rw [hdiv.out], rfl, ht5.out, hb5.out, hst2⟩
        case measure => simp [intOf]; omega
      · have hod := odd_no (q := k) (by omega) (by omega)
        have hst2 := hid_ ((double_even p k x (by omega)).trans hst.out)
        clear ho
        go_wp2_with (refine wpList_load_row rfl 38 (.tmp 8) rfl g rfl 38 (arr (rows p)) (0, 0) _ ht Try.underlying38 rfl (by rw [arr_size, rows_length]; exact noughts_size) ?_)
        refine (HS.out p wr).mono ?_
        rintro e w4 ⟨rfl, hb4⟩
        have ht4 := ht.below hb4 ht.lt
        have hb5 := hid_ (below_setRow (hbel.trans (hb4.mono hbel.size)) hg (arr (rows (p + p))))
        have ht5 := hid_ (setRow_heap w4 g _ (arr (rows (p + p))) 38 (0, 0) ht4)
        clear ht hbel hb4
        go_wp2_with (refine wpList_store_row rfl 38 (.tmp 8) (.tmp 27) rfl g (arr (rows (p + p))) rfl rfl 38 _ ht4 (by rw [arr_size, rows_length]; exact noughts_size) (by rw [arr_size, arr_size, rows_length, rows_length]) (arr_one _) ?_)
        go_roundw
        case rel => exact ⟨k / 2, p + p, x, by omega, by rw [hdiv.out], rfl, ht5.out, hb5.out, hst2⟩
        case measure => simp [intOf]; omega
    · obtain rfl : k = 0 := by omega
      rw [Nat.mul_zero] at hst
      obtain rfl : x = steps (8 * n) a := hst.out
      have hx := bits_xor (steps (8 * n) a) b
      generalize hz : steps (8 * n) a ^^^ b = z at *
      have Hz := hid_ hz
      clear hz
      go_wp2_with fail
      go_ret2
      refine ⟨?_, hbel⟩
      rw [Hz.out]
      rfl
end Go.Proofs.Ytcjgnnbbbhmfnaa
