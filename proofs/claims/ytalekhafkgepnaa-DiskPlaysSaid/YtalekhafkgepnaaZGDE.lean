/-
  Operations on a disk that came in: what the shell's reading tells of them.
-/
import Derived.Test.YtalekhafkgepnaaZDiskAlive
import Derived.Test.YtalekhafkgepnaaZGDA
import Derived.Test.YtalekhafkgepnaaZGDB
import Derived.Deep.Matrix
import Derived.WideShapes
import Derived.Deep.QuietTactic
import Derived.BigQuiet
namespace Go.Proofs.Ytalekhafkgepnaa
set_option linter.unusedSimpArgs false
set_option linter.unusedVariables false
open Go.RowKit Go.ChangeShapes Go.WideShapes
namespace Dsk
set_option linter.unusedSimpArgs false
set_option linter.unusedVariables false
/-- An operation: its kind, its file, its number, its bytes, what it keeps. -/
structure OpD where
  kind : Int
  file : Int
  n : Int
  b : List UInt8
  keep : List Int
structure OpD.Wf (o : OpD) : Prop where
  file1 : -9223372036854775808 ≤ o.file
  file2 : o.file ≤ 9223372036854775807
  n1 : -9223372036854775808 ≤ o.n
  n2 : o.n ≤ 9223372036854775807
structure OpAt (w : World) (g off : Nat) (o : OpD) (Ab : Option Addr) (cb : Nat) (Ak : Option Addr) (ck : Nat) : Prop where
  c0 : w.cell? ⟨g, off, none⟩ = some (.int .i64 o.kind)
  c1 : w.cell? ⟨g, off + 1, none⟩ = some (.int .i64 o.file)
  c2 : w.cell? ⟨g, off + 2, none⟩ = some (.int .i64 o.n)
  c3 : w.cell? ⟨g, off + 3, none⟩ = some (.slice Ab o.b.length cb)
  c4 : w.cell? ⟨g, off + 4, none⟩ = some (.slice Ak o.keep.length ck)
  sb : Sl w Ab o.b.length cb o.b
  sk : Row w Ak o.keep.length ck (intVals o.keep)
theorem OpAt.below {w w' : World} {g off : Nat} {o : OpD} {Ab : Option Addr} {cb : Nat} {Ak : Option Addr} {ck : Nat} (h : OpAt w g off o Ab cb Ak ck) (hb : Below w.heap.size w w') : OpAt w' g off o Ab cb Ak ck := by
  have hl := lt_of_cell h.c0
  have k : ∀ i, w'.cell? ⟨g, i, none⟩ = w.cell? ⟨g, i, none⟩ := fun i => hb.cell (p := ⟨g, i, none⟩) hl
  exact ⟨(k _).trans h.c0, (k _).trans h.c1, (k _).trans h.c2, (k _).trans h.c3, (k _).trans h.c4, h.sb.below hb, h.sk.below hb⟩
structure OpRow (w : World) (A : Option Addr) (n c : Nat) (l : List OpD) : Prop where
  holds : l ≠ [] → ∃ g off, A = some ⟨g, off, none⟩ ∧ ∀ k (hk : k < l.length), ∃ Ab cb Ak ck, OpAt w g (off + k * 5) l[k] Ab cb Ak ck
  len : l.length = n
  cap : n ≤ c
  max : c ≤ 9223372036854775807
  nil : A = none → c = 0
theorem OpRow.below {w w' : World} {A : Option Addr} {n c : Nat} {l : List OpD} (h : OpRow w A n c l) (hb : Below w.heap.size w w') : OpRow w' A n c l := by
  refine ⟨fun hne => ?_, h.len, h.cap, h.max, h.nil⟩
  obtain ⟨g, off, e, hk⟩ := h.holds hne
  refine ⟨g, off, e, fun k hkl => ?_⟩
  obtain ⟨Ab, cb, Ak, ck, ho⟩ := hk k hkl
  exact ⟨Ab, cb, Ak, ck, ho.below hb⟩
theorem OpRow.at_ {w : World} {A : Option Addr} {n c : Nat} {l : List OpD} (h : OpRow w A n c l) {k : Nat} (hk : k < l.length) : ∃ g off Ab cb Ak ck, A = some ⟨g, off, none⟩ ∧ OpAt w g (off + k * 5) l[k] Ab cb Ak ck := by
  obtain ⟨g, off, e, h1⟩ := h.holds (by rintro rfl; simp at hk)
  obtain ⟨Ab, cb, Ak, ck, ho⟩ := h1 k hk
  exact ⟨g, off, Ab, cb, Ak, ck, e, ho⟩
/-- What operations that came in are known to be. -/
def OpsV (w : World) (v : Value) : Prop := ∃ A n c l, v = .slice A n c ∧ OpRow w A n c l ∧ ∀ o ∈ l, o.Wf
theorem cells_op : Try.prog.cellsOf 78 = 5 := by kernel_rfl
theorem cells_i : Try.prog.cellsOf 3 = 1 := by kernel_rfl
theorem cells_u8 : Try.prog.cellsOf 5 = 1 := by kernel_rfl
theorem cells_bs : Try.prog.cellsOf 75 = 1 := by kernel_rfl
theorem cells_is : Try.prog.cellsOf 76 = 1 := by kernel_rfl
theorem five_cells {cs : List Value} (h : cs.length = 5) : ∃ a b c d e, cs = [a, b, c, d, e] := by
  match cs, h with
  | [a, b, c, d, e], _ => exact ⟨a, b, c, d, e, rfl⟩
section
variable {H : Type} {enc : TypeId × Value → H} {w : World} {base : Nat} {held : Bool} {fuel : Nat}
theorem bytes_field {cs : List Value} {x : DataW H × List MemPlace} (h : DataW.trod enc Try.prog w base (fun _ => true) held fuel 75 cs = some x) :
    ∃ A n c l, cs = [.slice A n c] ∧ Sl w A n c l := by
  rcases Go.Deep.open_slice1 Try.underlying75 cells_u8 h with ⟨hcs, _⟩ | ⟨a, len, cap, m, n, V, D, Pl, hcs, _, h1, h2, hm, _, h3⟩
  · exact ⟨_, _, _, [], hcs, Sl.none w⟩
  · simp only [if_true] at hm
    subst hm
    have hone : ∀ k, k < m → ∃ s : UInt8, w.cell? (a.add k) = some (.int .u8 (s.toNat : Int)) := fun k hk => by
      obtain ⟨g1, g2⟩ := h3 k hk
      obtain ⟨n0, e0, _, w0⟩ := DataW.trod_int Try.underlying5 g2
      obtain ⟨m0, rfl⟩ := byte_of w0
      injection e0 with e0
      exact ⟨m0, by rw [g1, e0]⟩
    obtain ⟨f, hf'⟩ := Go.Deep.choose_lt hone
    refine ⟨_, _, _, (List.range len).map f, hcs, ⟨fun hne => ?_, by simp, h1, by unfold maxLen at h2; omega, fun e => by cases e⟩⟩
    have hpos : 0 < len := by
      rcases Nat.eq_zero_or_pos len with e | e
      · subst e; exact absurd rfl hne
      · exact e
    obtain ⟨b, off, spot⟩ := a
    have h0 := hf' 0 (by omega)
    have hs : spot = none := by simpa [Addr.add] using World.cell?_spot h0
    subst hs
    refine ⟨b, off, rfl, fun k u hu => ?_⟩
    obtain ⟨hk, rfl⟩ := bytes_get_inv hu
    have hk' : k < len := by simpa using hk
    have h4 := hf' k (by omega)
    rw [add_plain] at h4
    rw [h4]
    simp
theorem ints_field {cs : List Value} {x : DataW H × List MemPlace} (h : DataW.trod enc Try.prog w base (fun _ => true) held fuel 76 cs = some x) :
    ∃ A n c l, cs = [.slice A n c] ∧ Row w A n c (intVals l) := by
  rcases Go.Deep.open_slice1 Try.underlying76 cells_i h with ⟨hcs, _⟩ | ⟨a, len, cap, m, n, V, D, Pl, hcs, _, h1, h2, hm, _, h3⟩
  · exact ⟨_, _, _, [], hcs, Row.none w⟩
  · simp only [if_true] at hm
    subst hm
    have hone : ∀ k, k < m → ∃ s : Int, w.cell? (a.add k) = some (.int .i64 s) := fun k hk => by
      obtain ⟨g1, g2⟩ := h3 k hk
      obtain ⟨n0, e0, _, w0⟩ := DataW.trod_int Try.underlying3 g2
      injection e0 with e0
      exact ⟨n0, by rw [g1, e0]⟩
    obtain ⟨f, hf'⟩ := Go.Deep.choose_lt hone
    refine ⟨_, _, _, (List.range len).map f, hcs, ⟨fun hne => ?_, by simp [intVals], h1, by unfold maxLen at h2; omega, fun e => by cases e⟩⟩
    have hpos : 0 < len := by
      rcases Nat.eq_zero_or_pos len with e | e
      · subst e; exact absurd rfl hne
      · exact e
    obtain ⟨b, off, spot⟩ := a
    have h0 := hf' 0 (by omega)
    have hs : spot = none := by simpa [Addr.add] using World.cell?_spot h0
    subst hs
    refine ⟨b, off, rfl, fun k u hu => ?_⟩
    have hk : k < len := by
      have := (List.getElem?_eq_some_iff.1 hu).1
      simpa [intVals] using this
    have h4 := hf' k (by omega)
    rw [add_plain] at h4
    rw [h4]
    simp [intVals, hk] at hu
    rw [← hu]
set_option maxRecDepth 100000 in
theorem op_cells {cs : List Value} {x : DataW H × List MemPlace} (h : DataW.trod enc Try.prog w base (fun _ => true) held fuel 78 cs = some x) :
    ∃ (o : OpD) (Ab : Option Addr) (cb : Nat) (Ak : Option Addr) (ck : Nat), o.Wf ∧ cs = [.int .i64 o.kind, .int .i64 o.file, .int .i64 o.n, .slice Ab o.b.length cb, .slice Ak o.keep.length ck] ∧ Sl w Ab o.b.length cb o.b ∧ Row w Ak o.keep.length ck (intVals o.keep) := by
  obtain ⟨xs, n, _, _, hlen, hxl, hf⟩ := DataW.trod_struct Try.underlying78 h
  rw [cells_op] at hlen
  obtain ⟨q0, q1, q2, q3, q4, rfl⟩ := five_cells hlen
  have hxl' : xs.length = 5 := hxl
  have h0 : DataW.trod enc Try.prog w base (fun _ => true) held n 3 (([q0, q1, q2, q3, q4].drop 0).take (Try.prog.cellsOf 3)) = xs[0]? := hf 0 _ rfl
  have h1 : DataW.trod enc Try.prog w base (fun _ => true) held n 3 (([q0, q1, q2, q3, q4].drop 1).take (Try.prog.cellsOf 3)) = xs[1]? := hf 1 _ rfl
  have h2 : DataW.trod enc Try.prog w base (fun _ => true) held n 3 (([q0, q1, q2, q3, q4].drop 2).take (Try.prog.cellsOf 3)) = xs[2]? := hf 2 _ rfl
  have h3 : DataW.trod enc Try.prog w base (fun _ => true) held n 75 (([q0, q1, q2, q3, q4].drop 3).take (Try.prog.cellsOf 75)) = xs[3]? := hf 3 _ rfl
  have h4 : DataW.trod enc Try.prog w base (fun _ => true) held n 76 (([q0, q1, q2, q3, q4].drop 4).take (Try.prog.cellsOf 76)) = xs[4]? := hf 4 _ rfl
  clear hf
  rw [cells_i] at h0 h1 h2
  rw [cells_bs] at h3
  rw [cells_is] at h4
  rw [List.getElem?_eq_getElem (by omega)] at h0 h1 h2 h3 h4
  obtain ⟨n0, e0, _, w0⟩ := DataW.trod_int Try.underlying3 h0
  obtain ⟨n1, e1, _, w1⟩ := DataW.trod_int Try.underlying3 h1
  obtain ⟨n2, e2, _, w2⟩ := DataW.trod_int Try.underlying3 h2
  obtain ⟨A3, m3, c3, l3, e3, s3⟩ := bytes_field h3
  obtain ⟨A4, m4, c4, l4, e4, s4⟩ := ints_field h4
  have i1 : -9223372036854775808 ≤ n1 ∧ n1 ≤ 9223372036854775807 := by simpa [Lit.wf, IntKind.min, IntKind.max, IntKind.bits, IntKind.signed] using w1
  have i2 : -9223372036854775808 ≤ n2 ∧ n2 ≤ 9223372036854775807 := by simpa [Lit.wf, IntKind.min, IntKind.max, IntKind.bits, IntKind.signed] using w2
  simp at e0 e1 e2 e3 e4
  obtain rfl := s3.len
  have hl4 := s4.len
  rw [intVals_len] at hl4
  subst hl4
  exact ⟨⟨n0, n1, n2, l3, l4⟩, A3, c3, A4, c4, ⟨i1.1, i1.2, i2.1, i2.2⟩, by rw [e0, e1, e2, e3, e4], s3, s4⟩
set_option maxRecDepth 100000 in
theorem open_opsV {v : Value} {d : DataW H} {p : List MemPlace} {x : Reach} {r : Nat}
    (hv : Value.okWide Try.prog w x r 67 v) (h : DataW.Trod enc Try.prog w base (fun _ => true) held 67 v d p) : OpsV w v := by
  obtain ⟨a0, len0, cap0, rfl⟩ := okWide_slice Try.underlying67 hv
  obtain ⟨fuel, hf⟩ := h
  rcases Go.Deep.open_slice Try.underlying67 hf with ⟨hcs, _⟩ | ⟨a, len, cap, m, n, D, Pl, hcs, _, h1, h2, hm, _, h3⟩
  · simp [Value.cells] at hcs
    obtain ⟨rfl, rfl, rfl⟩ := hcs
    exact ⟨_, _, _, [], rfl, ⟨fun h => absurd rfl h, rfl, Nat.le_refl _, by omega, fun _ => rfl⟩, by simp⟩
  · simp [Value.cells] at hcs
    obtain ⟨rfl, rfl, rfl⟩ := hcs
    simp only [if_true] at hm
    subst hm
    have hone : ∀ k, k < m → ∃ o : OpD, o.Wf ∧ ∃ (Ab : Option Addr) (cb : Nat) (Ak : Option Addr) (ck : Nat), (∀ j u, ([.int .i64 o.kind, .int .i64 o.file, .int .i64 o.n, .slice Ab o.b.length cb, .slice Ak o.keep.length ck] : List Value)[j]? = some u → w.cell? ((a.add (k * 5)).add j) = some u) ∧ Sl w Ab o.b.length cb o.b ∧ Row w Ak o.keep.length ck (intVals o.keep) := fun k hk => by
      obtain ⟨cs', g1, g2⟩ := h3 k hk
      rw [cells_op] at g1
      obtain ⟨o, Ab, cb, Ak, ck, hw, e, s1, s2⟩ := op_cells g2
      obtain ⟨_, _, hat⟩ := World.cells?_some g1
      refine ⟨o, hw, Ab, cb, Ak, ck, fun j u hu => ?_, s1, s2⟩
      have hj : j < 5 := (List.getElem?_eq_some_iff.1 hu).1
      rw [hat j hj, e]
      exact hu
    haveI : Inhabited OpD := ⟨⟨0, 0, 0, [], []⟩⟩
    obtain ⟨f, hf'⟩ := Go.Deep.choose_lt hone
    refine ⟨_, _, _, (List.range len0).map f, rfl, ⟨fun hne => ?_, by simp, h1, by unfold maxLen at h2; omega, fun e => by cases e⟩, ?_⟩
    · have hpos : 0 < len0 := by
        rcases Nat.eq_zero_or_pos len0 with e | e
        · subst e; exact absurd rfl hne
        · exact e
      obtain ⟨b, off, spot⟩ := a
      obtain ⟨_, _, _, _, _, h0, _⟩ := hf' 0 (by omega)
      have h0 := h0 0 _ rfl
      have hs : spot = none := by simpa [Addr.add] using World.cell?_spot h0
      subst hs
      refine ⟨b, off, rfl, fun k hk => ?_⟩
      have hk' : k < len0 := by simpa using hk
      rw [List.getElem_map, List.getElem_range]
      obtain ⟨_, Ab, cb, Ak, ck, hc, s1, s2⟩ := hf' k (by omega)
      have hc' : ∀ j u, ([.int .i64 (f k).kind, .int .i64 (f k).file, .int .i64 (f k).n, .slice Ab (f k).b.length cb, .slice Ak (f k).keep.length ck] : List Value)[j]? = some u → w.cell? ⟨b, off + k * 5 + j, none⟩ = some u := fun j u hu => by
        have := hc j u hu
        rwa [add_plain, add_plain] at this
      exact ⟨Ab, cb, Ak, ck, hc' 0 _ rfl, hc' 1 _ rfl, hc' 2 _ rfl, hc' 3 _ rfl, hc' 4 _ rfl, s1, s2⟩
    · intro s hs
      obtain ⟨k, hk, rfl⟩ := List.mem_map.1 hs
      exact (hf' k (by have := List.mem_range.1 hk; omega)).1
end
end Dsk
end Go.Proofs.Ytalekhafkgepnaa

/-
  Are operations few, and their bytes?
-/
namespace Go.Proofs.Ytalekhafkgepnaa
set_option linter.unusedSimpArgs false
set_option linter.unusedVariables false
open Go.RowKit
namespace Dsk
set_option linter.unusedSimpArgs false
set_option linter.unusedVariables false
/-- The bytes of the first k operations together. -/
def sumB : List OpD → Nat → Nat
  | [], _ => 0
  | _, 0 => 0
  | o :: l, k + 1 => o.b.length + sumB l k
theorem sumB_succ : ∀ (l : List OpD) (k : Nat) (hk : k < l.length), sumB l (k + 1) = sumB l k + l[k].b.length
  | [], k, hk => by simp at hk
  | o :: l, 0, _ => by cases l <;> simp [sumB]
  | o :: l, k + 1, hk => by
    have h := sumB_succ l k (by simpa using hk)
    rw [show sumB (o :: l) (k + 1 + 1) = o.b.length + sumB l (k + 1) from rfl, show sumB (o :: l) (k + 1) = o.b.length + sumB l k from rfl, h]
    simp
    omega
theorem sumB_zero (l : List OpD) : sumB l 0 = 0 := by cases l <;> rfl
theorem sumB_mono (l : List OpD) : ∀ (k n : Nat), k ≤ n → n ≤ l.length → sumB l k ≤ sumB l n := by
  intro k n h hn
  induction n with
  | zero => obtain rfl : k = 0 := by omega
            exact Nat.le_refl _
  | succ n ih =>
    by_cases e : k = n + 1
    · subst e; exact Nat.le_refl _
    · have := ih (by omega) (by omega)
      rw [sumB_succ l n (by omega)]
      omega
def lightO (l : List OpD) : Bool := decide (l.length ≤ 60) && (l.all (fun o => decide (o.b.length ≤ 5000)) && decide (sumB l l.length ≤ 20000))
theorem light_len {l : List OpD} (h : lightO l = true) : l.length ≤ 60 := by
  simp only [lightO, Bool.and_eq_true, decide_eq_true_eq] at h
  exact h.1
theorem light_each {l : List OpD} (h : lightO l = true) : ∀ o ∈ l, o.b.length ≤ 5000 := by
  simp only [lightO, Bool.and_eq_true, decide_eq_true_eq, List.all_eq_true] at h
  exact h.2.1
theorem light_no {l : List OpD} {k : Nat} (hk : k < l.length) (h : 5000 < l[k].b.length) : lightO l = false := by
  cases hl : lightO l
  · rfl
  · have := light_each hl l[k] (List.getElem_mem hk)
    omega
theorem light_end {l : List OpD} (h1 : l.length ≤ 60) (h : ∀ j (hj : j < l.length), l[j].b.length ≤ 5000) : lightO l = decide (sumB l l.length ≤ 20000) := by
  have e : l.all (fun o => decide (o.b.length ≤ 5000)) = true := by
    rw [List.all_eq_true]
    intro o ho
    obtain ⟨j, hj, rfl⟩ := List.getElem_of_mem ho
    simpa using h j hj
  simp [lightO, h1, e]
set_option maxRecDepth 100000 in
set_option maxHeartbeats 1000000 in
theorem light_any (A : Option Addr) (n c : Nat) (l : List OpD) (w : World) (h : OpRow w A n c l) : Calls Try.prog 19 #[.slice A n c] w (fun e w' => e = .returned (.bool (lightO l)) ∧ w = w') := by
  have hn := h.len
  have hcm := Nat.le_trans h.cap h.max
  have H := hid_ h
  clear h
  by_cases hbig : 60 < n
  · have e1 : decide ((n : Int) > 60) = true := decide_eq_true (by omega)
    have e2 : decide ((60 : Int) < (n : Int)) = true := decide_eq_true (by omega)
    have HL := hid_ (show lightO l = false by unfold lightO; rw [decide_eq_false (by omega)]; rfl)
    clear hn
    go_enter Try.func19, Try.ntmps19
    go_wp2
    go_ret
    exact ⟨by rw [HL.out]; rfl, rfl⟩
  · have e1 : decide ((n : Int) > 60) = false := decide_eq_false (by omega)
    have e2 : decide ((60 : Int) < (n : Int)) = false := decide_eq_false (by omega)
    have Hn := hid_ hn
    clear hn
    go_enter Try.func19, Try.ntmps19
    go_wp2
    go_loop [3, 4] (fun s i => ∃ (k z : Nat), k ≤ n ∧ i = .int .i64 (k : Nat) ∧ s = .int .i64 (z : Nat) ∧ z ≤ 300000 ∧ Hid (z = sumB l k) ∧ Hid (z ≤ 5000 * k) ∧ Hid (∀ j (hj : j < l.length), j < k → l[j].b.length ≤ 5000)) (fun _ i => n - (intOf i).toNat)
    case atStart => exact ⟨0, 0, Nat.zero_le _, rfl, rfl, by omega, hid_ (sumB_zero l).symm, hid_ (Nat.zero_le _), hid_ (fun j hj h => absurd h (Nat.not_lt_zero _))⟩
    case round =>
      obtain ⟨k, z, hk, rfl, rfl, hz, HZ, HZ2, HA⟩ := hrel
      by_cases hlt : k < n
      · have hkl : k < l.length := by have := Hn.out; omega
        have Hkl := hid_ hkl
        obtain ⟨g, off, Ab, cb, Ak, ck, rfl, ho⟩ := H.out.at_ hkl
        have c3 := ho.c3
        have Hstep := hid_ (sumB_succ l k hkl)
        have Hno := hid_ (fun h => light_no hkl h)
        generalize hm : l[k].b.length = m at *
        have Hm := hid_ hm
        clear ho hm hkl
        by_cases hm5 : 5000 < m
        · have e3 : decide ((m : Int) > 5000) = true := decide_eq_true (by omega)
          have e4 : decide ((5000 : Int) < (m : Int)) = true := decide_eq_true (by omega)
          have HL := hid_ (Hno.out hm5)
          go_wp2
          go_ret
          exact ⟨by rw [HL.out]; rfl, rfl⟩
        · have e3 : decide ((m : Int) > 5000) = false := decide_eq_false (by omega)
          have e4 : decide ((5000 : Int) < (m : Int)) = false := decide_eq_false (by omega)
          go_wp2
          go_round
          case rel =>
            refine ⟨k + 1, z + m, by omega, by go_num, by go_num, by have := HZ2.out; omega, hid_ (by rw [Hstep.out, HZ.out]), hid_ (by have := HZ2.out; omega), hid_ (fun j hj h => ?_)⟩
            by_cases e : j = k
            · subst e; exact Nat.le_trans (Nat.le_of_eq Hm.out) (by omega)
            · exact HA.out j hj (by omega)
          case measure => simp [intOf]; omega
      · obtain rfl : k = n := by omega
        have HL := hid_ (show lightO l = decide (z ≤ 20000) by
          rw [light_end (by have := Hn.out; omega) (fun j hj => HA.out j hj (by have := Hn.out; omega)), HZ.out, Hn.out])
        by_cases hz2 : z ≤ 20000
        · have e5 : decide ((z : Int) ≤ 20000) = true := decide_eq_true (by omega)
          have HL2 := hid_ (show lightO l = true by rw [HL.out, decide_eq_true hz2])
          go_wp2
          go_ret
          exact ⟨by rw [HL2.out]; rfl, rfl⟩
        · have e5 : decide ((z : Int) ≤ 20000) = false := decide_eq_false (by omega)
          have HL2 := hid_ (show lightO l = false by rw [HL.out, decide_eq_false hz2])
          go_wp2
          go_ret
          exact ⟨by rw [HL2.out]; rfl, rfl⟩
end Dsk
end Go.Proofs.Ytalekhafkgepnaa

/-
  What is fast stays: plain mathematics.
-/
namespace Go.Proofs.Ytalekhafkgepnaa
set_option linter.unusedSimpArgs false
set_option linter.unusedVariables false
namespace Dsk
set_option linter.unusedSimpArgs false
set_option linter.unusedVariables false
/-- File 3 begins with b, and that much of it is fast. -/
def FastInv (b : List UInt8) (F : Files) : Prop := ∃ f, F 3 = some f ∧ b.length ≤ f.fast ∧ f.all.take b.length = b
theorem fast_lay {b : List UInt8} {d : DiskD} (hd : DOk d) (h : FastInv b d.F) (j : Nat) (x : List UInt8) : FastInv b (layF d.F j x) := by
  obtain ⟨f, h1, h2, h3⟩ := h
  by_cases e : j = 3
  · subst e
    refine ⟨_, setF_same _ _ _, ?_, ?_⟩
    · rw [fileAt_some h1]; exact h2
    · rw [fileAt_some h1]
      have := hd.fast 3 f h1
      show (f.all ++ x).take b.length = b
      rw [List.take_append_of_le_length (by omega)]
      exact h3
  · exact ⟨f, by rw [layF, setF_other _ _ (fun e2 => e e2.symm)]; exact h1, h2, h3⟩
theorem fast_app {b : List UInt8} {d : DiskD} (hd : DOk d) (h : FastInv b d.F) (file : Int) (x : List UInt8) : FastInv b (appD d file x).F := by
  unfold appD
  split
  · exact h
  split
  · exact h
  split
  · exact h
  · exact fast_lay hd h _ _
theorem fast_sync {b : List UInt8} {d : DiskD} (hd : DOk d) (h : FastInv b d.F) (file : Int) : FastInv b (syncD d file).F := by
  unfold syncD
  split
  · obtain ⟨f, h1, h2, h3⟩ := h
    by_cases e : file.toNat = 3
    · show FastInv b (syncF d.F file.toNat)
      rw [e]
      refine ⟨_, setF_same _ _ _, ?_, ?_⟩
      · rw [fileAt_some h1]
        have := hd.fast 3 f h1
        show b.length ≤ f.all.length
        omega
      · rw [fileAt_some h1]; exact h3
    · exact ⟨f, by show syncF d.F file.toNat 3 = some f; rw [syncF, setF_other _ _ (fun e2 => e e2.symm)]; exact h1, h2, h3⟩
  · exact h
theorem fast_remove {b : List UInt8} {d : DiskD} (h : FastInv b d.F) (file : Int) (hf : file ≠ 3) : FastInv b (removeD d file).F := by
  unfold removeD
  split
  · rename_i hk
    obtain ⟨f, h1, h2, h3⟩ := h
    have h0 : 0 ≤ file := by
      unfold askK at hk
      split at hk
      · cases hk
      · split at hk
        · rename_i hc; exact hc.1
        · cases hk
    exact ⟨f, by show setF d.F file.toNat none 3 = some f; rw [setF_other _ _ (by omega)]; exact h1, h2, h3⟩
  · exact h
theorem fast_crash {b : List UInt8} {d : DiskD} (hd : DOk d) (h : FastInv b d.F) (keep : List Int) : FastInv b (crashD d keep).F := by
  obtain ⟨f, h1, h2, h3⟩ := h
  refine ⟨_, crashF_at (by omega) h1, ?_, ?_⟩
  · show b.length ≤ f.fast + _
    omega
  · show (f.all.take _).take b.length = b
    rw [List.take_take, Nat.min_eq_left (by omega)]
    exact h3
theorem fast_read {b : List UInt8} {d : DiskD} (hd : DOk d) (hu : d.down = false) (h : FastInv b d.F) : askK d 3 = 0 ∧ b.length ≤ (readB d 3).length ∧ (readB d 3).take b.length = b := by
  obtain ⟨f, h1, h2, h3⟩ := h
  have hk : askK d 3 = 0 := by
    unfold askK
    rw [hu]
    simp only [Bool.false_eq_true, if_false]
    rw [if_pos ⟨by omega, by show (d.F 3).isSome = true; rw [h1]; rfl⟩]
  have hr : readB d 3 = f.all := by
    unfold readB
    rw [if_pos hk]
    show (fileAt d.F 3).all = f.all
    rw [fileAt_some h1]
  have := hd.fast 3 f h1
  rw [hr]
  exact ⟨hk, by omega, h3⟩
theorem fast_start (b : List UInt8) (hb : b.length ≤ 1000) : appK (newD 100000) 3 b.length = 0 ∧ askK (appD (newD 100000) 3 b) 3 = 0 ∧ FastInv b (syncD (appD (newD 100000) 3 b) 3).F := by
  have e1 : takeN (newD 100000) b.length = b.length := rfl
  have e2 : usedF (newD 100000).F = 0 := used_noF
  have hK : appK (newD 100000) 3 b.length = 0 := by
    unfold appK
    rw [e1, e2]
    rw [if_neg (by decide), if_neg (by decide), if_neg (by show ¬ 100000 < 0 + b.length; omega), if_neg (by omega)]
  have hD : appD (newD 100000) 3 b = appF (newD 100000) 3 b := by
    unfold appD
    rw [e2]
    rw [if_neg (by decide), if_neg (by decide), if_neg (by show ¬ 100000 < 0 + b.length; omega)]
    rfl
  have hF : (appF (newD 100000) 3 b).F 3 = some ⟨b, 0⟩ := by
    show layF noF 3 (b.take (takeN (newD 100000) b.length)) 3 = _
    rw [e1, List.take_length, layF, setF_same]
    rfl
  have hk : askK (appF (newD 100000) 3 b) 3 = 0 := by
    unfold askK
    have : (appF (newD 100000) 3 b).down = false := by
      show (if takeN (newD 100000) b.length < b.length then true else false) = false
      rw [e1, if_neg (by omega)]
    rw [this]
    simp only [Bool.false_eq_true, if_false]
    rw [if_pos ⟨by omega, by show ((appF (newD 100000) 3 b).F 3).isSome = true; rw [hF]; rfl⟩]
  rw [hD]
  refine ⟨hK, hk, ?_⟩
  unfold syncD
  rw [if_pos hk]
  show FastInv b (syncF (appF (newD 100000) 3 b).F 3)
  refine ⟨_, setF_same _ _ _, ?_, ?_⟩
  · show b.length ≤ (fileAt _ 3).all.length
    rw [show fileAt (appF (newD 100000) 3 b).F 3 = ⟨b, 0⟩ from fileAt_some hF]
    exact Nat.le_refl _
  · show (fileAt _ 3).all.take b.length = b
    rw [show fileAt (appF (newD 100000) 3 b).F 3 = ⟨b, 0⟩ from fileAt_some hF]
    exact List.take_length
end Dsk
end Go.Proofs.Ytalekhafkgepnaa

/-
  The laws' comparison of two slices of bytes that read alike.
-/
namespace Go.Proofs.Ytalekhafkgepnaa
set_option linter.unusedSimpArgs false
set_option linter.unusedVariables false
open Go.RowKit
namespace Dsk
set_option linter.unusedSimpArgs false
set_option linter.unusedVariables false

set_option maxHeartbeats 400000 in
theorem same_true (A A' : Option Addr) (n c c' : Nat) (l : List UInt8) (w : World) (h1 : Sl w A n c l) (h2 : Sl w A' n c' l) :
    Calls Try.prog 70 #[.slice A n c, .slice A' n c'] w fun e w' => e = .returned (.bool true) ∧ ∃ k, w' = w.drewN k := by
  have hle := h1.le
  have hb0 : ((n : Int) != (n : Int)) = false := by simp
  go_enter Try.func70, Try.ntmps70
  go_wp2
  go_loopw [5] (fun i wr => ∃ k q : Nat, k ≤ n ∧ i = .int .i64 k ∧ wr = w.drewN q) (fun i _ => n - (intOf i).toNat)
  case atStart => exact ⟨0, 0, by omega, rfl, rfl⟩
  case round =>
    obtain ⟨k, q, hk, rfl, rfl⟩ := hrel
    by_cases hlt : k < n
    · have hkl : k < l.length := by rw [h1.len]; exact hlt
      obtain ⟨b, off, rfl, hc1⟩ := h1.holds.at_ hkl
      obtain ⟨b', off', rfl, hc2⟩ := h2.holds.at_ hkl
      have hb : ((l[k].toNat : Int) != (l[k].toNat : Int)) = false := by simp
      go_wp2_with fail
      go_quiet (fail)
      go_wp2_with fail
      go_roundw
      case rel => exact ⟨k + 1, q + nq, by omega, by go_num, rfl⟩
      case measure => simp [intOf]; omega
    · obtain rfl : k = n := by omega
      go_wp2
      go_ret
      exact ⟨rfl, q, rfl⟩

/-- .. told by what is left as it was. -/
theorem same_below (A A' : Option Addr) (n c c' : Nat) (l : List UInt8) (w : World) (h1 : Sl w A n c l) (h2 : Sl w A' n c' l) :
    Calls Try.prog 70 #[.slice A n c, .slice A' n c'] w fun e w' => e = .returned (.bool true) ∧ Below w.heap.size w w' :=
  (same_true A A' n c c' l w h1 h2).mono fun e w' ⟨h, k, hw⟩ => ⟨h, by rw [hw]; exact below_drewN (Below.refl _ _) _⟩
end Dsk
end Go.Proofs.Ytalekhafkgepnaa

/-
  A law's disk and the operations that came in.
-/
namespace Go.Proofs.Ytalekhafkgepnaa
set_option linter.unusedSimpArgs false
set_option linter.unusedVariables false
open Go.RowKit
namespace Dsk
set_option linter.unusedSimpArgs false
set_option linter.unusedVariables false
theorem DkB.row_low {B : Nat} {w0 w : World} {g : Nat} {Q : Nat → Prop} {d : DiskD} (h : DkB B w0 w g Q d) {A : Option Addr} {n c : Nat} {vs : List Value} (hs : Row w0 A n c vs) (hB : w0.heap.size ≤ B) : ∀ a, A = some a → vs ≠ [] → ¬ Q a.block := by
  intro a e hne hq
  obtain ⟨b, off, e2, hc⟩ := hs.holds hne
  rw [e] at e2
  cases e2
  obtain ⟨x, t, rfl⟩ := List.exists_cons_of_ne_nil hne
  have h1 := lt_of_cell (hc 0 _ rfl)
  have h2 := h.own _ hq
  simp only at h1 h2
  omega
/-- A row of the law's own is written. -/
theorem DkB.grown {B : Nat} {w0 w w' : World} {g : Nat} {Q : Nat → Prop} {d : DiskD} {row : Option Nat} (h : DkB B w0 w g Q d) (hg : w.grownBy w' row) (hq : ∀ j, row = some j → ¬ Q j ∧ B ≤ j) : DkB B w0 w' g Q d := by
  refine ⟨h.dk.stands hg.size (fun q hq2 => hg.block q (h.dk.qlt q hq2) (fun e => (hq q e.symm).1 hq2)), ?_, h.own, h.base⟩
  have hb := h.below
  have hs := h.size
  exact ⟨hg.os.trans hb.os, hg.tape.trans hb.tape, hg.output.trans hb.output, Nat.le_trans hb.size hg.size, fun i hi => (hg.block i (by omega) (fun e => by have := (hq i e.symm).2; omega)).trans (hb.block i hi)⟩
/-- A row of the law's own, behind a call on a disk. -/
theorem own_tn {B : Nat} {w w' : World} {Q : Nat → Prop} {A : Option Addr} {n c : Nat} {l : List UInt8} (h : Own B w A n c l) (ht : Tn Q w w') (hq : ∀ j, blockOf A = some j → ¬ Q j) : Own B w' A n c l :=
  h.stands (fun k e => ht.block k (h.blk_lt k e) (hq k e))
theorem own_ge {B : Nat} {w : World} {A : Option Addr} {n c : Nat} {l : List UInt8} (h : Own B w A n c l) : ∀ j, blockOf A = some j → B ≤ j := fun j e => (World.ownsRow.lt h j (by rw [own_blockOf]; exact e)).1
theorem wf_int {n : Int} (h : (Lit.int .i64 n).wf = true) : -9223372036854775808 ≤ n ∧ n ≤ 9223372036854775807 := by
  simpa [Lit.wf, IntKind.min, IntKind.max, IntKind.bits, IntKind.signed] using h
theorem down_crash (d : DiskD) (keep : List Int) : (crashD d keep).down = false := rfl
end Dsk
end Go.Proofs.Ytalekhafkgepnaa
