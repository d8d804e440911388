/-
  DiskArmed: an armed disk takes of some parts (up to 40, of up to 1000 bytes each; else nothing is asked) just so many bytes, and then none till it has crashed; no condition on the input.
  The frame round the walk is written by the guide's own program for this statement.
-/
import Derived.Test.YtnhkoppfopgajaaZGDE
import Derived.Test.YtnhkoppfopgajaaZSls
import Derived.Test.YtnhkoppfopgajaaRows
import Derived.WalkKit
import Derived.ProofKit
import Derived.OpenShut
import Derived.ShutString
import Derived.ChangeOld
import Derived.Below
namespace Go.Proofs.Ytnhkoppfopgajaa.diskArmed
set_option linter.unusedSimpArgs false
set_option linter.unusedVariables false
open Go.ChangeShapes Go.WideShapes Go.ChangeAt Go.RowKit
open Go.ChangeMaps (open_string shut_string)
set_option linter.unusedVariables false

theorem own : ownKnob Try.prog.godebug = none := by kernel_rfl
theorem laidOut : laidOutB Try.prog = true := by kernel_rfl

/-- WHAT THE WALK IS TOLD OF A SLICE OF INTEGERS THAT CAME IN: it is nil; or it leads to a row of 'cap' cells, the numbers 'zs' (the first 'len' are its elements, the rest its spare room), each fitting its kind. -/
def IsRow (k : IntKind) (w : World) (a : Option Addr) (len cap : Nat) (zs : List Int) : Prop :=
  (a = none ∧ len = 0 ∧ cap = 0 ∧ zs = []) ∨
  ∃ x, a = some x ∧ len ≤ cap ∧ cap ≤ maxLen ∧ zs.length = cap ∧ (∀ i, i < zs.length → w.cell? (x.add i) = some (.int k (zs.getD i 0))) ∧ ∀ n ∈ zs, (Lit.int k n).wf = true

open Dsk
theorem at_file (w : World) (v : Value) (T : TypeId) : Row (w.alloc (.cells #[v] T)) (some ⟨w.heap.size, 0, none⟩) 1 1 [v] := OwnV.row (ownV_lit T w [v] #[v] rfl 1 rfl (by omega) 0 (Nat.zero_le _))
set_option maxRecDepth 100000 in
set_option maxHeartbeats 8000000 in
theorem walk (v0 : Value) (a1 : Int) (w : World) (w0 : SlsV w v0) (w1 : (Lit.int .i64 a1).wf = true) :
    Calls Try.prog 8 #[v0, .int .i64 a1] w fun e w' => e = .returned (.bool true) ∧ Below w.heap.size w w' := by
  obtain ⟨A, n0, c0, ps, rfl, hs0⟩ := w0
  obtain ⟨hat1, hat2⟩ := wf_int w1
  have H0 := hid_ hs0
  have Hlen := hid_ hs0.len
  have hle := hs0.le
  have hnc := hs0.cap
  have hcm := hs0.max
  clear hs0 w1
  by_cases hbig : 40 < n0
  · have e2 : decide ((n0 : Int) > (40 : Int)) = true := decide_eq_true (by omega)
    have e3 : decide ((40 : Int) < (n0 : Int)) = true := decide_eq_true (by omega)
    go_enter Try.func8, Try.ntmps8
    go_wp2_with fail
    refine Calls.mono (dalive_any _) ?_
    rintro e w' ⟨rfl, hb⟩
    go_wp2_with fail
    go_ret
    exact ⟨rfl, hb⟩
  have e2 : decide ((n0 : Int) > (40 : Int)) = false := decide_eq_false (by omega)
  have e3 : decide ((40 : Int) < (n0 : Int)) = false := decide_eq_false (by omega)
  by_cases hneg : a1 < 0
  · have e4 : decide (a1 < 0) = true := decide_eq_true hneg
    go_enter Try.func8, Try.ntmps8
    go_wp2_with fail
    refine Calls.mono (dalive_any _) ?_
    rintro e w' ⟨rfl, hb⟩
    go_wp2_with fail
    go_ret
    exact ⟨rfl, hb⟩
  have e4 : decide (a1 < 0) = false := decide_eq_false hneg
  obtain ⟨T, rfl⟩ := Int.eq_ofNat_of_zero_le (show 0 ≤ a1 by omega)
  have hT : T ≤ 9223372036854775807 := by omega
  go_enter Try.func8, Try.ntmps8
  go_wp2_with fail
  refine Calls.mono (new_any 1048576 (by omega) (by omega) w) ?_
  rintro e w2 ⟨rfl, hd, hb⟩
  have D2 := hid_ (show DkB w.heap.size w w2 w.heap.size _ (newD 1048576) from ⟨hd, hb, fun q hq => by omega, Nat.le_refl _⟩)
  clear hd hb
  go_wp2_with fail
  refine Calls.mono (arm_any (T : Nat) (by omega) _ _ _ _ D2.out.dk) ?_
  intro e w3 hp
  obtain ⟨rfl, ⟨Q3, d3, -⟩, -⟩ := D2.out.post hp
  have S0 := hid_ (show ∃ Q d want, DkB w.heap.size w w3 w.heap.size Q d ∧ ArmedInv T 0 0 want d ∧ Own w.heap.size w3 none 0 0 want ∧ ∀ j, blockOf none = some j → ¬ Q j from ⟨_, _, [], d3, armed_start T, Own.none _ _, fun j e => by cases e⟩)
  clear hp d3 D2
  go_wp2_with fail
  go_loopw [7, 8, 9] (fun vn vw vi wr => ∃ (k n : Nat) (Aw : Option Addr) (cw : Nat), k ≤ n0 ∧ vi = .int .i64 (k : Nat) ∧ vn = .int .i64 (n : Nat) ∧ vw = .slice Aw n cw ∧ n ≤ T ∧ Hid (∃ Q d want, DkB w.heap.size w wr w.heap.size Q d ∧ ArmedInv T k n want d ∧ Own w.heap.size wr Aw n cw want ∧ ∀ j, blockOf Aw = some j → ¬ Q j)) (fun _ _ vi _ => n0 - (intOf vi).toNat)
  case atStart => exact ⟨0, 0, none, 0, Nat.zero_le _, rfl, rfl, rfl, Nat.zero_le _, S0⟩
  case round =>
    obtain ⟨k, n, Aw, cw, hk, rfl, rfl, rfl, hnT, HS⟩ := hrel
    obtain ⟨Q, d, want, h1, h2, h3, h4⟩ := HS.out
    have D := hid_ h1
    have I := hid_ h2
    have O := hid_ h3
    have X := hid_ h4
    clear h1 h2 h3 h4 S0
    by_cases hlt : k < n0
    · have hlt2 : decide (k < n0) = true := decide_eq_true hlt
      have hkl : k < ps.length := by rw [Hlen.out]; exact hlt
      have H1 := hid_ (H0.out.below D.out.below)
      obtain ⟨b, off, A', m, c', rfl, hc1, hs1, -⟩ := H1.out.at_ hkl
      obtain ⟨b_, off_, A'_, m_, c'_, hbeq, hc0, hs00, -⟩ := H0.out.at_ hkl
      cases hbeq
      have hceq := hc1
      rw [D.out.below.cell (p := ⟨b, off + k, none⟩) (lt_of_cell hc0), hc0] at hceq
      cases hceq
      generalize ps[k] = p at *
      have hml : p.length = m := hs1.len
      have Hp := hid_ hs1
      have Hp0 := hid_ hs00
      have Hc0 := hid_ hc0
      clear hs1 hs00 hc0
      by_cases hm1 : 1000 < m
      · have e5 : decide ((m : Int) > (1000 : Int)) = true := decide_eq_true (by omega)
        have e6 : decide ((1000 : Int) < (m : Int)) = true := decide_eq_true (by omega)
        clear hml
        go_wp2_with fail
        refine Calls.mono (dalive_any _) ?_
        rintro e w' ⟨rfl, hb⟩
        have Hb := hid_ (D.out.below.trans (hb.mono D.out.size))
        clear hb
        go_wp2_with fail
        go_ret
        exact ⟨rfl, Hb.out⟩
      have e5 : decide ((m : Int) > (1000 : Int)) = false := decide_eq_false (by omega)
      have e6 : decide ((1000 : Int) < (m : Int)) = false := decide_eq_false (by omega)
      have Hml := hid_ hml
      clear hml
      have HAp := hid_ (append_any 0 A' m c' p _ _ _ _ D.out.dk Hp.out (D.out.apart_low Hp0.out (Nat.le_refl _)) (by omega))
      have hk40 : k < 40 := by omega
      have hn40 : n ≤ 40000 := by have := I.out.few; omega
      have hA'c := Hp.out.cap
      have hA'm := Hp.out.max
      by_cases hd : d.down = false
      · obtain ⟨r, hr⟩ : ∃ r, r = T - n := ⟨_, rfl⟩
        have hTn : (T : Int) - (n : Int) = (r : Nat) := by omega
        have hTn2 : IntKind.i64.wrap ((T : Int) - (n : Int)) = (r : Nat) := by rw [hTn]; exact IntWalk.i64_in _ (by omega)
        by_cases hf : m ≤ r
        · obtain ⟨f1, f2, f3⟩ := armed_fits I.out hk40 (p := p) (by rw [Hml.out]; omega) hd (by rw [Hml.out]; omega)
          rw [f1] at HAp
          rw [Hml.out] at f3
          have F2 := hid_ f2
          have F3 := hid_ f3
          have e7 : decide ((m : Int) ≤ (r : Int)) = true := decide_eq_true (by omega)
          have e8 : decide (m ≤ r) = true := decide_eq_true hf
          clear f1 f2 f3 hr hd
          go_wp2_with fail
          refine Calls.mono HAp.out ?_
          intro e w4 hp
          obtain ⟨rfl, ⟨Q4, d4, hq4⟩, ht4⟩ := D.out.post hp
          have D4 := hid_ d4
          have hc4 := (d4.below.cell (p := ⟨b, off + k, none⟩) (lt_of_cell Hc0.out)).trans Hc0.out
          have O4 := hid_ (own_tn O.out ht4 X.out)
          have X4 := hid_ (show ∀ j, blockOf Aw = some j → ¬ Q4 j from fun j e hq => by
            rcases hq4 j hq with h5 | h5
            · exact X.out j e h5
            · have := O.out.blk_lt j e; omega)
          have Hp4 := hid_ (Hp0.out.below d4.below)
          clear hp d4 hq4 ht4
          go_wp2_with fail
          refine Calls.mono (down_any _ _ _ _ D4.out.dk) ?_
          rintro e w5 ⟨rfl, rfl⟩
          rw [F2.out]
          go_wp2_with (first
            | (at_builtin; refine wpList_bytesG rfl (.tmp 80) (.tmp 84) rfl w.heap.size Aw n cw want rfl O4.out A' m c' p rfl Hp4.out (n + m) (want ++ p) rfl rfl (by omega) D4.out.size ?_; intro A6 c6 w6 ho hb hg hat; rw [own_blockOf] at hg hat; rw [own_blockOf] at hat; have O6 := hid_ ho; have G6 := hid_ hg; have Hat := hid_ hat; have D6 := hid_ (D4.out.grown hg (fun j e => ⟨X4.out j e, own_ge O4.out j e⟩)); clear ho hb hg hat)
            | fail)
          go_roundw
          case rel => exact ⟨k + 1, n + m, A6, c6, by omega, by go_num, by go_num, rfl, by omega, hid_ ⟨Q4, _, want ++ p, D6.out, F3.out, O6.out, fun j e => by
            rcases Hat.out with h | h
            · exact X4.out j (h ▸ e)
            · rw [e] at h; injection h with h; intro hq; have := D4.out.dk.qlt j hq; omega⟩⟩
          case measure => simp [intOf]; omega
        · obtain ⟨f1, f2, f3⟩ := armed_over I.out hk40 (p := p) (by rw [Hml.out]; omega) hd (by rw [Hml.out]; omega)
          rw [f1] at HAp
          rw [← hr] at f3
          have F2 := hid_ f2
          have F3 := hid_ f3
          have e7 : decide ((m : Int) ≤ (r : Int)) = false := decide_eq_false (by omega)
          have e8 : decide (m ≤ r) = false := decide_eq_false hf
          have hrn : n + r = T := by omega
          clear f1 f2 f3 hr hd
          by_cases hnl : n < T
          · have e9 : decide (n < T) = true := decide_eq_true hnl
            have y1 : (0 : Int) ≤ (r : Int) := by omega
            have y2 : (r : Int) ≤ (c' : Int) := by omega
            go_wp2_with fail
            refine Calls.mono HAp.out ?_
            intro e w4 hp
            obtain ⟨rfl, ⟨Q4, d4, hq4⟩, ht4⟩ := D.out.post hp
            have D4 := hid_ d4
            have hc4 := (d4.below.cell (p := ⟨b, off + k, none⟩) (lt_of_cell Hc0.out)).trans Hc0.out
            have O4 := hid_ (own_tn O.out ht4 X.out)
            have X4 := hid_ (show ∀ j, blockOf Aw = some j → ¬ Q4 j from fun j e hq => by
              rcases hq4 j hq with h5 | h5
              · exact X.out j e h5
              · have := O.out.blk_lt j e; omega)
            have Hp4 := hid_ ((Hp0.out.below d4.below).upto r (by omega))
            clear hp d4 hq4 ht4
            go_wp2_with (first
              | (at_builtin; refine wpList_bytesG rfl (.tmp 95) (.tmp 103) rfl w.heap.size Aw n cw want rfl O4.out A' r c' (p.take r) rfl Hp4.out T (want ++ p.take r) hrn rfl (by have := I.out.few; omega) D4.out.size ?_; intro A6 c6 w6 ho hb hg hat; rw [own_blockOf] at hg hat; rw [own_blockOf] at hat; have O6 := hid_ ho; have G6 := hid_ hg; have Hat := hid_ hat; have D6 := hid_ (D4.out.grown hg (fun j e => ⟨X4.out j e, own_ge O4.out j e⟩)); clear ho hb hg hat)
              | (go_at_call 36; (with_reducible refine Calls.mono (down_any _ _ _ _ D6.out.dk) ?_); rintro e w7 ⟨rfl, rfl⟩; rw [F2.out])
              | fail)
            go_roundw
            case rel => exact ⟨k + 1, T, A6, c6, by omega, by go_num, rfl, rfl, Nat.le_refl _, hid_ ⟨Q4, _, want ++ p.take r, D6.out, F3.out, O6.out, fun j e => by
              rcases Hat.out with h | h
              · exact X4.out j (h ▸ e)
              · rw [e] at h; injection h with h; intro hq; have := D4.out.dk.qlt j hq; omega⟩⟩
            case measure => simp [intOf]; omega
          · obtain rfl : n = T := by omega
            have e9 : decide (n < n) = false := decide_eq_false (by omega)
            obtain rfl : r = 0 := by omega
            rw [List.take_zero, List.append_nil] at F3
            go_wp2_with fail
            refine Calls.mono HAp.out ?_
            intro e w4 hp
            obtain ⟨rfl, ⟨Q4, d4, hq4⟩, ht4⟩ := D.out.post hp
            have D4 := hid_ d4
            have hc4 := (d4.below.cell (p := ⟨b, off + k, none⟩) (lt_of_cell Hc0.out)).trans Hc0.out
            have O4 := hid_ (own_tn O.out ht4 X.out)
            have X4 := hid_ (show ∀ j, blockOf Aw = some j → ¬ Q4 j from fun j e hq => by
              rcases hq4 j hq with h5 | h5
              · exact X.out j e h5
              · have := O.out.blk_lt j e; omega)
            clear hp d4 hq4 ht4
            go_wp2_with fail
            refine Calls.mono (down_any _ _ _ _ D4.out.dk) ?_
            rintro e w5 ⟨rfl, rfl⟩
            rw [F2.out]
            go_wp2_with fail
            go_roundw
            case rel => exact ⟨k + 1, n, Aw, cw, by omega, by go_num, rfl, rfl, Nat.le_refl _, hid_ ⟨Q4, _, want, D4.out, F3.out, O4.out, X4.out⟩⟩
            case measure => simp [intOf]; omega
      · have hd' : d.down = true := by
          cases h : d.down
          · exact absurd h hd
          · rfl
        obtain ⟨f1, f2, f3, f4⟩ := armed_down I.out p hd'
        rw [f1, f2] at HAp
        have Hd := hid_ hd'
        have F4 := hid_ f4
        clear f1 f2 f4 hd hd'
        subst f3
        have e9 : decide (n < n) = false := decide_eq_false (by omega)
        have hTn : (n : Int) - (n : Int) = 0 := by omega
        by_cases hm0 : m = 0
        · subst hm0
          go_wp2_with fail
          refine Calls.mono HAp.out ?_
          intro e w4 hp
          obtain ⟨rfl, ⟨Q4, d4, hq4⟩, ht4⟩ := D.out.post hp
          have D4 := hid_ d4
          have hc4 := (d4.below.cell (p := ⟨b, off + k, none⟩) (lt_of_cell Hc0.out)).trans Hc0.out
          have O4 := hid_ (own_tn O.out ht4 X.out)
          have X4 := hid_ (show ∀ j, blockOf Aw = some j → ¬ Q4 j from fun j e hq => by
            rcases hq4 j hq with h5 | h5
            · exact X.out j e h5
            · have := O.out.blk_lt j e; omega)
          clear hp d4 hq4 ht4
          go_wp2_with fail
          refine Calls.mono (down_any _ _ _ _ D4.out.dk) ?_
          rintro e w5 ⟨rfl, rfl⟩
          rw [Hd.out]
          go_wp2_with fail
          refine Calls.mono (down_any _ _ _ _ D4.out.dk) ?_
          rintro e w5 ⟨rfl, rfl⟩
          rw [Hd.out]
          go_wp2_with fail
          go_roundw
          case rel => exact ⟨k + 1, n, Aw, cw, by omega, by go_num, rfl, rfl, Nat.le_refl _, hid_ ⟨Q4, _, want, D4.out, F4.out, O4.out, X4.out⟩⟩
          case measure => simp [intOf]; omega
        · have e7 : decide ((m : Int) ≤ 0) = false := decide_eq_false (by omega)
          have e8 : decide (m ≤ 0) = false := decide_eq_false (by omega)
          go_wp2_with fail
          refine Calls.mono HAp.out ?_
          intro e w4 hp
          obtain ⟨rfl, ⟨Q4, d4, hq4⟩, ht4⟩ := D.out.post hp
          have D4 := hid_ d4
          have hc4 := (d4.below.cell (p := ⟨b, off + k, none⟩) (lt_of_cell Hc0.out)).trans Hc0.out
          have O4 := hid_ (own_tn O.out ht4 X.out)
          have X4 := hid_ (show ∀ j, blockOf Aw = some j → ¬ Q4 j from fun j e hq => by
            rcases hq4 j hq with h5 | h5
            · exact X.out j e h5
            · have := O.out.blk_lt j e; omega)
          clear hp d4 hq4 ht4
          go_wp2_with fail
          refine Calls.mono (down_any _ _ _ _ D4.out.dk) ?_
          rintro e w5 ⟨rfl, rfl⟩
          rw [Hd.out]
          go_wp2_with fail
          go_roundw
          case rel => exact ⟨k + 1, n, Aw, cw, by omega, by go_num, rfl, rfl, Nat.le_refl _, hid_ ⟨Q4, _, want, D4.out, F4.out, O4.out, X4.out⟩⟩
          case measure => simp [intOf]; omega
    · obtain rfl : k = n0 := by omega
      have hltf : decide (k < k) = false := decide_eq_false (by omega)
      go_wp2_with fail
      refine Calls.mono (crash_any (some ⟨wr.heap.size, 0, none⟩) 1 1 [1048576] _ _ _ _ (D.out.alloc _).dk (at_file wr _ 3) (fun a e _ => D.out.dk.apart_new (Nat.le_refl _) a e)) ?_
      intro e w4 hp
      obtain ⟨rfl, ⟨Q4, d4, hq4⟩, ht4⟩ := (D.out.alloc _).post hp
      have D4 := hid_ d4
      have O4 := hid_ (own_tn (O.out.alloc (.cells #[.int .i64 1048576] 3)) ht4 X.out)
      clear hp d4 hq4 ht4
      by_cases hk0 : k = 0
      · subst hk0
        obtain ⟨f1, f2⟩ := armed_empty I.out
        have HRd := hid_ (read_any 0 (by omega) (by omega) _ _ _ _ D4.out.dk)
        rw [f1, f2] at HRd
        clear f1 f2
        go_wp2_with fail
        refine Calls.mono HRd.out ?_
        rintro e w5 ⟨A5, c5, rfl, -, hb5⟩
        have Hb5 := hid_ (D4.out.below.trans (hb5.mono D4.out.size))
        clear hb5
        go_wp2_with fail
        refine Calls.mono (dalive_any _) ?_
        rintro e w6 ⟨rfl, hb6⟩
        have Hb6 := hid_ (Hb5.out.trans (hb6.mono Hb5.out.size))
        clear hb6
        go_wp2_with fail
        go_ret
        exact ⟨rfl, Hb6.out⟩
      · have ek : ((k : Int) == 0) = false := beq_eq_false_iff_ne.2 (by omega)
        obtain ⟨f1, f2⟩ := armed_end I.out (by omega) (by omega)
        have HRd := hid_ (read_any 0 (by omega) (by omega) _ _ _ _ D4.out.dk)
        rw [f1, f2] at HRd
        have hwl := I.out.len
        have Hwl := hid_ hwl
        clear f1 f2 hwl
        go_wp2_with fail
        refine Calls.mono HRd.out ?_
        rintro e w5 ⟨A5, c5, rfl, ho5, hb5⟩
        have Hb5 := hid_ (D4.out.below.trans (hb5.mono D4.out.size))
        have S5 := hid_ ho5.sl
        have W5 := hid_ (O4.out.sl.below hb5)
        clear hb5 ho5
        rw [Hwl.out] at S5 ⊢
        go_wp2_with fail
        refine Calls.mono (same_below A5 Aw n c5 cw want w5 S5.out W5.out) ?_
        rintro e w6 ⟨rfl, hb6⟩
        have Hb6 := hid_ (Hb5.out.trans (hb6.mono Hb5.out.size))
        clear hb6
        go_wp2_with fail
        refine Calls.mono (dalive_any _) ?_
        rintro e w7 ⟨rfl, hb7⟩
        have Hb7 := hid_ (Hb6.out.trans (hb7.mono Hb6.out.size))
        clear hb7
        go_wp2_with fail
        go_ret
        exact ⟨rfl, Hb7.out⟩

set_option maxRecDepth 100000 in
theorem lifted (os : Os) (started : os.Started) (H : Type) (enc : TypeId × Value → H) :
    ReturnsInHanded {} Try.checked os 8 .any (Rows.diskArmedSpec.pre6 enc Try.prog Try.f8 Rows.diskArmedRow.domain false) (Rows.diskArmedSpec.post enc Try.prog Try.f8 false true false false) := by
  refine returnsInHanded_of_change (C := Try.checked) own started (by kernel_rfl) Try.func8
    (ChangeSpec.witness6 (enc := enc) (C := Try.checked) false ⟨#[], #[.slice none 0 0, .int .i64 0], []⟩ 8 (by kernel_rfl) (by kernel_rfl) (by kernel_rfl) (by kernel_rfl)) ?_
  intro W base args ds gs before hval0 hW hcnd _
  have hval : ∀ (j : Nat) t v, Try.f8.params[j]? = some t → args[j]? = some v → Value.okWide Try.prog W .any base t v := hval0
  have hW' := hW
  obtain ⟨p, q, hA0, hV, rfl, hfz, hnd⟩ := hW
  have hA : DataW.TrodAll enc Try.prog W 0 (fun _ => true) true Try.f8.params.toList args.toList ds p := hA0
  rw [Try.params8] at hA hval
  obtain ⟨v0, vs0, d0, ds0, p0, q0, hargs, rfl, rfl, h0, r0⟩ := trodAll_cons hA
  obtain ⟨v1, vs1, d1, ds1, p1, q1, rfl, rfl, rfl, h1, r1⟩ := trodAll_cons r0
  obtain ⟨rfl, rfl, rfl⟩ := trodAll_nil r1
  obtain rfl : args = #[v0, v1] := by cases args; simp_all
  obtain ⟨rfl, rfl⟩ := trodVars_none hV
  have k0 := h0
  have lt0 : ∀ x ∈ p0, x.block < W.heap.size := by obtain ⟨m, hm⟩ := k0; exact DataW.trod_lt m _ _ _ hm
  have w0 : SlsV W v0 := open_slsV (hval 0 92 v0 rfl rfl) h0
  obtain ⟨a1, rfl, rfl, rfl, w1⟩ := open_int Try.underlying3 (hval 1 3 v1 rfl rfl) h1
  clear hA0 hval0
  refine (walk v0 a1 W w0 w1).mono fun e W' ⟨he, bel⟩ => ?_
  subst he
  exact ⟨_, rfl, _, _, _, [], _, [], hW', trodAll_mk1 (shut_bool Try.underlying4 _), (trodAll_cons_mk (Below.trod laidOut (by kernel_rfl) (of_decide_eq_true (by kernel_rfl)) k0 bel lt0) (trodAll_cons_mk (shut_int Try.underlying3 w1) trodAll_mk0)), rfl, bel.frame _, fun h => by cases h⟩

theorem over : Rows.diskArmedRow.holds Try.pinned (OpenSpec.ofChange Rows.diskArmedSpec) :=
  OpenClaim.holds_of_wide 8 Try.f8 rfl rfl rfl rfl rfl rfl rfl ⟨rfl, rfl, rfl, rfl, rfl⟩ rfl rfl rfl rfl rfl (by kernel_rfl) Try.func8 (by kernel_rfl)
    (of_decide_eq_true (by kernel_rfl)) (by unfold Func.isWrapper; first | (rw [if_pos (by decide +kernel)]; kernel_rfl) | (rw [if_neg (by decide +kernel)]; exact ⟨rfl, rfl⟩))
    (fun os started H enc _ => lifted os started H enc)

theorem proved : Rows.DiskArmedSaid := over
#print axioms proved
end Go.Proofs.Ytnhkoppfopgajaa.diskArmed
