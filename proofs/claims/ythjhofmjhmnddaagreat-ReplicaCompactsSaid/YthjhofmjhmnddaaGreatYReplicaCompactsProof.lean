/-
  ReplicaCompacts: of any packets (at most 60, each of them light) that a replica handles, a log that is laid anew has a record of each register, and the same registers, also opened again, or says that it is full and leaves the registers; no condition on the input.
  The frame round the walk is written by the guide's own program for this statement.
-/
import Derived.Test.YthjhofmjhmnddaaGreatYGBE
import Derived.Test.YthjhofmjhmnddaaGreatYGDH
import Derived.Test.YthjhofmjhmnddaaGreatRows
import Derived.WalkKit
import Derived.ProofKit
import Derived.OpenShut
import Derived.ShutString
import Derived.ChangeOld
import Derived.Below
namespace Go.Proofs.YthjhofmjhmnddaaGreat.replicaCompacts
set_option linter.unusedSimpArgs false
set_option linter.unusedVariables false
open Go.ChangeShapes Go.WideShapes Go.ChangeAt Go.RowKit
open Go.ChangeMaps (open_string shut_string)
set_option linter.unusedVariables false

theorem own : ownKnob Tryz.prog.godebug = none := by kernel_rfl
theorem laidOut : laidOutB Tryz.prog = true := by kernel_rfl

/-- WHAT THE WALK IS TOLD OF A SLICE OF INTEGERS THAT CAME IN: it is nil; or it leads to a row of 'cap' cells, the numbers 'zs' (the first 'len' are its elements, the rest its spare room), each fitting its kind. -/
def IsRow (k : IntKind) (w : World) (a : Option Addr) (len cap : Nat) (zs : List Int) : Prop :=
  (a = none ∧ len = 0 ∧ cap = 0 ∧ zs = []) ∨
  ∃ x, a = some x ∧ len ≤ cap ∧ cap ≤ maxLen ∧ zs.length = cap ∧ (∀ i, i < zs.length → w.cell? (x.add i) = some (.int k (zs.getD i 0))) ∧ ∀ n ∈ zs, (Lit.int k n).wf = true

open Fm Dsk Wl Re Rg Bl Vw Rp
set_option maxRecDepth 100000 in
set_option maxHeartbeats 16000000 in
theorem walk (v0 : Value) (w : World) (w0 : PksV w v0) :
    Calls Tryz.prog 6 #[v0] w fun e w' => e = .returned (.bool true) ∧ Below w.heap.size w w' := by
  obtain ⟨A1, n1, c1, l, rfl, hrow, hwf⟩ := w0
  have HRow := hid_ hrow
  have HWf := hid_ hwf
  have HAl := hid_ (fun (W : World) => ralive_any W)
  have hcap := hrow.cap
  have hmax := hrow.max
  have hlen0 := hrow.len
  clear hwf hrow
  by_cases h60 : 60 < n1
  · have e0 : decide ((60 : Int) < (n1 : Int)) = true := decide_eq_true (by omega)
    have e1 : decide (60 < n1) = true := decide_eq_true h60
    go_enter Tryz.func6, Tryz.ntmps6
    go_wp2_with fail
    (with_reducible refine Calls.mono (HAl.out _) ?_)
    rintro e w' ⟨rfl, hbel⟩
    go_wp2_with fail
    go_ret
    exact ⟨rfl, hbel⟩
  have e0 : decide ((60 : Int) < (n1 : Int)) = false := decide_eq_false (by omega)
  have e1 : decide (60 < n1) = false := decide_eq_false h60
  have hn60 : n1 ≤ 60 := by omega
  have HLen := hid_ hlen0
  have HNw := hid_ (new_any 1048576 (by decide) (by decide) w)
  rw [show ((1048576 : Nat) : Int) = 1048576 from rfl] at HNw
  clear hlen0 h60
  go_enter Tryz.func6, Tryz.ntmps6
  go_wp2_with fail
  (with_reducible refine Calls.mono HNw.out ?_)
  rintro e w1 ⟨rfl, hd, hb1⟩
  have HDk := hid_ (show DkB w.heap.size w w1 w.heap.size (fun q => q = w.heap.size) (newD 1048576) from ⟨hd, hb1, fun q hq => by omega, Nat.le_refl _⟩)
  have HOp := hid_ (fresh_open HDk.out (most := 64) (by decide) (by decide) (fun _ => False) (fun q h => h.elim))
  clear hd hb1 e0 e1 HNw
  generalize hgd : w.heap.size = gd at HOp HDk ⊢
  have HGd := hid_ hgd
  clear hgd
  go_wp2_with fail
  (with_reducible refine Calls.mono HOp.out ?_)
  rintro e w2 ⟨gr, X, E, d, rfl, hu, ha, -, -, -, -⟩
  have HU := hid_ hu
  have HA := hid_ ha
  clear hu ha HOp HDk
  go_wp2_with fail
  go_loopw [7] (fun vi wr => ∃ (i : Nat) (X : Nat → Prop) (E : Nat → Prop) (d : DiskD) (L : List FS) (R : List OneD) (N : Nat), i ≤ n1 ∧ vi = .int .i64 (i : Nat) ∧ Hid (RpU w wr gr gd X E d 64 L R N) ∧ Hid (d.armed = false ∧ N ≤ 2 * i)) (fun vi _ => n1 - (intOf vi).toNat)
  case atStart => exact ⟨0, X, E, d, [], [], 0, Nat.zero_le _, rfl, HU, hid_ ⟨HA.out, Nat.le_refl _⟩⟩
  case round =>
    clear HU HA
    obtain ⟨i, X, E, d, L, R, N, hi, rfl, HU, HF⟩ := hrel
    have x5 : (n1 : Int) ≤ 60 := by omega
    have HB := hid_ HU.out.below
    by_cases hlt : i < n1
    · have hiL : i < l.length := by rw [HLen.out]; exact hlt
      obtain ⟨g, off, cs, hA, ⟨s, rfl, hp⟩, hcell⟩ := HRow.out.at_ hiL
      have hwf := HWf.out _ (List.getElem_mem hiL)
      subst hA
      have HPk := hid_ (And.intro hp hwf)
      have hc := fun (W : World) (hb : Below w.heap.size w W) (j : Nat) (u : Value) (hj : (packCells l[i] s).toList[j]? = some u) => (hb.cell (p := ⟨g, off + i * 11 + j, none⟩) (lt_of_cell (hcell j u hj))).trans (hcell j u hj)
      generalize l[i] = p at *
      have HC := hid_ hc
      have HLp := hid_ (mslight_any p s wr (HPk.out.1.below HB.out) HPk.out.2.1)
      have x1 : (i : Int) < (n1 : Int) := by omega
      have x2 : (0 : Int) ≤ (i : Int) := by omega
      have HK := hid_ hlt
      clear hlt hiL hp hwf hc hcell
      have x_0 : wr.cell? ⟨g, off + i * 11, none⟩ = some (.int .i64 p.kind) := HC.out wr HB.out 0 _ rfl
      have x_1 : wr.cell? ⟨g, off + i * 11 + 1, none⟩ = some (.int .u64 (p.trace : Nat)) := HC.out wr HB.out 1 _ rfl
      have x_2 : wr.cell? ⟨g, off + i * 11 + 2, none⟩ = some (.int .u64 (p.bn : Nat)) := HC.out wr HB.out 2 _ rfl
      have x_3 : wr.cell? ⟨g, off + i * 11 + 3, none⟩ = some (.int .u64 (p.bnode : Nat)) := HC.out wr HB.out 3 _ rfl
      have x_4 : wr.cell? ⟨g, off + i * 11 + 4, none⟩ = some (.int .u64 (p.sn : Nat)) := HC.out wr HB.out 4 _ rfl
      have x_5 : wr.cell? ⟨g, off + i * 11 + 5, none⟩ = some (.int .u64 (p.snode : Nat)) := HC.out wr HB.out 5 _ rfl
      have x_6 : wr.cell? ⟨g, off + i * 11 + 6, none⟩ = some (.int .i64 p.v) := HC.out wr HB.out 6 _ rfl
      have x_7 : wr.cell? ⟨g, off + i * 11 + 7, none⟩ = some (.bool p.ok) := HC.out wr HB.out 7 _ rfl
      have x_8 : wr.cell? ⟨g, off + i * 11 + 8, none⟩ = some (.slice s.a1 p.spans.length s.c1) := HC.out wr HB.out 8 _ rfl
      have x_9 : wr.cell? ⟨g, off + i * 11 + 9, none⟩ = some (.slice s.a2 p.members.length s.c2) := HC.out wr HB.out 9 _ rfl
      have x_10 : wr.cell? ⟨g, off + i * 11 + 10, none⟩ = some (.slice s.a3 p.ids.length s.c3) := HC.out wr HB.out 10 _ rfl
      by_cases h0 : lightF p = false
      · rw [h0] at HLp
        go_wp2_with fail
        (with_reducible refine Calls.mono HLp.out ?_)
        rintro e w3 ⟨rfl, hb3⟩
        have HB3 := hid_ (HB.out.trans (hb3.mono HB.out.size))
        clear hb3
        go_wp2_with fail
        (with_reducible refine Calls.mono (HAl.out _) ?_)
        rintro e w' ⟨rfl, hbel⟩
        go_wp2_with fail
        go_ret
        exact ⟨rfl, HB3.out.trans (hbel.mono HB3.out.size)⟩
      rw [Bool.not_eq_false] at h0
      have HFp := hid_ (light_ok h0)
      rw [h0] at HLp
      clear h0
      go_wp2_with fail
      (with_reducible refine Calls.mono HLp.out ?_)
      rintro e w3 ⟨rfl, hb3⟩
      have HB3 := hid_ (HB.out.trans (hb3.mono HB.out.size))
      have HU3 := hid_ (HU.out.later hb3)
      have HHa := hid_ (HU3.out.handle p s (HPk.out.1.below HB3.out) HPk.out.2.1 HFp.out (by have := HF.out.2; have := HK.out; omega))
      clear hb3
      clear x_0 x_1 x_2 x_3 x_4 x_5 x_6 x_7 x_8 x_9 x_10
      have z_0 : w3.cell? ⟨g, off + i * 11, none⟩ = some (.int .i64 p.kind) := HC.out w3 HB3.out 0 _ rfl
      have z_1 : w3.cell? ⟨g, off + i * 11 + 1, none⟩ = some (.int .u64 (p.trace : Nat)) := HC.out w3 HB3.out 1 _ rfl
      have z_2 : w3.cell? ⟨g, off + i * 11 + 2, none⟩ = some (.int .u64 (p.bn : Nat)) := HC.out w3 HB3.out 2 _ rfl
      have z_3 : w3.cell? ⟨g, off + i * 11 + 3, none⟩ = some (.int .u64 (p.bnode : Nat)) := HC.out w3 HB3.out 3 _ rfl
      have z_4 : w3.cell? ⟨g, off + i * 11 + 4, none⟩ = some (.int .u64 (p.sn : Nat)) := HC.out w3 HB3.out 4 _ rfl
      have z_5 : w3.cell? ⟨g, off + i * 11 + 5, none⟩ = some (.int .u64 (p.snode : Nat)) := HC.out w3 HB3.out 5 _ rfl
      have z_6 : w3.cell? ⟨g, off + i * 11 + 6, none⟩ = some (.int .i64 p.v) := HC.out w3 HB3.out 6 _ rfl
      have z_7 : w3.cell? ⟨g, off + i * 11 + 7, none⟩ = some (.bool p.ok) := HC.out w3 HB3.out 7 _ rfl
      have z_8 : w3.cell? ⟨g, off + i * 11 + 8, none⟩ = some (.slice s.a1 p.spans.length s.c1) := HC.out w3 HB3.out 8 _ rfl
      have z_9 : w3.cell? ⟨g, off + i * 11 + 9, none⟩ = some (.slice s.a2 p.members.length s.c2) := HC.out w3 HB3.out 9 _ rfl
      have z_10 : w3.cell? ⟨g, off + i * 11 + 10, none⟩ = some (.slice s.a3 p.ids.length s.c3) := HC.out w3 HB3.out 10 _ rfl
      go_wp2_with fail
      (with_reducible refine Calls.mono HHa.out ?_)
      rintro e w4 ⟨k, qa, X4, E4, d4, L4, rfl, mv4, ro4, ar4, h104, hk4, hcase⟩
      obtain ⟨R4, hu4⟩ : ∃ R4, RpU w w4 gr gd X4 E4 d4 64 L4 R4 (N + 2) := by
        rcases hcase with ⟨-, -, -, -, h⟩ | ⟨-, -, -, h⟩ | ⟨-, -, -, h⟩ | ⟨h, -⟩
        · exact ⟨_, h⟩
        · exact ⟨_, h⟩
        · exact ⟨_, h⟩
        · exact absurd h (h104 HF.out.1)
      have HU4 := hid_ hu4
      have HA4 := hid_ (ar4.trans HF.out.1)
      clear hcase hk4 h104 mv4 hu4 z_0 z_1 z_2 z_3 z_4 z_5 z_6 z_7 z_8 z_9 z_10
      go_wp2_with fail
      go_roundw
      case rel => exact ⟨i + 1, X4, E4, d4, L4, R4, N + 2, by have := HK.out; omega, by go_num, HU4, hid_ ⟨HA4.out, by have := HF.out.2; omega⟩⟩
      case measure => have := HK.out; simp [intOf]; omega
    · obtain rfl : i = n1 := by omega
      have x1 : ¬ (i : Int) < (i : Int) := by omega
      have HAll := hid_ (HU.out.all (by have := HU.out.up.lenN; have := HF.out.2; unfold Ns.maxR; omega))
      clear hlt hi
      go_wp2_with fail
      (with_reducible refine Calls.mono HAll.out ?_)
      rintro e w3 ⟨A3, c3, rfl, hrow3, hpl3, hb3⟩
      have HU3 := hid_ (HU.out.later hb3)
      have HW3 := hid_ (And.intro hrow3 (show ∀ a, A3 = some a → R ≠ [] → ¬ E a.block from fun a ea hne hq => by have := hpl3 a ea hne; have := (HU.out.elt _ hq).1; omega))
      have HRc := hid_ HU3.out.records
      clear hrow3 hpl3 hb3
      go_wp2_with fail
      (with_reducible refine Calls.mono HRc.out ?_)
      rintro e w4 ⟨rfl, hb4⟩
      have HU4 := hid_ (HU3.out.later hb4)
      have HW4 := hid_ (And.intro (HW3.out.1.below hb4) HW3.out.2)
      have hRN := HU4.out.up.lenN
      have HRN := hid_ hRN
      have HCo := hid_ (HU4.out.compact (by have := HF.out.2; omega) (by have := HF.out.2; unfold Ns.maxR; omega))
      clear hb4 hRN
      go_wp2_with fail
      (with_reducible refine Calls.mono HCo.out ?_)
      rintro e w5 ⟨k, X5, E5, d5, L5, rfl, mv5, ro5, ar5, h105, hcase⟩
      have HW5 := hid_ (row_tn HW4.out.1 mv5.tn HW4.out.2)
      have HNe := hid_ (show ∀ a, A3 = some a → R ≠ [] → ¬ E5 a.block from fun a ea hne hq => by
        rcases mv5.e1 _ hq with h1 | h1
        · exact HW4.out.2 a ea hne h1
        · obtain ⟨b', off', e', hc'⟩ := HW4.out.1.holds (by intro e9; exact hne (List.eq_nil_of_length_eq_zero (by have := congrArg List.length e9; rw [oneE.all_length] at this; have h6 : R.length * 6 = 0 := this; omega)))
          rw [ea] at e'
          injection e' with e'
          have h9 := hc' 0 _ (List.getElem?_eq_getElem (by rw [oneE.all_length]; have := List.length_pos_iff.2 hne; simp [oneE]; omega))
          have h8 : b' < w4.heap.size := lt_of_cell h9
          have h7 : a.block < w4.heap.size := by rw [e']; exact h8
          omega)
      have HA5 := hid_ (ar5.trans HF.out.1)
      rcases hcase with ⟨rfl, hu5, hl1, hl2⟩ | ⟨rfl, hu5⟩ | ⟨rfl, -⟩
      · have HU5 := hid_ hu5
        have HLL := hid_ (And.intro hl1 hl2)
        have HAg := hid_ (hu5.again HA5.out (by decide) (by decide))
        clear hu5 hl1 hl2 h105 mv5 HCo
        go_wp2_with fail
        (with_reducible refine Calls.mono HAg.out ?_)
        rintro e w6 ⟨gs, X6, E6, d6, Xr, Er, rfl, hs6, hr6, -, ht6⟩
        have HS6 := hid_ hs6
        have HR6 := hid_ hr6
        have HW6 := hid_ (row_tn HW5.out ht6 HNe.out)
        have HAl6 := hid_ (hr6.all (by have := HRN.out; have := HF.out.2; unfold Ns.maxR; omega))
        clear hs6 hr6 ht6 HAg
        go_wp2_with fail
        (with_reducible refine Calls.mono HAl6.out ?_)
        rintro e w7 ⟨A7, c7, rfl, hrow7, -, hb7⟩
        have HSm7 := hid_ (onesame_any A7 A3 R.length R.length c7 c3 R R w7 hrow7 (HW6.out.below hb7))
        rw [sameOs_self] at HSm7
        have HR7 := hid_ (HR6.out.later hb7)
        have HS7 := hid_ (HS6.out.later hb7)
        have HW7 := hid_ (HW6.out.below hb7)
        clear hrow7 hb7
        go_wp2_with fail
        (with_reducible refine Calls.mono HSm7.out ?_)
        rintro e w8 ⟨rfl, hb8⟩
        have HR8 := hid_ (HR7.out.later hb8)
        have HS8 := hid_ (HS7.out.later hb8)
        have HW8 := hid_ (HW7.out.below hb8)
        have HAl8 := hid_ (HS8.out.all (by have := HRN.out; have := HF.out.2; unfold Ns.maxR; omega))
        clear hb8
        go_wp2_with fail
        (with_reducible refine Calls.mono HAl8.out ?_)
        rintro e w9 ⟨A9, c9, rfl, hrow9, -, hb9⟩
        have HSm9 := hid_ (onesame_any A9 A3 R.length R.length c9 c3 R R w9 hrow9 (HW8.out.below hb9))
        rw [sameOs_self] at HSm9
        have HR9 := hid_ (HR8.out.later hb9)
        have HS9 := hid_ (HS8.out.later hb9)
        clear hrow9 hb9
        go_wp2_with fail
        (with_reducible refine Calls.mono HSm9.out ?_)
        rintro e w10 ⟨rfl, hb10⟩
        have HR10 := hid_ (HR9.out.later hb10)
        have HS10 := hid_ (HS9.out.later hb10)
        have HRr := hid_ (fun (W : World) (hb : Below w10.heap.size w10 W) => (HR10.out.later hb).records)
        have HRs := hid_ (fun (W : World) (hb : Below w10.heap.size w10 W) => (HS10.out.later hb).records)
        have HB10 := hid_ HR10.out.below
        have q1 := HLL.out.1
        have q2 := HLL.out.2
        have hb5N := HR10.out.up.recs_len
        have hb4N := HU4.out.up.recs_len
        have HNN := HF.out.2
        have hRN := HRN.out
        generalize (recsL L5).length = m5 at *
        generalize (recsL L).length = m4 at *
        generalize R.length = m3 at *
        have y1 : (m3 : Int) ≤ (m5 : Int) := by omega
        have y2 : decide (m3 ≤ m5) = true := decide_eq_true q1
        have y3 : (m5 : Int) ≤ (m3 : Int) + (m4 : Int) := by omega
        have y5 : decide ((m5 : Int) ≤ (m3 : Int) + (m4 : Int)) = true := decide_eq_true y3
        have y6 : decide ((m3 : Int) ≤ (m5 : Int)) = true := decide_eq_true y1
        have y4 : IntKind.i64.wrap ((m3 : Int) + (m4 : Int)) = (m3 : Int) + (m4 : Int) := IntWalk.i64_in _ (by omega)
        have y7 : ((m5 : Int) == (m5 : Int)) = true := beq_self_eq_true _
        clear hb10
        go_wp2_with fail
        (with_reducible refine Calls.mono (HRr.out _ (Below.refl _ _)) ?_)
        rintro e w11 ⟨rfl, hb11⟩
        have HB11 := hid_ hb11
        clear hb11
        go_wp2_with fail
        (with_reducible refine Calls.mono (HRr.out _ HB11.out) ?_)
        rintro e w12 ⟨rfl, hb12⟩
        have HB12 := hid_ (HB11.out.trans (hb12.mono HB11.out.size))
        clear hb12
        go_wp2_with fail
        (with_reducible refine Calls.mono (HRs.out _ HB12.out) ?_)
        rintro e w13 ⟨rfl, hb13⟩
        have HB13 := hid_ (HB12.out.trans (hb13.mono HB12.out.size))
        clear hb13
        go_wp2_with fail
        (with_reducible refine Calls.mono (HRr.out _ HB13.out) ?_)
        rintro e w14 ⟨rfl, hb14⟩
        have HB14 := hid_ (HB10.out.trans ((HB13.out.trans (hb14.mono HB13.out.size)).mono HB10.out.size))
        clear hb14
        go_wp2_with fail
        (with_reducible refine Calls.mono (HAl.out _) ?_)
        rintro e w' ⟨rfl, hbel⟩
        go_wp2_with fail
        go_ret
        exact ⟨rfl, HB14.out.trans (hbel.mono HB14.out.size)⟩
      · have HU5 := hid_ hu5
        have HAl5 := hid_ (hu5.all (by have := HRN.out; have := HF.out.2; unfold Ns.maxR; omega))
        clear hu5 h105 mv5 HCo
        go_wp2_with fail
        (with_reducible refine Calls.mono HAl5.out ?_)
        rintro e w6 ⟨A6, c6, rfl, hrow6, -, hb6⟩
        have HSm := hid_ (onesame_any A6 A3 R.length R.length c6 c3 R R w6 hrow6 (HW5.out.below hb6))
        rw [sameOs_self] at HSm
        have HU6 := hid_ (HU5.out.later hb6)
        clear hrow6 hb6
        go_wp2_with fail
        (with_reducible refine Calls.mono HSm.out ?_)
        rintro e w7 ⟨rfl, hb7⟩
        have HB7 := hid_ (HU6.out.later hb7).below
        clear hb7
        go_wp2_with fail
        (with_reducible refine Calls.mono (HAl.out _) ?_)
        rintro e w' ⟨rfl, hbel⟩
        go_wp2_with fail
        go_ret
        exact ⟨rfl, HB7.out.trans (hbel.mono HB7.out.size)⟩
      · exact absurd rfl (h105 HF.out.1)

set_option maxRecDepth 100000 in
theorem lifted (os : Os) (started : os.Started) (H : Type) (enc : TypeId × Value → H) :
    ReturnsInHanded {} Tryz.checked os 6 .any (Rows.replicaCompactsSpec.pre6 enc Tryz.prog Tryz.f6 Rows.replicaCompactsRow.domain false) (Rows.replicaCompactsSpec.post enc Tryz.prog Tryz.f6 false true false false) := by
  refine returnsInHanded_of_change (C := Tryz.checked) own started (by kernel_rfl) Tryz.func6
    (ChangeSpec.witness6 (enc := enc) (C := Tryz.checked) false ⟨#[], #[.slice none 0 0], []⟩ 8 (by kernel_rfl) (by kernel_rfl) (by kernel_rfl) (by kernel_rfl)) ?_
  intro W base args ds gs before hval0 hW hcnd _
  have hval : ∀ (j : Nat) t v, Tryz.f6.params[j]? = some t → args[j]? = some v → Value.okWide Tryz.prog W .any base t v := hval0
  have hW' := hW
  obtain ⟨p, q, hA0, hV, rfl, hfz, hnd⟩ := hW
  have hA : DataW.TrodAll enc Tryz.prog W 0 (fun _ => true) true Tryz.f6.params.toList args.toList ds p := hA0
  rw [Tryz.params6] at hA hval
  obtain ⟨v0, vs0, d0, ds0, p0, q0, hargs, rfl, rfl, h0, r0⟩ := trodAll_cons hA
  obtain ⟨rfl, rfl, rfl⟩ := trodAll_nil r0
  obtain rfl : args = #[v0] := by cases args; simp_all
  obtain ⟨rfl, rfl⟩ := trodVars_none hV
  have k0 := h0
  have lt0 : ∀ x ∈ p0, x.block < W.heap.size := by obtain ⟨m, hm⟩ := k0; exact DataW.trod_lt m _ _ _ hm
  have w0 : PksV W v0 := Rp.open_pksV (hval 0 61 v0 rfl rfl) h0
  clear hA0 hval0
  refine (walk v0 W w0).mono fun e W' ⟨he, bel⟩ => ?_
  subst he
  exact ⟨_, rfl, _, _, _, [], _, [], hW', trodAll_mk1 (shut_bool Tryz.underlying4 _), (trodAll_cons_mk (Below.trod laidOut (by kernel_rfl) (of_decide_eq_true (by kernel_rfl)) k0 bel lt0) trodAll_mk0), rfl, bel.frame _, fun h => by cases h⟩

theorem over : Rows.replicaCompactsRow.holds Tryz.pinned (OpenSpec.ofChange Rows.replicaCompactsSpec) :=
  OpenClaim.holds_of_wide 6 Tryz.f6 rfl rfl rfl rfl rfl rfl rfl ⟨rfl, rfl, rfl, rfl, rfl⟩ rfl rfl rfl rfl rfl (by kernel_rfl) Tryz.func6 (by kernel_rfl)
    (of_decide_eq_true (by kernel_rfl)) (by unfold Func.isWrapper; first | (rw [if_pos (by decide +kernel)]; kernel_rfl) | (rw [if_neg (by decide +kernel)]; exact ⟨rfl, rfl⟩))
    (fun os started H enc _ => lifted os started H enc)

theorem proved : Rows.ReplicaCompactsSaid := over
#print axioms proved
end Go.Proofs.YthjhofmjhmnddaaGreat.replicaCompacts
