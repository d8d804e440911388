/-
  TimersSorted: keys that are set once come off a heap of timers in the order of their times, then of themselves, each once; no condition on the input.
  The frame round the walk is written by the guide's own program for this statement.
-/
import Derived.Test.YtpcmlopbkehffaaZGAI
import Derived.Test.YtpcmlopbkehffaaRows
import Derived.WalkKit
import Derived.ProofKit
import Derived.OpenShut
import Derived.ShutString
import Derived.ChangeOld
import Derived.Below
namespace Go.Proofs.Ytpcmlopbkehffaa.timersSorted
set_option linter.unusedSimpArgs false
set_option linter.unusedVariables false
open Go.ChangeShapes Go.WideShapes Go.ChangeAt Go.RowKit
open Go.ChangeMaps (open_string shut_string)
set_option linter.unusedVariables false

theorem own : ownKnob Try.prog.godebug = none := by kernel_rfl
theorem laidOut : laidOutB Try.prog = true := by kernel_rfl

/-- WHAT THE WALK IS TOLD OF A SLICE OF INTEGERS THAT CAME IN: it is nil; or it leads to a row of 'cap' cells, the numbers 'zs' (the first 'len' are its elements, the rest its spare room), each fitting its kind. -/
def IsRow (k : IntKind) (w : World) (a : Option Addr) (len cap : Nat) (zs : List Int) : Prop :=
  (a = none ∧ len = 0 ∧ cap = 0 ∧ zs = []) ∨
  ∃ x, a = some x ∧ len ≤ cap ∧ cap ≤ maxLen ∧ zs.length = cap ∧ (∀ i, i < zs.length → w.cell? (x.add i) = some (.int k (zs.getD i 0))) ∧ ∀ n ∈ zs, (Lit.int k n).wf = true

open Ti
set_option maxRecDepth 100000 in
set_option maxHeartbeats 8000000 in
theorem walk (v0 : Value) (w : World) (w0 : Ti.DuesV w v0) :
    Calls Try.prog 8 #[v0] w fun e w' => e = .returned (.bool true) ∧ Below w.heap.size w w' := by
  obtain ⟨A, n, c, l, rfl, hrow, hwf⟩ := w0
  have HA := hid_ (fun W => alive_any W)
  have hlen := hrow.len
  have hmax := hrow.le
  have HRow := hid_ hrow
  have HWf := hid_ hwf
  have HLen := hid_ hlen
  clear hrow hwf hlen
  by_cases hbig : 200 < n
  · have q0 : decide ((n : Int) > 200) = true := decide_eq_true (by omega)
    have r0 : decide ((200 : Int) < (n : Int)) = true := decide_eq_true (by omega)
    have s0 : decide (200 < n) = true := decide_eq_true hbig
    clear hbig
    go_enter Try.func8, Try.ntmps8
    go_wp2_with fail
    (with_reducible refine Calls.mono (HA.out _) ?_)
    rintro e wz ⟨rfl, hbz⟩
    go_wp2_with fail
    go_ret
    exact ⟨rfl, hbz⟩
  have q0 : decide ((n : Int) > 200) = false := decide_eq_false (by omega)
  have r0 : decide ((200 : Int) < (n : Int)) = false := decide_eq_false (by omega)
  have s0 : decide (200 < n) = false := decide_eq_false hbig
  have hn : n ≤ 200 := by omega
  have H1 := hid_ (hp_zero w)
  have HB0 := hid_ (show Below w.heap.size w (w.alloc (.cells #[.slice none 0 0, .map none] 62)) from (Below.refl _ _).alloc (Nat.le_refl _) _)
  clear hbig
  go_enter Try.func8, Try.ntmps8
  go_wp2_with fail
  go_loopw [4, 5] (fun v4 v5 wr => ∃ (i : Nat) (ms mm : List DueD) (Q : Nat → Prop) (A' : Option Addr) (c' : Nat), v4 = .slice A' mm.length c' ∧ v5 = .int .i64 (i : Nat) ∧ i ≤ n ∧ Hid (Hp wr w.heap.size Q ms i) ∧ Hid (OwnD w.heap.size wr A' mm.length c' mm) ∧ Hid (mm.Perm ms) ∧ Hid (∀ a, (Value.slice A' mm.length c').ownBlock = some a → ¬ Q a) ∧ Hid (Below w.heap.size w wr ∧ ∀ q, Q q → w.heap.size ≤ q)) (fun _ v5 _ => n - (intOf v5).toNat)
  case atStart => exact ⟨0, [], [], _, none, 0, rfl, rfl, Nat.zero_le _, H1, hid_ (Enc.Own.none _ _), hid_ (List.Perm.refl _), hid_ (fun a h => by cases h), hid_ ⟨HB0.out, fun q hq => by rw [hq]; exact Nat.le_refl _⟩⟩
  case round =>
    clear H1 HB0
    obtain ⟨i, ms, mm, Q, A', c', rfl, rfl, hi, HH, HO, HPm, HNQ, HB⟩ := hrel
    by_cases hlt : i < n
    · have hrr := fun (W : World) (hb : Below w.heap.size w W) => dues_at (HRow.out.below hb) (k := i) (by rw [HLen.out]; exact hlt)
      have hwi := HWf.out (l[i]'(by rw [HLen.out]; exact hlt)) (List.getElem_mem _)
      generalize l[i]'(by rw [HLen.out]; exact hlt) = d at *
      obtain ⟨b, off, hA, -⟩ := hrr w (Below.refl _ _)
      subst hA
      have HC := hid_ (show ∀ W : World, Below w.heap.size w W → W.cell? ⟨b, off + i * 2, none⟩ = some (.int .u64 (d.key : Nat)) ∧ W.cell? ⟨b, off + i * 2 + 1, none⟩ = some (.int .u64 (d.at_ : Nat)) from fun W hb => by
        obtain ⟨b', off', e, -, h1, h2⟩ := hrr W hb
        injection e with e
        injection e with e1 e2
        subst e1 e2
        exact ⟨h1, h2⟩)
      have m1 : (i : Int) < (n : Int) := by omega
      have m2 : (0 : Int) ≤ (i : Int) := by omega
      have hml : mm.length ≤ 200 := by have := HPm.out.length_eq; have := HH.out.len; omega
      have HI := hid_ hlt
      have HD := hid_ (show d.key < 18446744073709551616 ∧ d.at_ < 18446744073709551616 from hwi)
      obtain ⟨dk, da⟩ := d
      dsimp only at HC HD
      clear hlt hrr hwi
      obtain ⟨c0, c1⟩ := HC.out wr HB.out.1
      have c2 : wr.drew.cell? ⟨b, off + i * 2, none⟩ = some (.int .u64 (dk : Nat)) := c0
      have c3 : wr.drew.cell? ⟨b, off + i * 2 + 1, none⟩ = some (.int .u64 (da : Nat)) := c1
      have HS := hid_ (hset_any (HH.out.drewN 1) HD.out.1 HD.out.2 (by omega))
      go_wp2_with fail
      go_still_tail 11, (by kernel_rfl)
      change wpList _ _ _ _ _ (wr.drewN 1)
      clear c0 c1 c2 c3
      go_wp2_with fail
      (with_reducible refine Calls.mono HS.out ?_)
      rintro e w1 ⟨v1, rfl, rfl, Q1, h1, t1, q1⟩
      have HH1 := hid_ h1
      have HO1 := hid_ (ownE_far (w' := w1) HO.out (fun a ha => t1.block a (HO.out.from_ a ha).2 (HNQ.out a ha)))
      have HNQ1 := hid_ (show ∀ a, (Value.slice A' mm.length c').ownBlock = some a → ¬ Q1 a from fun a ha hq => by
        rcases q1 a hq with h9 | h9
        · exact HNQ.out a ha h9
        · have := (HO.out.from_ a ha).2
          have h8 : wr.heap.size ≤ a := h9
          omega)
      have HB1 := hid_ (show Below w.heap.size w w1 ∧ ∀ q, Q1 q → w.heap.size ≤ q from ⟨Tn.below (below_drewN HB.out.1 1) t1 HB.out.2 HB.out.1.size, fun q hq => by
        rcases q1 q hq with h9 | h9
        · exact HB.out.2 q h9
        · have := HB.out.1.size
          have h8 : wr.heap.size ≤ q := h9
          omega⟩)
      clear h1 t1 q1 HS HO HNQ
      obtain ⟨c0, c1⟩ := HC.out w1 HB1.out.1
      have HDl := hid_ (rdel_any A' mm.length c' mm dk w1 HO1.out.row (by omega))
      go_wp2_with fail
      (with_reducible refine Calls.mono HDl.out ?_)
      rintro e w2 ⟨A2, c2, rfl, hcase, hb2⟩
      have hdl : (delR mm dk).length ≤ mm.length := List.length_eraseP_le
      have HO2 := hid_ (show OwnD w.heap.size w2 A2 (delR mm dk).length c2 (delR mm dk) from by
        rcases hcase with ⟨rfl, rfl, e, rfl⟩ | h9
        · rw [e]; exact HO1.out
        · exact h9.mono HB1.out.1.size)
      have HNQ2 := hid_ (show ∀ a, (Value.slice A2 (delR mm dk).length c2).ownBlock = some a → ¬ Q1 a from fun a ha hq => by
        rcases hcase with ⟨rfl, rfl, e, rfl⟩ | h9
        · rw [e] at ha; exact HNQ1.out a ha hq
        · have := (h9.from_ a ha).1
          have := HH1.out.qlt a hq
          omega)
      have HH2 := hid_ (HH1.out.below hb2)
      have HB2 := hid_ (HB1.out.1.trans (hb2.mono HB1.out.1.size))
      clear hcase hb2 HDl c0 c1
      obtain ⟨c0, c1⟩ := HC.out w2 HB2.out
      have HL3 := hid_ (Enc.row_new (E := dueE) w2 ⟨dk, da⟩ #[.int .u64 (dk : Nat), .int .u64 (da : Nat)] rfl 81)
      have HO3 := hid_ (HO2.out.later ((Below.refl w2.heap.size w2).alloc (Nat.le_refl _) (.cells #[.int .u64 (dk : Nat), .int .u64 (da : Nat)] 81)))
      have HSZ := hid_ HB2.out.size
      go_wp2_with (at_builtin; refine Enc.wpList_rows (E := dueE) (e := 81) rfl (.tmp 50) (.tmp 55) 63 rfl _ 16 Try.underlying63 info_due rfl w.heap.size A2 (delR mm dk).length c2 _ rfl HO3.out (some ⟨w2.heap.size, 0, none⟩) 1 1 [⟨dk, da⟩] rfl HL3.out ((delR mm dk).length + 1) _ rfl rfl (by omega) (by omega) (by have := HSZ.out; simp; omega) ?_; intro A5 c5 w5 ho5 hb5 hg5 hat5; have HO5 := hid_ ho5; have HX5 := hid_ (And.intro hb5 (And.intro hg5 hat5)); clear ho5 hb5 hg5 hat5)
      go_roundw
      case rel =>
        obtain ⟨hb5, hg5, hat5⟩ := HX5.out
        have hs5 := hg5.size
        have hsa : (w2.alloc (.cells #[.int .u64 (dk : Nat), .int .u64 (da : Nat)] 81)).heap.size = w2.heap.size + 1 := by simp
        have hlen5 : (delR mm dk ++ [(⟨dk, da⟩ : DueD)]).length = (delR mm dk).length + 1 := by rw [List.length_append]; rfl
        refine ⟨i + 1, setR ms dk da, delR mm dk ++ [⟨dk, da⟩], Q1, A5, c5, by rw [hlen5], by go_num, by have := HI.out; omega, hid_ (HH2.out.stands (by omega) (fun q hq => ?_)), hid_ (by rw [hlen5]; exact HO5.out), hid_ ?_, hid_ (fun a ha => ?_), hid_ ⟨?_, HB1.out.2⟩⟩
        · have h7 := HH2.out.qlt q hq
          rw [hg5.block q (by omega) (fun e => HNQ2.out q e.symm hq)]
          exact Below.heap_alloc w2 _ q h7
        · refine List.Perm.trans ?_ (set_perm ms dk da).symm
          exact (List.perm_append_comm (l₁ := delR mm dk) (l₂ := [⟨dk, da⟩])).trans (List.Perm.cons _ (del_perm2 HPm.out ((HPm.out.map DueD.key).nodup_iff.2 HH.out.ok.keys) dk))
        · intro hq
          rw [hlen5] at ha
          rcases hat5 with h9 | h9
          · exact HNQ2.out a (h9 ▸ ha) hq
          · rw [h9] at ha
            injection ha with ha
            have := HH2.out.qlt a hq
            omega
        · exact (HB2.out.alloc HSZ.out _).trans hb5
      case measure => have := HI.out; simp [intOf]; omega
    · obtain rfl : i = n := by omega
      have m1 : ¬ (i : Int) < (i : Int) := by omega
      clear hlt hi
      obtain ⟨wo, hwo⟩ : ∃ wo : World, wo = wr := ⟨_, rfl⟩
      subst hwo
      have HML := hid_ (show mm.length = ms.length from HPm.out.length_eq)
      have HMK := hid_ (show (mm.map DueD.key).Nodup from (HPm.out.map DueD.key).nodup_iff.2 HH.out.ok.keys)
      have HOk := hid_ HH.out.ok
      have hml2 : mm.length ≤ 200 := by have := HPm.out.length_eq; have := HH.out.len; omega
      have HQ0 := hid_ HH.out.qlt
      have HHa := hid_ (HH.out.below ((Below.refl wo.heap.size wo).alloc (Nat.le_refl _) (.cells #[.int .u64 0, .int .u64 0] 81)))
      have HOa := hid_ (HO.out.later ((Below.refl wo.heap.size wo).alloc (Nat.le_refl _) (.cells #[.int .u64 0, .int .u64 0] 81)))
      have HLT := hid_ (fun a ha => (HO.out.from_ a ha).2)
      have HZ := hid_ (whole_new wo 81 #[.int .u64 0, .int .u64 0])
      have HBa := hid_ (HB.out.1.alloc HB.out.1.size (.cells #[.int .u64 0, .int .u64 0] 81))
      have HBQ := hid_ HB.out.2
      have HLB := hid_ HB.out.1.size
      clear HH HO HB
      go_wp2_with fail
      go_loopw [7] (fun v7 wr => ∃ (k : Nat) (pre suf : List DueD) (lk la : Nat), v7 = .int .i64 (k : Nat) ∧ k ≤ 200 ∧ Hid (pre.length = k ∧ ms = pre ++ suf) ∧ Hid (Hp wr w.heap.size Q suf i) ∧ Hid (OwnD w.heap.size wr A' mm.length c' mm) ∧ Hid (Whole wr wo.heap.size 81 #[.int .u64 (lk : Nat), .int .u64 (la : Nat)]) ∧ Hid (pre = [] ∨ ∃ p', pre = p' ++ [⟨lk, la⟩]) ∧ Hid (Below w.heap.size w wr)) (fun v7 _ => ms.length - (intOf v7).toNat)
      case atStart => exact ⟨0, [], ms, 0, 0, rfl, Nat.zero_le _, hid_ ⟨rfl, rfl⟩, HHa, HOa, HZ, hid_ (.inl rfl), HBa⟩
      case round =>
        clear HHa HOa HZ HBa
        obtain ⟨k, pre, suf, lk, la, rfl, hk2, HK, HH, HO, HW, HP, HB⟩ := hrel
        rcases suf with _ | ⟨x, suf⟩
        · have hkm : k = mm.length := by rw [HML.out, HK.out.2, List.append_nil]; exact HK.out.1.symm
          have m2 : ¬ (k : Int) < (mm.length : Int) := by omega
          have m3 : decide ((k : Int) < (mm.length : Int)) = false := decide_eq_false m2
          have m4 : decide (k < mm.length) = false := decide_eq_false (by omega)
          have HN := hid_ (show Calls Try.prog 34 #[.pointer (some ⟨w.heap.size, 0, none⟩)] wr (RetD wr (.tuple #[.int .u64 0, .int .u64 0, .bool false])) from hnext_any HH.out)
          have HL := hid_ (fun q => show Calls Try.prog 35 #[.pointer (some ⟨w.heap.size, 0, none⟩)] (wr.drewN q) (RetV (wr.drewN q) (.int .i64 0)) from hlen_any (HH.out.drewN q))
          have HPo := hid_ (fun q => show Calls Try.prog 31 #[.pointer (some ⟨w.heap.size, 0, none⟩), .int .u64 18446744073709551615] (wr.drewN q) _ from hpop_any (HH.out.drewN q) 18446744073709551615 (by omega))
          have HBD := hid_ (fun q => below_drewN HB.out q)
          clear hkm
          go_wp2_with fail
          (with_reducible refine Calls.mono HN.out ?_)
          rintro e w1 ⟨rfl, q, rfl⟩
          go_wp2_with fail
          (with_reducible refine Calls.mono (HL.out _) ?_)
          rintro e w2 ⟨rfl, rfl⟩
          go_wp2_with fail
          (with_reducible refine Calls.mono (HPo.out _) ?_)
          rintro e w3 ⟨A9, c9, rfl, -, -, t9⟩
          have HB3 := hid_ (Tn.below (HBD.out q) t9 HBQ.out (HBD.out q).size)
          rw [show (popR [] 18446744073709551615).1.length = 0 from rfl]
          clear t9
          go_wp2_with fail
          (with_reducible refine Calls.mono (HA.out _) ?_)
          rintro e w4 ⟨rfl, hb4⟩
          have HB4 := hid_ (HB3.out.trans (hb4.mono HB3.out.size))
          clear hb4
          go_wp2_with fail
          go_ret
          exact ⟨rfl, HB4.out⟩
        · have hkm : k < mm.length := by rw [HML.out, HK.out.2, List.length_append, List.length_cons, HK.out.1]; omega
          have m2 : (k : Int) < (mm.length : Int) := by omega
          have m3 : decide ((k : Int) < (mm.length : Int)) = true := decide_eq_true m2
          have m4 : decide (k < mm.length) = true := decide_eq_true hkm
          have hxm : x ∈ mm := HPm.out.mem_iff.2 (by rw [HK.out.2]; exact List.mem_append_right _ List.mem_cons_self)
          have hat := at_of HMK.out hxm
          have hok := HH.out.ok
          have hlt := hok.lt x List.mem_cons_self
          have HLst := hid_ (show ∀ p', pre = p' ++ [⟨lk, la⟩] → la < x.at_ ∨ (la = x.at_ ∧ lk < x.key) from fun p' hp => by
            have h1 := HOk.out
            rw [HK.out.2, hp] at h1
            have h2 := last_lt h1
            have h3 := (h1.lt ⟨lk, la⟩ (List.mem_append_left _ (List.mem_append_right _ (List.mem_singleton.2 rfl)))).1
            unfold ord at h2
            dsimp only at h2 h3
            omega)
          have HN := hid_ (show Calls Try.prog 34 #[.pointer (some ⟨w.heap.size, 0, none⟩)] wr (RetD wr (.tuple #[.int .u64 (x.key : Nat), .int .u64 (x.at_ : Nat), .bool true])) from hnext_any HH.out)
          have HAt := hid_ (fun q => show Calls Try.prog 33 #[.slice A' mm.length c', .int .u64 (x.key : Nat)] (wr.drewN q) (RetV (wr.drewN q) (.tuple #[.int .u64 (x.at_ : Nat), .bool true])) from by
            have h9 := rat_any A' mm.length c' mm x.key (wr.drewN q) (ownE_far (w' := wr.drewN q) HO.out (fun _ _ => rfl)).row
            rw [hat] at h9
            exact h9)
          have HDl := hid_ (fun q => show Calls Try.prog 28 #[.pointer (some ⟨w.heap.size, 0, none⟩), .int .u64 (x.key : Nat)] (wr.drewN q) (fun e w' => e = .returned (.bool true) ∧ Hp w' w.heap.size Q suf i ∧ Tn Q (wr.drewN q) w') from by
            refine (hdel_any (HH.out.drewN q) hlt.1 (by omega)).mono ?_
            rintro e w' ⟨rfl, h1, h2⟩
            rw [head_del] at h1
            exact ⟨by rw [head_has], h1, h2⟩)
          have HDn := hid_ (fun W (hW : Hp W w.heap.size Q suf i) => show Calls Try.prog 28 #[.pointer (some ⟨w.heap.size, 0, none⟩), .int .u64 (x.key : Nat)] W (fun e w' => e = .returned (.bool false) ∧ Hp w' w.heap.size Q suf i ∧ Tn Q W w') from by
            refine (hdel_any hW hlt.1 (by omega)).mono ?_
            rintro e w' ⟨rfl, h1, h2⟩
            have h3 := head_no hok
            rw [del_none (has_false.1 h3)] at h1
            exact ⟨by rw [h3], h1, h2⟩)
          have HKM := hid_ hkm
          have HBD := hid_ (fun q => below_drewN HB.out q)
          have HOD := hid_ (fun q => ownE_far (w' := wr.drewN q) HO.out (fun _ _ => rfl))
          have HWD := hid_ (fun q => (show Whole (wr.drewN q) wo.heap.size 81 #[.int .u64 (lk : Nat), .int .u64 (la : Nat)] from HW.out))
          have HSn := hid_ (show ms = (pre ++ [x]) ++ suf by rw [HK.out.2, List.append_assoc]; rfl)
          have hq1 : wrap64 ((k : Int) + 1) = (k : Int) + 1 := by unfold wrap64; omega
          obtain ⟨xk, xa⟩ := x
          dsimp only at HN HAt HDl HDn HLst
          have n1 : (xa != xa) = false := by simp
          have n2 : ((xa : Int) != (xa : Int)) = false := by simp
          have n3 : (xa == xa) = true := beq_iff_eq.2 rfl
          clear hkm hxm hat hok hlt
          go_wp2_with fail
          (with_reducible refine Calls.mono HN.out ?_)
          rintro e w1 ⟨rfl, q, rfl⟩
          go_wp2_with fail
          (with_reducible refine Calls.mono (HAt.out _) ?_)
          rintro e w2 ⟨rfl, rfl⟩
          have HDl1 := hid_ (HDl.out q)
          have HB1 := hid_ (HBD.out q)
          have HO1 := hid_ (HOD.out q)
          have HW1 := hid_ (HWD.out q)
          clear HDl HBD HOD HWD HN HAt HH HO HW HB
          generalize wr.drewN q = wq at *
          obtain ⟨c0, c1⟩ := cell_of HW1.out
          rcases HP.out with hp | ⟨p', hp⟩
          · have hk0 : k = 0 := by rw [← HK.out.1, hp]; rfl
            subst hk0
            clear hp
            go_wp2_with fail
            (with_reducible refine Calls.mono HDl1.out ?_)
            rintro e w3 ⟨rfl, h3, t3⟩
            have HDn3 := hid_ (HDn.out w3 h3)
            have HT3 := hid_ t3
            clear h3 t3
            go_wp2_with fail
            (with_reducible refine Calls.mono HDn3.out ?_)
            rintro e w4 ⟨rfl, h4, t4⟩
            have HT4 := hid_ (HT3.out.trans t4 (fun q hq => .inl hq))
            have HH4 := hid_ h4
            have HNL := hid_ (show ¬ Q wo.heap.size from fun hq => Nat.lt_irrefl _ (HQ0.out _ hq))
            have HW4 := hid_ (Whole.tn HW1.out HT4.out HNL.out)
            have d0 := (cell_of HW4.out).1
            have d1 := (cell_of HW4.out).2
            have df := HW4.out.free
            clear h4 t4 c0 c1
            go_wp2_with fail
            go_roundw
            case rel =>
              have hb4 := Tn.below HB1.out HT4.out HBQ.out HB1.out.size
              refine ⟨0 + 1, pre ++ [⟨xk, xa⟩], suf, xk, xa, by go_num, by have := HKM.out; omega, hid_ ⟨by rw [List.length_append, HK.out.1]; rfl, HSn.out⟩, hid_ (HH4.out.stands (by simp) (fun q hq => ?_)), hid_ (ownE_far HO1.out (fun a ha => ?_)), hid_ ?_, hid_ (.inr ⟨pre, rfl⟩), hid_ ((hb4.setCell (p := ⟨wo.heap.size, 0, none⟩) HLB.out _).setCell (p := ⟨wo.heap.size, 1, none⟩) HLB.out _)⟩
              · have hne : q ≠ wo.heap.size := fun e => HNL.out (e ▸ hq)
                rw [Below.heap_setCell _ _ _ q hne, Below.heap_setCell _ _ _ q hne]
              · have hlt := HLT.out a ha
                have hne : a ≠ wo.heap.size := by omega
                rw [Below.heap_setCell _ _ _ a hne, Below.heap_setCell _ _ _ a hne]
                exact HT4.out.block a (HO1.out.from_ a ha).2 (HNQ.out a ha)
              · exact (HW4.out.store 0 (.int .u64 (xk : Nat))).store 1 (.int .u64 (xa : Nat))
            case measure =>
              have h1 := HKM.out
              have h2 := HML.out
              simp [intOf]
              omega
          · have hk0 : 0 < k := by rw [← HK.out.1, hp, List.length_append]; exact Nat.lt_of_lt_of_le Nat.zero_lt_one (Nat.le_add_left _ _)
            have g1 : decide ((k : Int) > 0) = true := decide_eq_true (by omega)
            have g2 : decide ((0 : Int) < (k : Int)) = true := decide_eq_true (by omega)
            have g3 : decide (0 < k) = true := decide_eq_true hk0
            have hls := HLst.out p' hp
            have g4 : decide (xa < la) = false := decide_eq_false (by omega)
            have g5 : decide ((xa : Int) < (la : Int)) = false := decide_eq_false (by omega)
            have g6 : decide ((la : Int) > (xa : Int)) = false := decide_eq_false (by omega)
            clear hp
            rcases hls with hls | ⟨hls, hl2⟩
            · have g7 : (la == xa) = false := beq_eq_false_iff_ne.2 (by omega)
              have g8 : ((la : Int) == (xa : Int)) = false := beq_eq_false_iff_ne.2 (by omega)
              clear hls hk0
              go_wp2_with fail
              (with_reducible refine Calls.mono HDl1.out ?_)
              rintro e w3 ⟨rfl, h3, t3⟩
              have HDn3 := hid_ (HDn.out w3 h3)
              have HT3 := hid_ t3
              clear h3 t3
              go_wp2_with fail
              (with_reducible refine Calls.mono HDn3.out ?_)
              rintro e w4 ⟨rfl, h4, t4⟩
              have HT4 := hid_ (HT3.out.trans t4 (fun q hq => .inl hq))
              have HH4 := hid_ h4
              have HNL := hid_ (show ¬ Q wo.heap.size from fun hq => Nat.lt_irrefl _ (HQ0.out _ hq))
              have HW4 := hid_ (Whole.tn HW1.out HT4.out HNL.out)
              have d0 := (cell_of HW4.out).1
              have d1 := (cell_of HW4.out).2
              have df := HW4.out.free
              clear h4 t4 c0 c1
              go_wp2_with fail
              go_roundw
              case rel =>
                have hb4 := Tn.below HB1.out HT4.out HBQ.out HB1.out.size
                refine ⟨k + 1, pre ++ [⟨xk, xa⟩], suf, xk, xa, by go_num, by have := HKM.out; omega, hid_ ⟨by rw [List.length_append, HK.out.1]; rfl, HSn.out⟩, hid_ (HH4.out.stands (by simp) (fun q hq => ?_)), hid_ (ownE_far HO1.out (fun a ha => ?_)), hid_ ?_, hid_ (.inr ⟨pre, rfl⟩), hid_ ((hb4.setCell (p := ⟨wo.heap.size, 0, none⟩) HLB.out _).setCell (p := ⟨wo.heap.size, 1, none⟩) HLB.out _)⟩
                · have hne : q ≠ wo.heap.size := fun e => HNL.out (e ▸ hq)
                  rw [Below.heap_setCell _ _ _ q hne, Below.heap_setCell _ _ _ q hne]
                · have hlt := HLT.out a ha
                  have hne : a ≠ wo.heap.size := by omega
                  rw [Below.heap_setCell _ _ _ a hne, Below.heap_setCell _ _ _ a hne]
                  exact HT4.out.block a (HO1.out.from_ a ha).2 (HNQ.out a ha)
                · exact (HW4.out.store 0 (.int .u64 (xk : Nat))).store 1 (.int .u64 (xa : Nat))
              case measure =>
                have h1 := HKM.out
                have h2 := HML.out
                simp [intOf]
                omega
            · have g7 : (la == xa) = true := beq_iff_eq.2 hls
              have g8 : ((la : Int) == (xa : Int)) = true := beq_iff_eq.2 (by omega)
              have g9 : decide (xk ≤ lk) = false := decide_eq_false (by omega)
              have g10 : decide ((xk : Int) ≤ (lk : Int)) = false := decide_eq_false (by omega)
              have g11 : decide ((lk : Int) ≥ (xk : Int)) = false := decide_eq_false (by omega)
              clear hls hl2 hk0
              go_wp2_with fail
              (with_reducible refine Calls.mono HDl1.out ?_)
              rintro e w3 ⟨rfl, h3, t3⟩
              have HDn3 := hid_ (HDn.out w3 h3)
              have HT3 := hid_ t3
              clear h3 t3
              go_wp2_with fail
              (with_reducible refine Calls.mono HDn3.out ?_)
              rintro e w4 ⟨rfl, h4, t4⟩
              have HT4 := hid_ (HT3.out.trans t4 (fun q hq => .inl hq))
              have HH4 := hid_ h4
              have HNL := hid_ (show ¬ Q wo.heap.size from fun hq => Nat.lt_irrefl _ (HQ0.out _ hq))
              have HW4 := hid_ (Whole.tn HW1.out HT4.out HNL.out)
              have d0 := (cell_of HW4.out).1
              have d1 := (cell_of HW4.out).2
              have df := HW4.out.free
              clear h4 t4 c0 c1
              go_wp2_with fail
              go_roundw
              case rel =>
                have hb4 := Tn.below HB1.out HT4.out HBQ.out HB1.out.size
                refine ⟨k + 1, pre ++ [⟨xk, xa⟩], suf, xk, xa, by go_num, by have := HKM.out; omega, hid_ ⟨by rw [List.length_append, HK.out.1]; rfl, HSn.out⟩, hid_ (HH4.out.stands (by simp) (fun q hq => ?_)), hid_ (ownE_far HO1.out (fun a ha => ?_)), hid_ ?_, hid_ (.inr ⟨pre, rfl⟩), hid_ ((hb4.setCell (p := ⟨wo.heap.size, 0, none⟩) HLB.out _).setCell (p := ⟨wo.heap.size, 1, none⟩) HLB.out _)⟩
                · have hne : q ≠ wo.heap.size := fun e => HNL.out (e ▸ hq)
                  rw [Below.heap_setCell _ _ _ q hne, Below.heap_setCell _ _ _ q hne]
                · have hlt := HLT.out a ha
                  have hne : a ≠ wo.heap.size := by omega
                  rw [Below.heap_setCell _ _ _ a hne, Below.heap_setCell _ _ _ a hne]
                  exact HT4.out.block a (HO1.out.from_ a ha).2 (HNQ.out a ha)
                · exact (HW4.out.store 0 (.int .u64 (xk : Nat))).store 1 (.int .u64 (xa : Nat))
              case measure =>
                have h1 := HKM.out
                have h2 := HML.out
                simp [intOf]
                omega

set_option maxRecDepth 100000 in
theorem lifted (os : Os) (started : os.Started) (H : Type) (enc : TypeId × Value → H) :
    ReturnsInHanded {} Try.checked os 8 .any (Rows.timersSortedSpec.pre6 enc Try.prog Try.f8 Rows.timersSortedRow.domain false) (Rows.timersSortedSpec.post enc Try.prog Try.f8 false true false false) := by
  refine returnsInHanded_of_change (C := Try.checked) own started (by kernel_rfl) Try.func8
    (ChangeSpec.witness6 (enc := enc) (C := Try.checked) false ⟨#[], #[.slice none 0 0], []⟩ 8 (by kernel_rfl) (by kernel_rfl) (by kernel_rfl) (by kernel_rfl)) ?_
  intro W base args ds gs before hval0 hW hcnd _
  have hval : ∀ (j : Nat) t v, Try.f8.params[j]? = some t → args[j]? = some v → Value.okWide Try.prog W .any base t v := hval0
  have hW' := hW
  obtain ⟨p, q, hA0, hV, rfl, hfz, hnd⟩ := hW
  have hA : DataW.TrodAll enc Try.prog W 0 (fun _ => true) true Try.f8.params.toList args.toList ds p := hA0
  rw [Try.params8] at hA hval
  obtain ⟨v0, vs0, d0, ds0, p0, q0, hargs, rfl, rfl, h0, r0⟩ := trodAll_cons hA
  obtain ⟨rfl, rfl, rfl⟩ := trodAll_nil r0
  obtain rfl : args = #[v0] := by cases args; simp_all
  obtain ⟨rfl, rfl⟩ := trodVars_none hV
  have k0 := h0
  have lt0 : ∀ x ∈ p0, x.block < W.heap.size := by obtain ⟨m, hm⟩ := k0; exact DataW.trod_lt m _ _ _ hm
  have w0 : Ti.DuesV W v0 := Ti.open_duesV (hval 0 63 v0 rfl rfl) h0
  clear hA0 hval0
  refine (walk v0 W w0).mono fun e W' ⟨he, bel⟩ => ?_
  subst he
  exact ⟨_, rfl, _, _, _, [], _, [], hW', trodAll_mk1 (shut_bool Try.underlying4 _), (trodAll_cons_mk (Below.trod laidOut (by kernel_rfl) (of_decide_eq_true (by kernel_rfl)) k0 bel lt0) trodAll_mk0), rfl, bel.frame _, fun h => by cases h⟩

theorem over : Rows.timersSortedRow.holds Try.pinned (OpenSpec.ofChange Rows.timersSortedSpec) :=
  OpenClaim.holds_of_wide 8 Try.f8 rfl rfl rfl rfl rfl rfl rfl ⟨rfl, rfl, rfl, rfl, rfl⟩ rfl rfl rfl rfl rfl (by kernel_rfl) Try.func8 (by kernel_rfl)
    (of_decide_eq_true (by kernel_rfl)) (by unfold Func.isWrapper; first | (rw [if_pos (by decide +kernel)]; kernel_rfl) | (rw [if_neg (by decide +kernel)]; exact ⟨rfl, rfl⟩))
    (fun os started H enc _ => lifted os started H enc)

theorem proved : Rows.TimersSortedSaid := over
#print axioms proved
end Go.Proofs.Ytpcmlopbkehffaa.timersSorted
