/-
  The reference's Crash of a disk.
-/
import Derived.Test.YtalekhafkgepnaaZRDiskApp3
namespace Go.Proofs.Ytalekhafkgepnaa
set_option linter.unusedSimpArgs false
set_option linter.unusedVariables false
open Go.RowKit
namespace Dsk
set_option linter.unusedSimpArgs false
set_option linter.unusedVariables false
/-- What stands between two rounds: the first k files have been crashed. -/
structure RCrSt (w1 : World) (g : Nat) (Q : Nat → Prop) (d : DiskD) (keep : List Int) (k : Nat) (wr : World) : Prop where
  dk : ∃ Q', Rk wr g Q' (withF d (crashTo d.F keep k)) ∧ ∀ q, Q' q → Q q ∨ w1.heap.size ≤ q
  tn : Tn Q w1 wr
theorem RCrSt.start {w1 : World} {g : Nat} {Q : Nat → Prop} {d : DiskD} {keep : List Int} (h : Rk w1 g Q d) : RCrSt w1 g Q d keep 0 w1 :=
  ⟨⟨Q, by rw [crashTo_zero]; exact h, fun q hq => .inl hq⟩, Tn.refl _ _⟩
theorem RCrSt.step {w1 wr W : World} {g fb : Nat} {Q Q1 : Nat → Prop} {d : DiskD} {keep : List Int} {k j : Nat} {f : FileD} {cs : Array Value} {V : Nat → Option Addr × Nat} (hd : DOk d) (hj : j < 64) (hf : d.F j = some f) (hr : rank d.F j = k)
    (h : Rk wr g Q1 (withF d (crashTo d.F keep k))) (hq1 : ∀ q, Q1 q → Q q ∨ w1.heap.size ≤ q) (ht : Tn Q w1 wr) (m1 : Whole wr g 127 (rcells fb (withF d (crashTo d.F keep k)))) (m2 : RFiles wr g fb Q1 (crashTo d.F keep k) cs V)
    (m : Nat) (hm : m = f.fast + keepN keep k (f.all.length - f.fast)) (hW : W.heap = ((wr.setCell ⟨fb, j * 3 + 1, none⟩ (.slice (V j).1 m (V j).2)).setCell ⟨fb, j * 3 + 2, none⟩ (.int .i64 (m : Nat))).heap) (hT : Tn Q1 wr W) : RCrSt w1 g Q d keep (k + 1) W := by
  have hfast := hd.fast j f hf
  have hkl := keepN_le keep k (f.all.length - f.fast)
  have hfk : crashTo d.F keep k j = some f := crashTo_at d.F keep (by omega) hf
  have hOk := crashTo_ok hd keep (k + 1)
  rw [crashTo_succ d.F keep hr hf] at hOk
  have e1 : crashed keep k f = ⟨f.all.take m, m⟩ := by unfold crashed; rw [hm]
  rw [e1] at hOk
  have hlm : (f.all.take m).length = m := by rw [List.length_take]; omega
  have hheap : ∀ q, q ≠ fb → W.heap[q]? = wr.heap[q]? := fun q hq => by rw [hW]; exact (Below.heap_setCell _ ⟨fb, _, none⟩ _ q hq).trans (Below.heap_setCell wr ⟨fb, _, none⟩ _ q hq)
  obtain ⟨Q', h1, h2⟩ := h.put (w' := W) m1 m2 j hj (some ⟨f.all.take m, m⟩) (V j).1 (V j).2 ⟨f.all.take m, m⟩ rfl hT.size
    (by
      rw [set_id (show cs[j * 3]? = some (.bool (some (FileD.mk (f.all.take m) m)).isSome) by rw [m2.is_ j hj, hfk]; rfl), hlm]
      unfold Whole
      rw [hW]
      exact (m2.mem.store _ _).store _ _)
    (fun q _ hne => hheap q hne)
    (by
      have := m2.rd j hj
      rw [fileAt_some hfk] at this
      have h3 := this.upto m (by omega)
      show Sl W (V j).1 (f.all.take m).length (V j).2 (f.all.take m)
      rw [hlm]
      exact Sl.stands_at h3 (fun a e hne => hheap _ (m2.blk j hj a e (by rw [fileAt_some hfk]; intro e2; rw [e2] at hne; simp at hne)).2.2))
    (fun a e hne => .inl (m2.blk j hj a e (by rw [fileAt_some hfk]; intro e2; rw [show (FileD.mk (f.all.take m) m).all = f.all.take m from rfl, e2] at hne; simp at hne))) hOk
  refine ⟨⟨Q', ?_, fun q hq2 => ?_⟩, ?_⟩
  · rw [crashTo_succ d.F keep hr hf, e1]
    exact h1
  · rcases h2 q hq2 with h3 | h3
    · exact hq1 q h3
    · have := ht.size; exact .inr (by omega)
  · exact ht.trans hT hq1
/-- The loop's end. -/
theorem rcrash_end {w w1 wr : World} {g : Nat} {Q : Nat → Prop} {d : DiskD} {keep : List Int} (hd : DOk d) (hqg : Q g) (h1 : Below w.heap.size w w1) (s : RCrSt w1 g Q d keep (filesF d.F).length wr) :
    RkPost w g Q (.tuple #[]) (crashD d keep) (.returned (.tuple #[])) ((wr.setCell ⟨g, 3, none⟩ (.bool false)).setCell ⟨g, 2, none⟩ (.int .i64 (-1))) := by
  obtain ⟨⟨Q', hk, hq⟩, ht⟩ := s
  have hO := crashTo_ok hd keep (filesF d.F).length
  have a1 := hk.cell (d' := ⟨d.room, crashF d.F keep, d.armed, d.left, false⟩) ⟨hO.room1, hO.room2, hO.used, hO.fast, hO.high, hO.left⟩ rfl 3 (.bool false) (fun m => rfl)
  have a2 := a1.cell (d' := crashD d keep) (crashD_ok hd keep) rfl 2 (.int .i64 (-1)) (fun m => rfl)
  refine rkPost_mk rfl a2 rfl ((((Tn.of_below h1).trans ht (fun q hq => .inl hq)).set (.inl hqg) 3 _).set (.inl hqg) 2 _) (fun q hq2 => ?_)
  rcases hq q hq2 with h3 | h3
  · exact .inl h3
  · have := h1.size; exact .inr (by omega)
set_option maxRecDepth 100000 in
set_option maxHeartbeats 4000000 in
theorem rcrash_any (Ak : Option Addr) (nk ck : Nat) (keep : List Int) (g : Nat) (Q : Nat → Prop) (d : DiskD) (w : World) (h : Rk w g Q d) (hk : Row w Ak nk ck (intVals keep)) (hQk : ∀ a, Ak = some a → intVals keep ≠ [] → ¬ Q a.block) :
    Calls Try.prog 63 #[.pointer (some ⟨g, 0, none⟩), .slice Ak nk ck] w (RkPost w g Q (.tuple #[]) (crashD d keep)) := by
  have Hf := hid_ (rfiles_any g Q d w h)
  have hnk : nk = keep.length := by have := hk.len; rw [intVals_len] at this; exact this.symm
  have Hnk := hid_ hnk
  have hnk2 := hk.le
  have Hk := hid_ hk
  have HQk := hid_ hQk
  have Hd := hid_ h.ok
  have Hqg := hid_ h.qg
  have H := hid_ h
  have Hql := hid_ h.qlt
  have hL := files_len d.F
  clear h hk hQk hnk
  go_enter Try.func63, Try.ntmps63
  go_wp2_with fail
  refine Calls.mono Hf.out ?_
  rintro e w1 ⟨Af, cf, rfl, ho, hb⟩
  have Hb := hid_ hb
  have Ho := hid_ ho
  have S0 := hid_ (RCrSt.start (keep := keep) (H.out.below hb))
  clear ho hb Hf
  generalize hLn : (filesF d.F).length = L at *
  have HLn := hid_ hLn
  clear hLn
  go_wp2_with fail
  go_loopw [5] (fun v wr => ∃ k : Nat, k ≤ L ∧ v = .int .i64 (k : Nat) ∧ Hid (RCrSt w1 g Q d keep k wr)) (fun v _ => L - (intOf v).toNat)
  case atStart => exact ⟨0, Nat.zero_le _, rfl, S0⟩
  case round =>
    obtain ⟨k, hkL, rfl, HS⟩ := hrel
    by_cases hlt : k < L
    · have hkF : k < (filesF d.F).length := by have := HLn.out; omega
      obtain ⟨hr, hs, hj⟩ := filesTo_get d.F 64 k hkF
      obtain ⟨bf, off, rfl, hcell⟩ := Ho.out.row.at_ (k := k) (by unfold numVals; rw [List.length_map]; exact hkF)
      have hcell2 : w1.cell? ⟨bf, off + k, none⟩ = some (.int .i64 ((filesF d.F)[k] : Nat)) := by rw [hcell]; simp [numVals]
      have hbf : w.heap.size ≤ bf := (OwnV.from_ Ho.out bf rfl).1
      change rank d.F (filesF d.F)[k] = k at hr
      change (d.F (filesF d.F)[k]).isSome = true at hs
      change (filesF d.F)[k] < 64 at hj
      generalize (filesF d.F)[k] = j at *
      obtain ⟨f, hf⟩ := Option.isSome_iff_exists.1 hs
      obtain ⟨⟨Q1, hdk, hq1⟩, htn⟩ := HS.out
      have hfk : (withF d (crashTo d.F keep k)).F j = some f := crashTo_at d.F keep (by omega) hf
      have zc : wr.cell? ⟨bf, off + k, none⟩ = some (.int .i64 (j : Nat)) := by
        rw [← hcell2]
        exact World.cell?_of_block (htn.block bf (lt_of_cell hcell2) (fun hq => by have := Hql.out bf hq; omega))
      obtain ⟨fb, cs, V, m1, m2⟩ := hdk.mem
      have hfast := Hd.out.fast j f hf
      have hlen := len_small Hd.out hj hf
      have HEnd := hid_ (fun (W : World) (m : Nat) (hm : m = f.fast + keepN keep k (f.all.length - f.fast)) (hW) (hT : Tn Q1 wr W) =>
        (RCrSt.step (W := W) Hd.out hj hf hr hdk hq1 htn m1 m2 m hm hW hT))
      have HT := hid_ (fun (v1 v2 : Value) => ((Tn.refl Q1 wr).set (g := fb) (.inl m2.qf) (j * 3 + 1) v1).set (g := fb) (.inl m2.qf) (j * 3 + 2) v2)
      obtain ⟨z0, z1, z2, z3, -⟩ := rk_facts m1
      obtain ⟨s0, s1, s2, sf⟩ := m2.at_ j hj
      have hcap := (m2.rd j hj).cap
      have hmax := (m2.rd j hj).max
      change crashTo d.F keep k j = some f at hfk
      rw [show (withF d (crashTo d.F keep k)).F = crashTo d.F keep k from rfl, fileAt_some hfk] at s1 s2 hcap
      have Hkr := hid_ (Row.tn Hk.out ((Tn.of_below Hb.out).trans htn (fun q hq => .inl hq)) HQk.out)
      clear hdk hq1 htn m1 m2 hfk hf hr hs hcell hcell2 s0 z0 z2 z3
      generalize hlf : f.all = l at *
      generalize hff : f.fast = ff at *
      obtain ⟨n, hn⟩ : ∃ n, n = l.length := ⟨_, rfl⟩
      simp only [← hn] at *
      obtain ⟨lo, hlo⟩ : ∃ lo, n = ff + lo := ⟨n - ff, by omega⟩
      have e1 : (n : Int) - (ff : Int) = (lo : Nat) := by omega
      have e2 : IntKind.i64.wrap ((n : Int) - (ff : Int)) = (lo : Nat) := by rw [e1]; exact IntWalk.i64_in _ (by omega)
      have e3 : n - ff = lo := by omega
      rw [e3] at HEnd
      generalize (V j).1 = A at *
      generalize (V j).2 = c at *
      clear hn hlf hff e3
      have i1 : (0 : Int) ≤ (k : Int) := by omega
      have i2 : (k : Int) < (L : Int) := by omega
      have i3 : (0 : Int) ≤ (j : Int) := by omega
      have i4 : (j : Int) < 64 := by omega
      by_cases hkk : nk ≤ k
      · have e4 : decide (k < nk) = false := decide_eq_false (by omega)
        have HK0 := hid_ (show ff = ff + keepN keep k lo by unfold keepN; rw [dif_neg (by have := Hnk.out; omega)]; rfl)
        have y3 : IntKind.i64.wrap (ff : Int) = (ff : Int) := IntWalk.i64_in _ (by omega)
        have y4 : IntKind.i64.wrap ((ff : Int) + 0) = (ff : Int) := by rw [Int.add_zero]; exact y3
        have y1 : (0 : Int) ≤ (ff : Int) := by omega
        have y2 : (ff : Int) ≤ (c : Int) := by omega
        clear hlo
        go_wp2_with fail
        go_quiet (fail)
        go_wp2_with fail
        go_region
        all_goals
          go_wp2_with fail
          go_roundw
          case rel => exact ⟨k + 1, by omega, by go_num, hid_ (HEnd.out _ ff HK0.out rfl (by have t := HT.out (.slice A ff c) (.int .i64 (ff : Nat)); exact ⟨t.os, t.tape, t.output, t.size, t.block⟩))⟩
          case measure => simp [intOf]; omega
      · have e4 : decide (k < nk) = true := decide_eq_true (by omega)
        have hkl : k < keep.length := by have := Hnk.out; omega
        obtain ⟨bk, ok, rfl, hck⟩ := Row.int_at Hkr.out hkl
        have HkN := hid_ (show keepN keep k lo = min (keep[k].toNat) lo by unfold keepN; rw [dif_pos hkl])
        generalize keep[k] = z at *
        obtain ⟨st, hst⟩ : ∃ st, st = ff + min z.toNat lo := ⟨_, rfl⟩
        have hst2 : st ≤ n := by omega
        have HK0 := hid_ (show st = ff + keepN keep k lo by rw [HkN.out, hst])
        have y3 : IntKind.i64.wrap ((ff : Int) + max 0 (min z (lo : Int))) = ((st : Nat) : Int) := by rw [IntWalk.i64_in _ (by omega)]; omega
        have y1 : (0 : Int) ≤ (st : Int) := by omega
        have y2 : (st : Int) ≤ (c : Int) := by omega
        have i5 : (k : Int) < (nk : Int) := by omega
        clear hst hlo
        go_wp2_with fail
        go_quiet (fail)
        go_wp2_with fail
        go_quiet (fail)
        go_wp2_with fail
        go_region
        all_goals
          go_wp2_with fail
          go_roundw
          case rel => exact ⟨k + 1, by omega, by go_num, hid_ (HEnd.out _ st HK0.out rfl (by have t := HT.out (.slice A st c) (.int .i64 (st : Nat)); exact ⟨t.os, t.tape, t.output, t.size, t.block⟩))⟩
          case measure => simp [intOf]; omega
    · obtain rfl : k = L := by omega
      have HSe := hid_ (show RCrSt w1 g Q d keep (filesF d.F).length wr by rw [HLn.out]; exact HS.out)
      have HE := hid_ (rcrash_end Hd.out Hqg.out Hb.out HSe.out)
      obtain ⟨⟨Q1, hdk, hq1⟩, htn⟩ := HS.out
      obtain ⟨fb, cs, V, m1, m2⟩ := hdk.mem
      obtain ⟨z0, z1, z2, z3, zf⟩ := rk_facts m1
      clear hdk hq1 htn m1 m2
      go_wp2_with fail
      go_end0
      exact HE.out
end Dsk
end Go.Proofs.Ytalekhafkgepnaa
