/-
  The program's Merge of two views.
-/
import Derived.Test.YtcmoelphjdehaaaZMapMem
namespace Go.Proofs.Ytcmoelphjdehaaa
set_option linter.unusedSimpArgs false
set_option linter.unusedVariables false
open Go.RowKit Ru
namespace Vw
set_option linter.unusedSimpArgs false
set_option linter.unusedVariables false
abbrev OwnM := memE.Own 82
/-- What Merge answers: a row of its own, and its kind. -/
def MergePostO (w : World) (a b : List MemberD) (e : Ending) (w' : World) : Prop := ∃ A n c r k, e = .returned (.tuple #[.slice A n c, .int .i64 k]) ∧ OwnM w.heap.size w' A n c r ∧ MergeIs a b r k ∧ Below w.heap.size w w'
theorem mergePostO_mk {w w' : World} {a b r : List MemberD} {A : Option Addr} {n c : Nat} {k : Int} (h : OwnM w.heap.size w' A n c r) (hi : MergeIs a b r k) (hb : Below w.heap.size w w') : MergePostO w a b (.returned (.tuple #[.slice A n c, .int .i64 k])) w' := ⟨A, n, c, r, k, rfl, h, hi, hb⟩
theorem mem_new (w : World) (m : MemberD) (T : TypeId) : memE.Row (w.alloc (.cells #[.int .u64 (m.id : Nat), .int .u64 (m.inc : Nat), .int .i64 m.state] T)) (some ⟨w.heap.size, 0, none⟩) 1 1 [m] := Enc.row_new (E := memE) w m _ rfl T
theorem merge_wf {a b mg : List MemberD} (h : IsMerge a b mg) (ha : ∀ m ∈ a, m.Wf) (hb : ∀ m ∈ b, m.Wf) : ∀ m ∈ mg, m.Wf := by
  intro m hm
  rcases merge_mem h hm with h1 | h1
  · exact ha m h1
  · exact hb m h1
theorem best_merged {a b mg : List MemberD} (ha : Rising a) (hb : Rising b) (h : IsMerge a b mg) {k : Nat} (hk : k < mg.length) : bestF (a ++ b) mg[k].id = some mg[k] := by
  rw [bestF_two ha hb, ← h.2]
  exact getF_mem h.1 (List.getElem_mem hk)
set_option maxHeartbeats 4000000 in
theorem merge_bad (A A' : Option Addr) (n n' c c' : Nat) (a b : List MemberD) (w : World) (h1 : MemRow w A n c a) (h2 : MemRow w A' n' c' b) (hw1 : ∀ m ∈ a, m.Wf) (hw2 : ∀ m ∈ b, m.Wf) (hbad : rightV a = false ∨ rightV b = false) :
    Calls Try.prog 84 #[.slice A n c, .slice A' n' c'] w (MergePostO w a b) := by
  have Hr1 := hid_ (vright_any A n c a w h1 hw1)
  have Hr2 := hid_ (fun (W : World) (hb : Below w.heap.size w W) => vright_any A' n' c' b W (h2.below hb) hw2)
  have HI := hid_ (show MergeIs a b [] 6 from .inl ⟨hbad, rfl, rfl⟩)
  clear h1 h2
  cases hr1 : rightV a
  · rw [hr1] at Hr1
    clear hr1 hbad hw1 hw2
    unfold kindP at Hr1
    go_enter Try.func84, Try.ntmps84
    go_wp2_with fail
    refine Calls.mono Hr1.out ?_
    rintro e w1 ⟨rfl, hb⟩
    have Hb := hid_ hb
    clear hb
    go_wp2_with fail
    go_ret2
    exact mergePostO_mk (Enc.Own.none _ _) HI.out Hb.out
  · have hr2 : rightV b = false := by
      rcases hbad with h | h
      · rw [hr1] at h; cases h
      · exact h
    rw [hr1] at Hr1
    rw [hr2] at Hr2
    clear hr1 hr2 hbad hw1 hw2
    unfold kindP at Hr1 Hr2
    go_enter Try.func84, Try.ntmps84
    go_wp2_with fail
    refine Calls.mono Hr1.out ?_
    rintro e w1 ⟨rfl, hb⟩
    have Hb := hid_ hb
    clear hb
    go_wp2_with fail
    refine Calls.mono (Hr2.out _ Hb.out) ?_
    rintro e w2 ⟨rfl, hb⟩
    have Hb2 := hid_ (Hb.out.trans (hb.mono Hb.out.size))
    clear hb
    go_wp2_with fail
    go_ret2
    exact mergePostO_mk (Enc.Own.none _ _) HI.out Hb2.out
set_option maxRecDepth 100000 in
set_option maxHeartbeats 16000000 in
theorem merge_good (A A' : Option Addr) (n n' c c' : Nat) (a b : List MemberD) (w : World) (h1 : MemRow w A n c a) (h2 : MemRow w A' n' c' b) (hw1 : ∀ m ∈ a, m.Wf) (hw2 : ∀ m ∈ b, m.Wf) (hr1 : rightV a = true) (hr2 : rightV b = true) :
    Calls Try.prog 84 #[.slice A n c, .slice A' n' c'] w (MergePostO w a b) := by
  have Hr1 := hid_ (vright_any A n c a w h1 hw1)
  have Hr2 := hid_ (fun (W : World) (hb : Below w.heap.size w W) => vright_any A' n' c' b W (h2.below hb) hw2)
  have ha := right_rising hr1
  have hb := right_rising hr2
  have hmg := put_all ha hb
  have hla : a.length ≤ 16 := rightV_len hr1
  have hlb : b.length ≤ 16 := rightV_len hr2
  have hml := puts_length b a
  generalize b.foldl putM a = mg at *
  have HMW := hid_ (merge_wf hmg hw1 hw2)
  have HRise := hid_ (And.intro ha (And.intro hb hmg))
  have HI := hid_ (fun r k (h : (16 < mg.length ∧ r = [] ∧ k = 4) ∨ (mg.length ≤ 16 ∧ r = mg ∧ k = 0)) => show MergeIs a b r k from .inr ⟨hr1, hr2, mg, hmg, h⟩)
  have HW := hid_ (fun m (hm : m ∈ a ++ b) => show m.Wf from (List.mem_append.1 hm).elim (hw1 m) (hw2 m))
  have HR1 := hid_ (enc_of_memRow h1)
  have HR2 := hid_ (enc_of_memRow h2)
  have hn : n ≤ 16 := by rw [← h1.len]; exact hla
  have hn' : n' ≤ 16 := by rw [← h2.len]; exact hlb
  have hL : (a ++ b).length = n + n' := by rw [List.length_append, h1.len, h2.len]
  have HL := hid_ hL
  have hmg32 : mg.length ≤ 32 := by omega
  rw [hr1] at Hr1
  rw [hr2] at Hr2
  clear h1 h2 hw1 hw2 hr1 hr2 ha hb hmg hla hlb hml hL
  unfold kindP at Hr1 Hr2
  generalize hab : a ++ b = ab at *
  have HAB := hid_ hab
  clear hab
  have hmm := @run_makeMap Try.prog
  go_enter Try.func84, Try.ntmps84
  go_wp2_with fail
  refine Calls.mono Hr1.out ?_
  rintro e w1 ⟨rfl, hb⟩
  have Hb := hid_ hb
  clear hb
  go_wp2_with fail
  refine Calls.mono (Hr2.out _ Hb.out) ?_
  rintro e w2 ⟨rfl, hb⟩
  have Hb2 := hid_ (Hb.out.trans (hb.mono Hb.out.size))
  clear hb Hb
  have hsz2 := Hb2.out.size
  have HBC := hid_ ((Hb2.out.alloc hsz2 (.map #[] 0)).alloc (by simp only [World.size_alloc]; omega) (.cells #[.slice A n c, .slice A' n' c'] 77))
  have HM0 := hid_ ((mapMem_new w2).below ((Below.refl _ _).alloc (Nat.le_refl _) (.cells #[.slice A n c, .slice A' n' c'] 77)))
  have Hcon := hid_ (concat_any (w2.heap.size + 1) A A' n n' c c' a b ((w2.alloc (.map #[] 0)).alloc (.cells #[.slice A n c, .slice A' n' c'] 77)) (HR1.out.below HBC.out) (HR2.out.below HBC.out) (whole_at _ _ _ _ (by simp)) (by omega) (by omega))
  rw [HAB.out] at Hcon
  have hbm : w.heap.size ≤ w2.heap.size := hsz2
  go_wp2_with fail
  refine Calls.mono Hcon.out ?_
  rintro e w3 ⟨A3, c3, rfl, ho, hb⟩
  have HO := hid_ ho.row
  have hle3 := ho.row.le
  have hcap3 := ho.row.cap
  have hmax3 := ho.row.max
  have HOwn := hid_ (show OwnM (w2.heap.size + 2) w3 A3 ab.length c3 ab by have := ho; simp only [World.size_alloc] at this; exact this)
  have HB3 := hid_ (HBC.out.trans (hb.mono HBC.out.size))
  have HM3 := hid_ (HM0.out.below hb)
  have hsz3 : w2.heap.size + 2 ≤ w3.heap.size := by have := hb.size; simpa using this
  clear ho hb HBC HM0 Hcon Hr1 Hr2
  have hlab : ab.length ≤ 32 := by have := HL.out; omega
  go_wp2_with fail
  go_loopw [28] (fun vi wr => ∃ (k : Nat) (D : DataW Value), k ≤ ab.length ∧ vi = .int .i64 (k : Nat) ∧ Hid (MapMem wr w2.heap.size (ab.take k) D) ∧ Hid (OwnM (w2.heap.size + 2) wr A3 ab.length c3 ab) ∧ Hid (Below w.heap.size w wr) ∧ w2.heap.size + 2 ≤ wr.heap.size) (fun vi _ => ab.length - (intOf vi).toNat)
  case atStart => exact ⟨0, .map [], Nat.zero_le _, rfl, HM3, HOwn, HB3, hsz3⟩
  case round =>
    obtain ⟨k, D, hk, rfl, HM, HOk, HB, hszr⟩ := hrel
    have hszw := HB.out.size
    by_cases hlt : k < ab.length
    · obtain ⟨bq, off, rfl, hbl, hc⟩ := HOk.out.row.at_ hlt
      have c0 : wr.cell? ⟨bq, off + k * 3, none⟩ = some (.int .u64 (ab[k].id : Nat)) := (memAt_of hc).c0
      have c1 : wr.cell? ⟨bq, off + k * 3 + 1, none⟩ = some (.int .u64 (ab[k].inc : Nat)) := (memAt_of hc).c1
      have c2 : wr.cell? ⟨bq, off + k * 3 + 2, none⟩ = some (.int .i64 ab[k].state) := (memAt_of hc).c2
      clear hc
      have HTk := hid_ (List.take_succ_eq_append_getElem hlt)
      have hid := (HW.out ab[k] (List.getElem_mem hlt)).id
      have x1 : (k : Int) < (ab.length : Int) := by omega
      have x2 : (0 : Int) ≤ (k : Int) := by omega
      have hklen : (ab.take k).length = k := by rw [List.length_take]; omega
      have HKL := hid_ hklen
      have HK := hid_ hlt
      have hk32 : k < 32 := by omega
      generalize ab[k] = s at *
      obtain ⟨i, ic, st⟩ := s
      simp only at hid c0 c1 c2
      have HM1 := hid_ (HM.out.below ((Below.refl _ _).alloc (Nat.le_refl _) (.cells #[.int .u64 (i : Nat), .int .u64 (ic : Nat), .int .i64 st] 82)))
      have HB1 := hid_ (HB.out.alloc hszw (.cells #[.int .u64 (i : Nat), .int .u64 (ic : Nat), .int .i64 st] 82))
      have hkey := ku_key hid
      rcases hbst : bestF (ab.take k) i with _ | m
      · have hl := HM1.out.look_no hid hbst
        have HM2 := hid_ (HM1.out.below ((Below.refl _ _).alloc (Nat.le_refl _) (.cells #[.int .u64 0, .int .u64 0, .int .i64 0] 82)))
        have HB2 := hid_ (HB1.out.alloc HB1.out.size (.cells #[.int .u64 0, .int .u64 0, .int .i64 0] 82))
        have HO2 := hid_ (HOk.out.later (((Below.refl _ _).alloc (Nat.le_refl _) (.cells #[.int .u64 (i : Nat), .int .u64 (ic : Nat), .int .i64 st] 82)).alloc (by simp) (.cells #[.int .u64 0, .int .u64 0, .int .i64 0] 82)))
        have HBst := hid_ hbst
        obtain ⟨n0, hn0, ho0⟩ := HM2.out.own
        rw [HKL.out] at hn0
        have HOn := hid_ ho0
        have HKey := hid_ hkey
        clear hbst ho0 hkey hklen hlt
        go_wp2_with (at_mapUpdate; refine wpList_mapUpdate_own _ rfl _ _ _ 163 rfl 60 82 keyLawU Try.underlying163 _ w2.heap.size n0 _ rfl HOn.out (by unfold maxLen; omega) _ _ _ rfl rfl HKey.out (.held (memVal ⟨i, ic, st⟩)) [] rfl ?_; intro w6 hm hg; have HX := hid_ (And.intro hm hg); clear hm hg)
        have hs6 := HX.out.2.size
        simp only [World.size_alloc] at hs6
        go_roundw
        case rel => exact ⟨k + 1, D.put (ku i) (.held (memVal ⟨i, ic, st⟩)), by have := HK.out; omega, by go_num, hid_ (by rw [HTk.out]; exact HM2.out.put (s := ⟨i, ic, st⟩) (.inl HBst.out) (by rw [HKL.out]; omega) HX.out.1), hid_ (HO2.out.apart HX.out.2 (fun k e => by cases e; omega)), hid_ (HB2.out.grown HX.out.2 HB2.out.size (fun k e => by cases e; omega)), by omega⟩
        case measure => have := HK.out; simp [intOf]; omega
      · have hl := HM1.out.look_yes hid hbst
        have HM2 := hid_ (HM1.out.below ((Below.refl _ _).alloc (Nat.le_refl _) (.cells #[.int .u64 (m.id : Nat), .int .u64 (m.inc : Nat), .int .i64 m.state] 82)))
        have HB2 := hid_ (HB1.out.alloc HB1.out.size (.cells #[.int .u64 (m.id : Nat), .int .u64 (m.inc : Nat), .int .i64 m.state] 82))
        have HO2 := hid_ (HOk.out.later (((Below.refl _ _).alloc (Nat.le_refl _) (.cells #[.int .u64 (i : Nat), .int .u64 (ic : Nat), .int .i64 st] 82)).alloc (by simp) (.cells #[.int .u64 (m.id : Nat), .int .u64 (m.inc : Nat), .int .i64 m.state] 82)))
        have HBx := hid_ ((whole_new wr 82 #[.int .u64 (i : Nat), .int .u64 (ic : Nat), .int .i64 st]).alloc (.cells #[.int .u64 (m.id : Nat), .int .u64 (m.inc : Nat), .int .i64 m.state] 82))
        have HNew := hid_ (fun W => vnewer_any ⟨i, ic, st⟩ m W)
        have HBst := hid_ hbst
        have HKey := hid_ hkey
        clear hbst hkey hklen hlt
        cases hnw : newerB ⟨i, ic, st⟩ m
        · rw [hnw] at HNew
          have HSk := hid_ (fun (W : World) (h : MapMem W w2.heap.size (ab.take k) D) => h.skip (s := ⟨i, ic, st⟩) HBst.out hnw)
          clear hnw
          go_wp2_with fail
          refine Calls.mono (HNew.out _) ?_
          rintro e w5 ⟨rfl, hb5⟩
          have HM5 := hid_ (HM2.out.below hb5)
          have HB5 := hid_ (HB2.out.trans (hb5.mono HB2.out.size))
          have HO5 := hid_ (HO2.out.later hb5)
          have hs5 := hb5.size
          simp only [World.size_alloc] at hs5
          clear hb5
          go_wp2_with fail
          go_roundw
          case rel => exact ⟨k + 1, D, by have := HK.out; omega, by go_num, hid_ (by rw [HTk.out]; exact HSk.out _ HM5.out), HO5, HB5, by omega⟩
          case measure => have := HK.out; simp [intOf]; omega
        · rw [hnw] at HNew
          have HNw := hid_ hnw
          clear hnw
          go_wp2_with fail
          refine Calls.mono (HNew.out _) ?_
          rintro e w5 ⟨rfl, hb5⟩
          have HM5 := hid_ (HM2.out.below hb5)
          have HB5 := hid_ (HB2.out.trans (hb5.mono HB2.out.size))
          have HO5 := hid_ (HO2.out.later hb5)
          have HBx5 := hid_ (HBx.out.below hb5 HBx.out.lt)
          have hs5 := hb5.size
          simp only [World.size_alloc] at hs5
          have y0 := HBx5.out.cell 0 (.int .u64 (i : Nat)) rfl
          have y1 := HBx5.out.cell 1 (.int .u64 (ic : Nat)) rfl
          have y2 := HBx5.out.cell 2 (.int .i64 st) rfl
          obtain ⟨n0, hn0, ho0⟩ := HM5.out.own
          rw [HKL.out] at hn0
          have HOn := hid_ ho0
          clear hb5 ho0
          go_wp2_with (at_mapUpdate; refine wpList_mapUpdate_own _ rfl _ _ _ 163 rfl 60 82 keyLawU Try.underlying163 _ w2.heap.size n0 _ rfl HOn.out (by unfold maxLen; omega) _ _ _ rfl rfl HKey.out (.held (memVal ⟨i, ic, st⟩)) [] rfl ?_; intro w6 hm hg; have HX := hid_ (And.intro hm hg); clear hm hg)
          have hs6 := HX.out.2.size
          go_roundw
          case rel => exact ⟨k + 1, D.put (ku i) (.held (memVal ⟨i, ic, st⟩)), by have := HK.out; omega, by go_num, hid_ (by rw [HTk.out]; exact HM5.out.put (s := ⟨i, ic, st⟩) (.inr ⟨m, HBst.out, HNw.out⟩) (by rw [HKL.out]; omega) HX.out.1), hid_ (HO5.out.apart HX.out.2 (fun k e => by cases e; omega)), hid_ (HB5.out.grown HX.out.2 HB5.out.size (fun k e => by cases e; omega)), by omega⟩
          case measure => have := HK.out; simp [intOf]; omega
    · obtain rfl : k = ab.length := by omega
      have HMe := hid_ (show MapMem wr w2.heap.size (a ++ b) D by have := HM.out; rw [List.take_length, ← HAB.out] at this; exact this)
      obtain ⟨n0, hn0, ho0⟩ := HMe.out.own
      have hAK := keys_merged HMe.out HRise.out.1 HRise.out.2.1 HRise.out.2.2
      have hsz := allKeys_len ho0 hAK
      rw [List.length_map] at hsz
      have HAK := hid_ hAK
      have HOn := hid_ ho0
      have HSN := hid_ (fun ss (h : AllKeys D ss) => show ss.length ≤ 1000000 by rw [allKeys_len ho0 h, ← hsz]; omega)
      have hsz' : Maps.size D = mg.length := hsz.symm
      have HSZ := hid_ hsz'
      clear hAK ho0 hsz hlt
      by_cases hbig : 16 < mg.length
      · have HI2 := hid_ (HI.out [] 4 (.inl ⟨hbig, rfl, rfl⟩))
        have e1 : decide ((mg.length : Int) > 16) = true := decide_eq_true (by omega)
        have e2 : decide ((16 : Int) < (mg.length : Int)) = true := decide_eq_true (by omega)
        have e3 : decide (16 < mg.length) = true := decide_eq_true hbig
        clear hbig
        go_wp2_with (at_len; refine wpList_len_own _ rfl _ 163 rfl 60 82 Try.underlying163 _ w2.heap.size n0 _ rfl HOn.out ?_)
        go_ret2
        exact mergePostO_mk (Enc.Own.none _ _) HI2.out HB.out
      · have HI2 := hid_ (HI.out mg 0 (.inr ⟨by omega, rfl, rfl⟩))
        have e1 : decide ((mg.length : Int) > 16) = false := decide_eq_false (by omega)
        have e2 : decide ((16 : Int) < (mg.length : Int)) = false := decide_eq_false (by omega)
        have e3 : decide (16 < mg.length) = false := decide_eq_false hbig
        have hl16 : mg.length ≤ 16 := by omega
        clear hbig
        go_wp2_with (at_len; refine wpList_len_own _ rfl _ 163 rfl 60 82 Try.underlying163 _ w2.heap.size n0 _ rfl HOn.out ?_)
        have HM4 := hid_ (HMe.out.below ((Below.refl _ _).alloc (Nat.le_refl _) (.cells #[.map (some w2.heap.size)] 163)))
        have HB4 := hid_ (HB.out.alloc hszw (.cells #[.map (some w2.heap.size)] 163))
        have Hsor := hid_ (sortedU_any 144 #[.pointer (some ⟨wr.heap.size, 0, none⟩)] (enters_of Try.func144 (by kernel_rfl) rfl) (AllKeys D) (Maps.size D) (by rw [HSZ.out]; omega) HSN.out (wr.alloc (.cells #[.map (some w2.heap.size)] 163))
          (keysU_gives 2 (by omega) wr.heap.size w2.heap.size n0 D _ (by simp) (by simp) (ownsMap_below HOn.out ((Below.refl _ _).alloc (Nat.le_refl _) _))))
        refine Calls.mono (keysU_any (some w2.heap.size) wr) ?_
        rintro e w4 ⟨rfl, rfl⟩
        go_wp2_with fail
        refine Calls.mono Hsor.out ?_
        rintro e w5 ⟨A5, n5, c5, ks, ss, rfl, hS, hp, hpw, hrow, hb5⟩
        have hks := sorted_merged HRise.out.2.2.1 HAK.out hS hp hpw
        subst hks
        obtain rfl : n5 = mg.length := by rw [← hrow.len, List.length_map]
        have HM5 := hid_ (HM4.out.below hb5)
        have HB5 := hid_ (HB4.out.trans (hb5.mono HB4.out.size))
        have HRow := hid_ hrow
        have hle5 := hrow.le
        have hcap5 := hrow.cap
        have hmax5 := hrow.max
        have hw5 : w2.heap.size < w5.heap.size := HM5.out.lt
        clear hS hp hpw hrow hb5 hsz' Hsor
        go_wp2_with fail
        go_loopw [11, 58] (fun vo vi wq => ∃ (k : Nat) (A6 : Option Addr) (c6 : Nat), k ≤ mg.length ∧ vi = .int .i64 (k : Nat) ∧ vo = .slice A6 k c6 ∧ OwnM w5.heap.size wq A6 k c6 (mg.take k) ∧ Below w5.heap.size w5 wq) (fun _ vi _ => mg.length - (intOf vi).toNat)
        case atStart => exact ⟨0, none, 0, Nat.zero_le _, rfl, rfl, Enc.Own.none _ _, Below.refl _ _⟩
        case round =>
          obtain ⟨k, A6, c6, hk, rfl, rfl, ho6, hb6⟩ := hrel
          have HO6 := hid_ ho6
          have HB6 := hid_ hb6
          have hs6 := hb6.size
          clear ho6 hb6
          by_cases hlt : k < mg.length
          · obtain ⟨bq, off, rfl, hbl, hc⟩ := (HRow.out.below HB6.out).at_ (k := k) (by rw [List.length_map]; exact hlt)
            have c0 : wr.cell? ⟨bq, off + k, none⟩ = some (.int .u64 (mg[k].id : Nat)) := by
              have := hc 0 (.int .u64 (mg[k].id : Nat)) (by rw [List.getElem_map]; rfl)
              rwa [show off + k * Rg.numE.K + 0 = off + k by show off + k * 1 + 0 = _; omega] at this
            clear hc
            have hfit := (HMW.out mg[k] (List.getElem_mem hlt)).id
            have hbest := best_merged HRise.out.1 HRise.out.2.1 HRise.out.2.2 hlt
            have hl := (HM5.out.below HB6.out).look hfit hbest
            have HTk := hid_ (List.take_succ_eq_append_getElem hlt).symm
            have x1 : (k : Int) < (mg.length : Int) := by omega
            have x2 : (0 : Int) ≤ (k : Int) := by omega
            generalize mg[k] = m at *
            obtain ⟨i, ic, st⟩ := m
            simp only at c0 hl
            have HLit := hid_ (mem_new wr ⟨i, ic, st⟩ 82)
            have HOL := hid_ (HO6.out.later ((Below.refl _ _).alloc (Nat.le_refl _) (.cells #[.int .u64 (i : Nat), .int .u64 (ic : Nat), .int .i64 st] 82)))
            have HBL := hid_ (HB6.out.alloc hs6 (.cells #[.int .u64 (i : Nat), .int .u64 (ic : Nat), .int .i64 st] 82))
            clear hbest hfit
            go_wp2_with (at_builtin; refine Enc.wpList_rows (E := memE) (e := 82) rfl (.tmp 62) (.tmp 66) 77 rfl _ 24 Try.underlying77 info_mem rfl w5.heap.size A6 k c6 _ rfl HOL.out (some ⟨wr.heap.size, 0, none⟩) 1 1 [⟨i, ic, st⟩] rfl HLit.out (k + 1) _ rfl HTk.out (by omega) (by omega) HBL.out.size ?_; intro A7 c7 w7 ho7 hb7 _ _; have HX := hid_ (And.intro ho7 (HBL.out.trans hb7)); clear ho7 hb7)
            go_roundw
            case rel => exact ⟨k + 1, A7, c7, by omega, by go_num, rfl, HX.out.1, HX.out.2⟩
            case measure => simp [intOf]; omega
          · obtain rfl : k = mg.length := by omega
            have HF := hid_ (show OwnM w.heap.size wr A6 mg.length c6 mg by have := HO6.out.mono HB5.out.size; rw [List.take_length] at this; exact this)
            have HBF := hid_ (HB5.out.trans (HB6.out.mono HB5.out.size))
            clear hlt
            go_wp2_with fail
            go_ret2
            exact mergePostO_mk HF.out HI2.out HBF.out
theorem merge_own (A A' : Option Addr) (n n' c c' : Nat) (a b : List MemberD) (w : World) (h1 : MemRow w A n c a) (h2 : MemRow w A' n' c' b) (hw1 : ∀ m ∈ a, m.Wf) (hw2 : ∀ m ∈ b, m.Wf) :
    Calls Try.prog 84 #[.slice A n c, .slice A' n' c'] w (MergePostO w a b) := by
  cases hr1 : rightV a
  · exact merge_bad A A' n n' c c' a b w h1 h2 hw1 hw2 (.inl hr1)
  · cases hr2 : rightV b
    · exact merge_bad A A' n n' c c' a b w h1 h2 hw1 hw2 (.inr hr2)
    · exact merge_good A A' n n' c c' a b w h1 h2 hw1 hw2 hr1 hr2
theorem merge_any (A A' : Option Addr) (n n' c c' : Nat) (a b : List MemberD) (w : World) (h1 : MemRow w A n c a) (h2 : MemRow w A' n' c' b) (hw1 : ∀ m ∈ a, m.Wf) (hw2 : ∀ m ∈ b, m.Wf) :
    Calls Try.prog 84 #[.slice A n c, .slice A' n' c'] w (MergePost w a b) := by
  refine Calls.mono (merge_own A A' n n' c c' a b w h1 h2 hw1 hw2) ?_
  rintro e w' ⟨A2, n2, c2, r, k, rfl, ho, hi, hb⟩
  exact mergePost_mk (memRow_of_enc ho.row) hi hb
end Vw
end Go.Proofs.Ytcmoelphjdehaaa
