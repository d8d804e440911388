/-
  Views: Live, of the program and of the document.
-/
import Derived.Test.YteoeghljoaiiiaaZViewSame
namespace Go.Proofs.Yteoeghljoaiiiaa
set_option linter.unusedSimpArgs false
set_option linter.unusedVariables false
open Go.RowKit Ru
namespace Vw
set_option linter.unusedSimpArgs false
set_option linter.unusedVariables false
abbrev OwnN := Rg.numE.Own 60
theorem info_u64n : (Try.prog.info? 60).map (fun i => (i.zero, i.size, i.bytes)) = some (some (.int .u64 0), 1, 8) := by kernel_rfl
theorem num_new_at (W : World) (g x : Nat) (T : TypeId) (h : g = W.heap.size) : Rg.numE.Row (W.alloc (.cells #[.int .u64 (x : Nat)] T)) (some ⟨g, 0, none⟩) 1 1 [x] := by
  subst h
  exact Enc.row_new (E := Rg.numE) W x _ rfl T
def liveT (ms : List MemberD) : List Nat := (ms.filter (fun m => decide (m.state ≠ 2))).map MemberD.id
theorem liveT_snoc (l : List MemberD) (s : MemberD) : liveT (l ++ [s]) = if s.state = 2 then liveT l else liveT l ++ [s.id] := by
  unfold liveT
  by_cases h : s.state = 2
  · rw [if_pos h]; simp [h]
  · rw [if_neg h]; simp [h]
/-- Who lives in a view. -/
def liveV (ms : List MemberD) : List Nat := if rightV ms = true then liveT ms else []
theorem rightV_len {ms : List MemberD} (h : rightV ms = true) : ms.length ≤ 16 := by
  unfold rightV at h
  rw [Bool.and_eq_true] at h
  exact of_decide_eq_true h.1
def LivePost (w : World) (l : List Nat) (e : Ending) (w' : World) : Prop := ∃ A n c, e = .returned (.slice A n c) ∧ Rg.numE.Row w' A n c l ∧ Below w.heap.size w w'
theorem livePost_mk {w w' : World} {l : List Nat} {A : Option Addr} {n c : Nat} (h : Rg.numE.Row w' A n c l) (hb : Below w.heap.size w w') : LivePost w l (.returned (.slice A n c)) w' := ⟨A, n, c, rfl, h, hb⟩
set_option maxRecDepth 20000 in
set_option maxHeartbeats 8000000 in
theorem vlive_any (A : Option Addr) (n c : Nat) (ms : List MemberD) (w : World) (h : MemRow w A n c ms) (hw : ∀ m ∈ ms, m.Wf) :
    Calls Try.prog 59 #[.slice A n c] w (LivePost w (liveV ms)) := by
  obtain rfl := h.len
  have hle := Nat.le_trans h.cap h.max
  have Hs := hid_ h
  have Hr := hid_ (vright_any A ms.length c ms w h hw)
  have HL := hid_ (show liveV ms = if rightV ms = true then liveT ms else [] from rfl)
  have Hlen := hid_ (fun hr => rightV_len (ms := ms) hr)
  generalize liveV ms = lv at *
  clear h hw
  cases hr : rightV ms
  · rw [hr] at Hr HL
    have HE := hid_ (show lv = [] from HL.out)
    clear hr HL Hlen
    go_enter Try.func59, Try.ntmps59
    go_wp2_with fail
    refine Calls.mono Hr.out ?_
    rintro e w1 ⟨rfl, hb⟩
    have Hb := hid_ hb
    clear hb
    go_wp2_with fail
    go_ret
    exact livePost_mk (by rw [HE.out]; exact Enc.Row.none _) Hb.out
  · have hl16 := Hlen.out hr
    rw [hr] at Hr HL
    have HE := hid_ (show lv = liveT ms from HL.out)
    clear hr HL Hlen
    go_enter Try.func59, Try.ntmps59
    go_wp2_with fail
    refine Calls.mono Hr.out ?_
    rintro e w1 ⟨rfl, hb⟩
    have Hb := hid_ hb
    clear hb
    go_wp2_with fail
    go_loopw [3, 11] (fun vo vi wr => ∃ (k m' : Nat) (A' : Option Addr) (c' : Nat), k ≤ ms.length ∧ vi = .int .i64 (k : Nat) ∧ vo = .slice A' m' c' ∧ m' ≤ k ∧ Hid (OwnN w.heap.size wr A' m' c' (liveT (ms.take k))) ∧ Hid (Below w.heap.size w wr)) (fun _ vi _ => ms.length - (intOf vi).toNat)
    case atStart => exact ⟨0, 0, none, 0, Nat.zero_le _, rfl, rfl, Nat.le_refl _, hid_ (Enc.Own.none _ _), Hb⟩
    case round =>
      obtain ⟨k, m', A', c', hk, rfl, rfl, hmk, HO, HB⟩ := hrel
      have hsz := HB.out.size
      by_cases hlt : k < ms.length
      · obtain ⟨b, off, rfl, hc⟩ := (Hs.out.below HB.out).at_ hlt
        obtain ⟨c0, c1, c2⟩ := hc
        have hbl := lt_of_cell c0
        have hbl : b < wr.heap.size := hbl
        have x1 : (k : Int) < (ms.length : Int) := by omega
        have x2 : (0 : Int) ≤ (k : Int) := by omega
        have HT := hid_ (show liveT (ms.take (k + 1)) = if ms[k].state = 2 then liveT (ms.take k) else liveT (ms.take k) ++ [ms[k].id] by rw [List.take_succ_eq_append_getElem hlt]; exact liveT_snoc _ _)
        have HK := hid_ hlt
        generalize ms[k] = s at *
        have HO1 := hid_ (HO.out.later ((Below.refl _ _).alloc (Nat.le_refl _) (.cells #[.int .u64 (s.id : Nat), .int .u64 (s.inc : Nat), .int .i64 s.state] 79)))
        have HB1 := hid_ (HB.out.alloc HB.out.size (.cells #[.int .u64 (s.id : Nat), .int .u64 (s.inc : Nat), .int .i64 s.state] 79))
        by_cases hst : s.state = 2
        · have H21 := hid_ (show liveT (ms.take (k + 1)) = liveT (ms.take k) by rw [HT.out, if_pos hst])
          have e1 : (s.state != 2) = false := by rw [hst]; rfl
          have HS := hid_ hst
          clear hlt hst
          go_wp2_with fail
          go_roundw
          case rel => exact ⟨k + 1, m', A', c', by have := HK.out; omega, by go_num, rfl, by omega, hid_ (by rw [H21.out]; exact HO1.out), HB1⟩
          case measure => have := HK.out; simp [intOf]; omega
        · have H21 := hid_ (show liveT (ms.take k) ++ [s.id] = liveT (ms.take (k + 1)) by rw [HT.out, if_neg hst])
          have e1 : (s.state != 2) = true := by rw [bne_iff_ne]; exact hst
          have HLit := hid_ (num_new_at (wr.alloc (.cells #[.int .u64 (s.id : Nat), .int .u64 (s.inc : Nat), .int .i64 s.state] 79)) (wr.heap.size + 1) s.id 60 (by simp))
          have HOL := hid_ (HO1.out.later ((Below.refl _ _).alloc (Nat.le_refl _) (.cells #[.int .u64 (s.id : Nat)] 60)))
          have HBL := hid_ (HB1.out.alloc HB1.out.size (.cells #[.int .u64 (s.id : Nat)] 60))
          clear hlt hst
          go_wp2_with (at_builtin; refine Enc.wpList_rows (E := Rg.numE) (e := 60) rfl (.tmp 18) (.tmp 21) 52 rfl _ 8 Try.underlying52 info_u64n rfl w.heap.size A' m' c' _ rfl HOL.out (some ⟨(wr.heap.size + 1), 0, none⟩) 1 1 [s.id] rfl HLit.out (m' + 1) _ rfl H21.out (by omega) (by omega) (HBL.out.size) ?_; intro A3 c3 w3 ho3 hb3 _ _; have HX := hid_ (And.intro ho3 (HBL.out.trans hb3)); clear ho3 hb3)
          first
            | refine ⟨⟨_, _, _, ⟨k + 1, by have := HK.out; omega, by go_num, m' + 1, A3, c3, rfl, by omega, hid_ HX.out.1, hid_ HX.out.2⟩, rfl, rfl, rfl⟩, ?_⟩
            | refine ⟨⟨k + 1, by have := HK.out; omega, by omega, m' + 1, A3, c3, ⟨rfl, rfl, rfl⟩, by omega, hid_ HX.out.1, hid_ HX.out.2⟩, ?_⟩
            | fail
          have := HK.out
          simp [intOf]
          omega
      · obtain rfl : k = ms.length := by omega
        have Hrow := hid_ (show Rg.numE.Row wr A' m' c' lv by have := HO.out.row; rw [List.take_length, ← HE.out] at this; exact this)
        go_wp2_with fail
        go_ret
        exact livePost_mk Hrow.out HB.out
set_option maxRecDepth 20000 in
set_option maxHeartbeats 8000000 in
theorem rlive_any (A : Option Addr) (n c : Nat) (ms : List MemberD) (w : World) (h : MemRow w A n c ms) :
    Calls Try.prog 60 #[.slice A n c] w (LivePost w (liveV ms)) := by
  obtain rfl := h.len
  have hle := Nat.le_trans h.cap h.max
  have Hs := hid_ h
  have Hr := hid_ (rright_any A ms.length c ms w h)
  have HL := hid_ (show liveV ms = if rightV ms = true then liveT ms else [] from rfl)
  have Hlen := hid_ (fun hr => rightV_len (ms := ms) hr)
  generalize liveV ms = lv at *
  clear h
  cases hr : rightV ms
  · rw [hr] at Hr HL
    have HE := hid_ (show lv = [] from HL.out)
    clear hr HL Hlen
    go_enter Try.func60, Try.ntmps60
    go_wp2_with fail
    refine Calls.mono Hr.out ?_
    rintro e w1 ⟨rfl, hb⟩
    have Hb := hid_ hb
    clear hb
    go_wp2_with fail
    go_ret
    exact livePost_mk (by rw [HE.out]; exact Enc.Row.none _) Hb.out
  · have hl16 := Hlen.out hr
    rw [hr] at Hr HL
    have HE := hid_ (show lv = liveT ms from HL.out)
    clear hr HL Hlen
    go_enter Try.func60, Try.ntmps60
    go_wp2_with fail
    refine Calls.mono Hr.out ?_
    rintro e w1 ⟨rfl, hb⟩
    have Hb := hid_ hb
    clear hb
    go_wp2_with fail
    go_loopw [3, 4] (fun vo vi wr => ∃ (k m' : Nat) (A' : Option Addr) (c' : Nat), k ≤ ms.length ∧ vi = .int .i64 (k : Nat) ∧ vo = .slice A' m' c' ∧ m' ≤ k ∧ Hid (OwnN w.heap.size wr A' m' c' (liveT (ms.take k))) ∧ Hid (Below w.heap.size w wr)) (fun _ vi _ => ms.length - (intOf vi).toNat)
    case atStart => exact ⟨0, 0, none, 0, Nat.zero_le _, rfl, rfl, Nat.le_refl _, hid_ (Enc.Own.none _ _), Hb⟩
    case round =>
      obtain ⟨k, m', A', c', hk, rfl, rfl, hmk, HO, HB⟩ := hrel
      have hsz := HB.out.size
      by_cases hlt : k < ms.length
      · obtain ⟨b, off, rfl, hc⟩ := (Hs.out.below HB.out).at_ hlt
        obtain ⟨c0, c1, c2⟩ := hc
        have hbl := lt_of_cell c0
        have hbl : b < wr.heap.size := hbl
        have x1 : (k : Int) < (ms.length : Int) := by omega
        have x2 : (0 : Int) ≤ (k : Int) := by omega
        have HT := hid_ (show liveT (ms.take (k + 1)) = if ms[k].state = 2 then liveT (ms.take k) else liveT (ms.take k) ++ [ms[k].id] by rw [List.take_succ_eq_append_getElem hlt]; exact liveT_snoc _ _)
        have HK := hid_ hlt
        generalize ms[k] = s at *
        have HO1 := HO
        have HB1 := HB
        by_cases hst : s.state = 2
        · have H26 := hid_ (show liveT (ms.take (k + 1)) = liveT (ms.take k) by rw [HT.out, if_pos hst])
          have e1 : (s.state != 2) = false := by rw [hst]; rfl
          have HS := hid_ hst
          clear hlt hst
          go_wp2_with fail
          go_roundw
          case rel => exact ⟨k + 1, m', A', c', by have := HK.out; omega, by go_num, rfl, by omega, hid_ (by rw [H26.out]; exact HO1.out), HB1⟩
          case measure => have := HK.out; simp [intOf]; omega
        · have H26 := hid_ (show liveT (ms.take k) ++ [s.id] = liveT (ms.take (k + 1)) by rw [HT.out, if_neg hst])
          have e1 : (s.state != 2) = true := by rw [bne_iff_ne]; exact hst
          have HLit := hid_ (num_new_at wr wr.heap.size s.id 60 (by simp))
          have HOL := hid_ (HO1.out.later ((Below.refl _ _).alloc (Nat.le_refl _) (.cells #[.int .u64 (s.id : Nat)] 60)))
          have HBL := hid_ (HB1.out.alloc HB1.out.size (.cells #[.int .u64 (s.id : Nat)] 60))
          clear hlt hst
          go_wp2_with (at_builtin; refine Enc.wpList_rows (E := Rg.numE) (e := 60) rfl (.tmp 20) (.tmp 26) 52 rfl _ 8 Try.underlying52 info_u64n rfl w.heap.size A' m' c' _ rfl HOL.out (some ⟨wr.heap.size, 0, none⟩) 1 1 [s.id] rfl HLit.out (m' + 1) _ rfl H26.out (by omega) (by omega) (HBL.out.size) ?_; intro A3 c3 w3 ho3 hb3 _ _; have HX := hid_ (And.intro ho3 (HBL.out.trans hb3)); clear ho3 hb3)
          first
            | refine ⟨⟨_, _, _, ⟨k + 1, by have := HK.out; omega, by go_num, m' + 1, A3, c3, rfl, by omega, hid_ HX.out.1, hid_ HX.out.2⟩, rfl, rfl, rfl⟩, ?_⟩
            | refine ⟨⟨k + 1, by have := HK.out; omega, by omega, m' + 1, A3, c3, ⟨rfl, rfl, rfl⟩, by omega, hid_ HX.out.1, hid_ HX.out.2⟩, ?_⟩
            | fail
          have := HK.out
          simp [intOf]
          omega
      · obtain rfl : k = ms.length := by omega
        have Hrow := hid_ (show Rg.numE.Row wr A' m' c' lv by have := HO.out.row; rw [List.take_length, ← HE.out] at this; exact this)
        go_wp2_with fail
        go_ret
        exact livePost_mk Hrow.out HB.out
end Vw
end Go.Proofs.Yteoeghljoaiiiaa
