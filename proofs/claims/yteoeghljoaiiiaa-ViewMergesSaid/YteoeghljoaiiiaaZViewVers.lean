/-
  Views: Version, of the program and of the document.
-/
import Derived.Test.YteoeghljoaiiiaaZShBits
import Derived.Test.YteoeghljoaiiiaaZViewLive
import Derived.Laws.Externs
import Derived.IntWalk
namespace Go.Proofs.Yteoeghljoaiiiaa
set_option linter.unusedSimpArgs false
set_option linter.unusedVariables false
open Go.RowKit Ru
namespace Vw
set_option linter.unusedSimpArgs false
set_option linter.unusedVariables false
theorem add64_run (x y : Nat) (w : World) : (callFunc 97 #[.int .u64 (x : Nat), .int .u64 (y : Nat), .int .u64 0]).run Try.prog w =
    .ok (.value (.tuple #[.int .u64 (((x + y) % 18446744073709551616 : Nat) : Int), .int .u64 (((x + y) / 18446744073709551616 : Nat) : Int)])) w := by
  rw [run_callFunc_extern Try.func97 (by kernel_rfl) (by kernel_rfl) (by kernel_rfl) (e := add64Entry) (by kernel_rfl), run_add64 x y 0 (by omega) (by omega) (by omega) (by omega)]
  simp only [Result.andThen]
  congr 5 <;> omega
theorem add64_parts (x y : Nat) : ∃ l c : Nat, l + c * 18446744073709551616 = x + y ∧ l < 18446744073709551616 ∧
    ∀ w, (callFunc 97 #[.int .u64 (x : Nat), .int .u64 (y : Nat), .int .u64 0]).run Try.prog w = .ok (.value (.tuple #[.int .u64 (l : Nat), .int .u64 (c : Nat)])) w :=
  ⟨(x + y) % 18446744073709551616, (x + y) / 18446744073709551616, by omega, by omega, fun w => add64_run x y w⟩
theorem mul64_parts (y : Nat) (hy : y < 18446744073709551616) : ∃ a s : Nat, s + a * 18446744073709551616 = 3 * y ∧ s < 18446744073709551616 ∧
    ∀ w, Calls Try.prog 96 #[.int .u64 3, .int .u64 (y : Nat)] w fun e w' => e = .returned (.tuple #[.int .u64 (a : Nat), .int .u64 (s : Nat)]) ∧ w = w' := by
  refine ⟨3 * y / 18446744073709551616, 3 * y % 18446744073709551616, by omega, by omega, fun w => ?_⟩
  refine Calls.mono (Any.bits_Mul64 Sh.mul64 3 y (by omega) hy w) ?_
  rintro e w' ⟨rfl, rfl⟩
  exact ⟨rfl, rfl⟩
/-- A view's version and what is said of it. -/
def versV (ms : List MemberD) : Nat × Int := if rightV ms = true then (if versF ms < 18446744073709551616 then (versF ms, 0) else (0, 12)) else (0, 6)
theorem right_ok {ms : List MemberD} (h : rightV ms = true) : ∀ m ∈ ms, okMem m = true := by
  unfold rightV membersF at h
  rw [Bool.and_eq_true, Bool.and_eq_true] at h
  exact fun m hm => List.all_eq_true.1 h.2.1 m hm
theorem ok_parts {m : MemberD} (h : okMem m = true) : ∃ st : Nat, m.state = (st : Int) ∧ st ≤ 2 ∧ 1 ≤ m.inc ∧ weight m = 3 * (m.inc - 1) + st + 1 := by
  unfold okMem at h
  simp only [Bool.and_eq_true, decide_eq_true_eq] at h
  refine ⟨m.state.toNat, by omega, by omega, by omega, rfl⟩
/-- A sum in two words. -/
def Two (hi lo v : Nat) : Prop := lo < 18446744073709551616 ∧ hi * 18446744073709551616 + lo = v
theorem two_arith {M hi lo a sp k1 l1 k2 l2 y st v v' : Nat} (g2 : hi * M + lo = v) (h1 : sp + a * M = 3 * y) (h2 : l1 + k1 * M = lo + sp) (h3 : l2 + k2 * M = l1 + (st + 1))
    (h5 : v' = v + (3 * (y + 1 - 1) + st + 1)) : (hi + (a + k1) + k2) * M + l2 = v' := by
  rw [Nat.add_sub_cancel] at h5
  rw [Nat.add_mul, Nat.add_mul, Nat.add_mul]
  generalize hi * M = p at *
  generalize a * M = q at *
  generalize k1 * M = r at *
  generalize k2 * M = s at *
  omega
theorem two_step {hi lo a sp k1 l1 k2 l2 y st v v' : Nat} (h : Two hi lo v) (h1 : sp + a * 18446744073709551616 = 3 * y) (h2 : l1 + k1 * 18446744073709551616 = lo + sp) (h3 : l2 + k2 * 18446744073709551616 = l1 + (st + 1))
    (h4 : l2 < 18446744073709551616) (h5 : v' = v + (3 * (y + 1 - 1) + st + 1)) : Two (hi + (a + k1) + k2) l2 v' := by
  exact ⟨h4, two_arith h.2 h1 h2 h3 h5⟩
theorem two_zero {ms : List MemberD} : Two 0 0 (versF (ms.take 0)) := by
  unfold Two
  constructor
  · omega
  · rw [Nat.zero_mul, Nat.zero_add, List.take_zero]
    rfl
theorem two_low {lo v : Nat} (h : Two 0 lo v) : v < 18446744073709551616 ∧ v = lo := by
  obtain ⟨g1, g2⟩ := h
  omega
theorem two_high {hi lo v : Nat} (h : Two hi lo v) (h1 : 0 < hi) : ¬ v < 18446744073709551616 := by
  obtain ⟨g1, g2⟩ := h
  omega
theorem mul_small {y sp a : Nat} (hy : y < 18446744073709551615) (h : sp + a * 18446744073709551616 = 3 * y) : a ≤ 2 := by omega
theorem add_small {x y l k : Nat} (hx : x < 18446744073709551616) (hy : y < 18446744073709551616) (h : l + k * 18446744073709551616 = x + y) : k ≤ 1 := by omega
def VersPost (w : World) (r : Nat × Int) (e : Ending) (w' : World) : Prop := e = .returned (.tuple #[.int .u64 (r.1 : Nat), .int .i64 r.2]) ∧ Below w.heap.size w w'
theorem versPost_mk {w w' : World} {r : Nat × Int} {x : Nat} {z : Int} (h : r = (x, z)) (hb : Below w.heap.size w w') : VersPost w r (.returned (.tuple #[.int .u64 (x : Nat), .int .i64 z])) w' := by subst h; exact ⟨rfl, hb⟩
theorem versPost_zero {w w' : World} {r : Nat × Int} {z : Int} (h : r = (0, z)) (hb : Below w.heap.size w w') : VersPost w r (.returned (.tuple #[.int .u64 0, .int .i64 z])) w' := by subst h; exact ⟨rfl, hb⟩
set_option maxRecDepth 100000 in
set_option maxHeartbeats 8000000 in
theorem vvers_any (A : Option Addr) (n c : Nat) (ms : List MemberD) (w : World) (h : MemRow w A n c ms) (hw : ∀ m ∈ ms, m.Wf) :
    Calls Try.prog 56 #[.slice A n c] w (VersPost w (versV ms)) := by
  obtain rfl := h.len
  have hle := Nat.le_trans h.cap h.max
  have Hs := hid_ h
  have Hr := hid_ (vright_any A ms.length c ms w h hw)
  have HL := hid_ (show versV ms = if rightV ms = true then (if versF ms < 18446744073709551616 then (versF ms, 0) else (0, 12)) else (0, 6) from rfl)
  have Hlen := hid_ (fun hr => rightV_len (ms := ms) hr)
  have Hok := hid_ (fun hr => right_ok (ms := ms) hr)
  have Hwf := hid_ hw
  generalize versV ms = lv at *
  clear h hw
  cases hr : rightV ms
  · rw [hr] at Hr HL
    have HE := hid_ (show lv = (0, 6) from HL.out)
    clear hr HL Hlen Hok
    go_enter Try.func56, Try.ntmps56
    go_wp2_with fail
    refine Calls.mono Hr.out ?_
    rintro e w1 ⟨rfl, hb⟩
    have Hb := hid_ hb
    clear hb
    unfold kindP
    go_wp2_with fail
    go_ret2
    exact versPost_zero HE.out Hb.out
  · have hl16 := Hlen.out hr
    have Hok2 := hid_ (Hok.out hr)
    rw [hr] at Hr HL
    have HE := hid_ (show lv = if versF ms < 18446744073709551616 then (versF ms, 0) else (0, 12) from HL.out)
    clear hr HL Hlen Hok
    go_enter Try.func56, Try.ntmps56
    go_wp2_with fail
    refine Calls.mono Hr.out ?_
    rintro e w1 ⟨rfl, hb⟩
    have Hb := hid_ hb
    clear hb
    unfold kindP
    go_wp2_with fail
    go_loopw [5, 6, 19] (fun vh vl vi wr => ∃ (k hi lo : Nat), k ≤ ms.length ∧ vi = .int .i64 (k : Nat) ∧ vh = .int .u64 (hi : Nat) ∧ vl = .int .u64 (lo : Nat) ∧ hi ≤ 4 * k ∧ Hid (Two hi lo (versF (ms.take k))) ∧ Hid (Below w.heap.size w wr)) (fun _ _ vi _ => ms.length - (intOf vi).toNat)
    case atStart => exact ⟨0, 0, 0, Nat.zero_le _, rfl, rfl, rfl, Nat.le_refl _, hid_ two_zero, Hb⟩
    case round =>
      obtain ⟨k, hi, lo, hk, rfl, rfl, rfl, hhi, HV, HB⟩ := hrel
      have hsz := HB.out.size
      by_cases hlt : k < ms.length
      · obtain ⟨b, off, rfl, hc⟩ := (Hs.out.below HB.out).at_ hlt
        obtain ⟨c0, c1, c2⟩ := hc
        have hbl := lt_of_cell c0
        have hbl : b < wr.heap.size := hbl
        have x1 : (k : Int) < (ms.length : Int) := by omega
        have x2 : (0 : Int) ≤ (k : Int) := by omega
        have HT := hid_ (versF_take hlt)
        have hwi := (Hwf.out ms[k] (List.getElem_mem hlt)).inc
        have hokk := ok_parts (Hok2.out ms[k] (List.getElem_mem hlt))
        have HK := hid_ hlt
        generalize ms[k] = s at *
        obtain ⟨st, hst, hst2, hinc, hwt⟩ := hokk
        rw [hwt] at HT
        rw [hst] at c2
        obtain ⟨y, hy⟩ : ∃ y : Nat, s.inc = y + 1 := ⟨s.inc - 1, by omega⟩
        rw [hy] at HT c1
        obtain ⟨a, sp, hm1, hm2, hmul⟩ := mul64_parts y (by omega)
        obtain ⟨l1, k1, ha1, ha2, hadd1⟩ := add64_parts lo sp
        obtain ⟨l2, k2, hb1, hb2, hadd2⟩ := add64_parts l1 (st + 1)
        have HMul := hid_ hmul
        have hab := mul_small (by omega) hm1
        have hk1 := add_small HV.out.1 hm2 ha1
        have hk2 := add_small ha2 (show st + 1 < 18446744073709551616 by omega) hb1
        have HN := hid_ (two_step HV.out hm1 ha1 hb1 hb2 HT.out)
        have HB1 := hid_ (HB.out.alloc HB.out.size (.cells #[.int .u64 (s.id : Nat), .int .u64 ((y + 1 : Nat) : Int), .int .i64 (st : Nat)] 79))
        have e1 : (((y + 1 : Nat) : Int) - 1) = (y : Nat) := by omega
        have e2 : ((st + 1 : Nat) : Int) = (st : Int) + 1 := by omega
        rw [e2] at hadd2
        have hyl : y < 18446744073709551615 := by omega
        have HH := hid_ (And.intro hwt (And.intro hst hy))
        clear hwt hst hy hm1 hm2 ha1 ha2 hb1 hb2 hmul hlt e2
        go_wp2_with fail
        refine Calls.mono (HMul.out _) ?_
        rintro e w2 ⟨rfl, rfl⟩
        go_wp2_with fail
        go_roundw
        case rel => exact ⟨k + 1, hi + (a + k1) + k2, l2, by have := HK.out; omega, by go_num, by go_num, rfl, by omega, HN, HB1⟩
        case measure => have := HK.out; simp [intOf]; omega
      · obtain rfl : k = ms.length := by omega
        have HV2 := HV
        rw [List.take_length] at HV2
        rcases Nat.eq_zero_or_pos hi with h0 | h0
        · subst h0
          have HF := hid_ (show lv = (lo, 0) by rw [HE.out, if_pos (two_low HV2.out).1, (two_low HV2.out).2])
          have e1 : decide ((0 : Int) > 0) = false := by decide
          go_wp2_with fail
          go_ret2
          exact versPost_mk HF.out HB.out
        · have HF := hid_ (show lv = (0, 12) by rw [HE.out, if_neg (two_high HV2.out h0)])
          have e1 : decide ((hi : Int) > 0) = true := decide_eq_true (by omega)
          have e2 : decide (0 < hi) = true := decide_eq_true h0
          go_wp2_with fail
          go_ret2
          exact versPost_zero HF.out HB.out
theorem wt_big {y st : Nat} (h : 6148914691236517204 < y) : ¬ 3 * y + st + 1 < 18446744073709551616 := by omega
theorem wt_small {y st : Nat} (h : ¬ 6148914691236517204 < y) (h2 : st ≤ 2) : 3 * y + st + 1 < 18446744073709551616 := by omega
theorem u64w {z : Int} {x : Nat} (h : z = (x : Int)) (hx : x < 18446744073709551616) : IntKind.u64.wrap z = (x : Int) := by
  rw [h, IntKind.wrap_u64]
  omega
theorem stop_big {ms : List MemberD} {k t x : Nat} (hk : k < ms.length) (h1 : t = versF (ms.take k)) (h2 : versF (ms.take (k + 1)) = versF (ms.take k) + x) (h3 : ¬ t + x < 18446744073709551616) : ¬ versF ms < 18446744073709551616 := by
  have := versF_le ms (k + 1)
  omega
set_option maxRecDepth 100000 in
set_option maxHeartbeats 8000000 in
theorem rvers_any (A : Option Addr) (n c : Nat) (ms : List MemberD) (w : World) (h : MemRow w A n c ms) (hw : ∀ m ∈ ms, m.Wf) :
    Calls Try.prog 57 #[.slice A n c] w (VersPost w (versV ms)) := by
  obtain rfl := h.len
  have hle := Nat.le_trans h.cap h.max
  have Hs := hid_ h
  have Hr := hid_ (rright_any A ms.length c ms w h)
  have HL := hid_ (show versV ms = if rightV ms = true then (if versF ms < 18446744073709551616 then (versF ms, 0) else (0, 12)) else (0, 6) from rfl)
  have Hlen := hid_ (fun hr => rightV_len (ms := ms) hr)
  have Hok := hid_ (fun hr => right_ok (ms := ms) hr)
  have Hwf := hid_ hw
  generalize versV ms = lv at *
  clear h hw
  cases hr : rightV ms
  · rw [hr] at Hr HL
    have HE := hid_ (show lv = (0, 6) from HL.out)
    clear hr HL Hlen Hok
    go_enter Try.func57, Try.ntmps57
    go_wp2_with fail
    refine Calls.mono Hr.out ?_
    rintro e w1 ⟨rfl, hb⟩
    have Hb := hid_ hb
    clear hb
    unfold kindP
    go_wp2_with fail
    go_ret2
    exact versPost_zero HE.out Hb.out
  · have hl16 := Hlen.out hr
    have Hok2 := hid_ (Hok.out hr)
    rw [hr] at Hr HL
    have HE := hid_ (show lv = if versF ms < 18446744073709551616 then (versF ms, 0) else (0, 12) from HL.out)
    clear hr HL Hlen Hok
    go_enter Try.func57, Try.ntmps57
    go_wp2_with fail
    refine Calls.mono Hr.out ?_
    rintro e w1 ⟨rfl, hb⟩
    have Hb := hid_ hb
    clear hb
    unfold kindP
    go_wp2_with fail
    go_loopw [4, 5] (fun vt vi wr => ∃ (k t : Nat), k ≤ ms.length ∧ vi = .int .i64 (k : Nat) ∧ vt = .int .u64 (t : Nat) ∧ Hid (t = versF (ms.take k) ∧ t < 18446744073709551616) ∧ Hid (Below w.heap.size w wr)) (fun _ vi _ => ms.length - (intOf vi).toNat)
    case atStart => exact ⟨0, 0, Nat.zero_le _, rfl, rfl, hid_ ⟨by rw [List.take_zero]; rfl, by omega⟩, Hb⟩
    case round =>
      obtain ⟨k, t, _, rfl, rfl, HV, HB⟩ := hrel
      have hsz := HB.out.size
      by_cases hlt : k < ms.length
      · obtain ⟨b, off, rfl, hc⟩ := (Hs.out.below HB.out).at_ hlt
        obtain ⟨c0, c1, c2⟩ := hc
        have hbl := lt_of_cell c0
        have hbl : b < wr.heap.size := hbl
        have x1 : (k : Int) < (ms.length : Int) := by omega
        have x2 : (0 : Int) ≤ (k : Int) := by omega
        have HT := hid_ (versF_take hlt)
        have hwi := (Hwf.out ms[k] (List.getElem_mem hlt)).inc
        have hokk := ok_parts (Hok2.out ms[k] (List.getElem_mem hlt))
        have HK := hid_ hlt
        generalize ms[k] = s at *
        obtain ⟨st, hst, hst2, hinc, hwt⟩ := hokk
        obtain ⟨y, hy⟩ : ∃ y : Nat, s.inc = y + 1 := ⟨s.inc - 1, by omega⟩
        rw [hwt, hy, Nat.add_sub_cancel] at HT
        rw [hst] at c2
        have hyb : y < 18446744073709551616 := by omega
        have w1 : IntKind.u64.wrap ((y : Nat) : Int) = (y : Int) := u64w rfl hyb
        have hi1 : (1 : Int) ≤ (s.inc : Int) := by omega
        have HH := hid_ (And.intro hwt (And.intro hst hy))
        generalize s.inc = I at *
        have HIy := hid_ hy
        have hIy : ((I : Int) - 1) = (y : Int) := by omega
        clear hwt hst hy
        by_cases hbig : 6148914691236517204 < y
        · have HF := hid_ (show lv = (0, 12) by rw [HE.out, if_neg (stop_big HK.out HV.out.1 HT.out (by have := wt_big (st := st) hbig; omega))])
          have e1 : decide ((6148914691236517204 : Int) < (y : Int)) = true := decide_eq_true (by omega)
          have e2 : decide ((y : Int) > 6148914691236517204) = true := decide_eq_true (by omega)
          have e3 : decide (6148914691236517204 < y) = true := decide_eq_true hbig
          clear hbig hlt hyb hwi
          go_wp2_with fail
          go_ret2
          exact versPost_zero HF.out HB.out
        · have hsm := wt_small (st := st) hbig hst2
          have e1 : decide ((6148914691236517204 : Int) < (y : Int)) = false := decide_eq_false (by omega)
          have e2 : decide ((y : Int) > 6148914691236517204) = false := decide_eq_false (by omega)
          have e3 : decide (6148914691236517204 < y) = false := decide_eq_false hbig
          obtain ⟨p, hp⟩ : ∃ p : Nat, p = 3 * y := ⟨_, rfl⟩
          obtain ⟨q, hq⟩ : ∃ q : Nat, q = p + st := ⟨_, rfl⟩
          obtain ⟨x, hx⟩ : ∃ x : Nat, x = q + 1 := ⟨_, rfl⟩
          obtain ⟨r, hr⟩ : ∃ r : Nat, t + r = 18446744073709551615 := ⟨18446744073709551615 - t, by have := HV.out.2; omega⟩
          have w2 : IntKind.u64.wrap ((3 : Int) * (y : Int)) = (p : Int) := u64w (by omega) (by omega)
          have w3 : IntKind.u64.wrap ((st : Nat) : Int) = (st : Int) := u64w rfl (by omega)
          have w4 : IntKind.u64.wrap ((p : Int) + (st : Int)) = (q : Int) := u64w (by omega) (by omega)
          have w5 : IntKind.u64.wrap ((q : Int) + 1) = (x : Int) := u64w (by omega) (by omega)
          have w6 : IntKind.u64.wrap ((18446744073709551615 : Int) - (t : Int)) = (r : Int) := u64w (by omega) (by omega)
          have HX := hid_ (show x = 3 * y + st + 1 by omega)
          have HR := hid_ hr
          clear hbig hlt hyb hwi hsm hp hq hx hr
          by_cases hov : r < x
          · have HF := hid_ (show lv = (0, 12) by rw [HE.out, if_neg (stop_big HK.out HV.out.1 HT.out (by have := HX.out; have := HR.out; omega))])
            have d1 : decide ((r : Int) < (x : Int)) = true := decide_eq_true (by omega)
            have d2 : decide ((x : Int) > (r : Int)) = true := decide_eq_true (by omega)
            have d3 : decide (r < x) = true := decide_eq_true hov
            clear hov
            go_wp2_with fail
            go_quiet (fail)
            go_wp2_with fail
            go_ret2
            exact versPost_zero HF.out (below_drewN HB.out _)
          · have HT2 := hid_ (show t + x = versF (ms.take (k + 1)) ∧ t + x < 18446744073709551616 from ⟨by have := HT.out; have := HX.out; have := HV.out.1; omega, by have := HR.out; omega⟩)
            have d1 : decide ((r : Int) < (x : Int)) = false := decide_eq_false (by omega)
            have d2 : decide ((x : Int) > (r : Int)) = false := decide_eq_false (by omega)
            have d3 : decide (r < x) = false := decide_eq_false hov
            have w7 : IntKind.u64.wrap ((t : Int) + (x : Int)) = ((t + x : Nat) : Int) := u64w (by omega) HT2.out.2
            clear hov
            go_wp2_with fail
            go_quiet (fail)
            go_wp2_with fail
            go_roundw
            case rel => exact ⟨k + 1, t + x, by have := HK.out; omega, by go_num, by first | rfl | go_num, HT2, hid_ (below_drewN HB.out _)⟩
            case measure => have := HK.out; simp [intOf]; omega
      · obtain rfl : k = ms.length := by omega
        have HF := hid_ (show lv = (t, 0) by have h1 := HV.out; rw [List.take_length] at h1; rw [HE.out, if_pos (by omega), h1.1])
        go_wp2_with fail
        go_ret2
        exact versPost_mk HF.out HB.out
end Vw
end Go.Proofs.Yteoeghljoaiiiaa
