/-
  SpanBack: of at most 50 spans whose texts have at most 1000 bytes each and at most 5000 bytes (above it nothing is asked), spans that were put are cut as they were, and what is cut is put as it was; no condition on the input.
  The frame round the walk is written by the guide's own program for this statement.
-/
import Derived.Test.YtfnjfjghajcdkaaRows
import Derived.Test.YtfnjfjghajcdkaaSpAlive
import Derived.Test.YtfnjfjghajcdkaaSpanOpen
import Derived.Test.YtfnjfjghajcdkaaSame
import Derived.Test.YtfnjfjghajcdkaaSpCutAll
import Derived.Test.YtfnjfjghajcdkaaSpanEq
import Derived.Test.YtfnjfjghajcdkaaSpanApp
import Derived.WalkKit
import Derived.ProofKit
import Derived.OpenShut
import Derived.ShutString
import Derived.ChangeOld
import Derived.Below
namespace Go.Proofs.Ytfnjfjghajcdkaa.spanBack
open Go.ChangeShapes Go.WideShapes Go.ChangeAt Go.RowKit
open Go.ChangeMaps (open_string shut_string)
set_option linter.unusedVariables false

theorem own : ownKnob Try.prog.godebug = none := by kernel_rfl
theorem laidOut : laidOutB Try.prog = true := by kernel_rfl

/-- WHAT THE WALK IS TOLD OF A SLICE OF INTEGERS THAT CAME IN: it is nil; or it leads to a row of 'cap' cells, the numbers 'zs' (the first 'len' are its elements, the rest its spare room), each fitting its kind. -/
def IsRow (k : IntKind) (w : World) (a : Option Addr) (len cap : Nat) (zs : List Int) : Prop :=
  (a = none ∧ len = 0 ∧ cap = 0 ∧ zs = []) ∨
  ∃ x, a = some x ∧ len ≤ cap ∧ cap ≤ maxLen ∧ zs.length = cap ∧ (∀ i, i < zs.length → w.cell? (x.add i) = some (.int k (zs.getD i 0))) ∧ ∀ n ∈ zs, (Lit.int k n).wf = true

open Ru
abbrev zeroVal : Value := .agg #[.int .u64 0, .int .u64 0, .int .u64 0, .int .u64 0, .int .u64 0, .string ⟨#[]⟩, .string ⟨#[]⟩, .bool false]
theorem cut_told {w w' : World} {l : List UInt8} {k : Int} {e : Ending} (h : SpanCutPost w l e w') (hc : cutSpanF l = (k, SpanD.zero, [])) :
    ∃ A c, e = .returned (.tuple #[zeroVal, .slice A 0 c, .int .i64 k]) ∧ Below w.heap.size w w' := by
  obtain ⟨A, n, c, he, hs, hb⟩ := h
  rw [hc] at he hs
  obtain rfl : n = 0 := by rw [← hs.len]; rfl
  exact ⟨A, c, he, hb⟩
theorem cut_says {w w' : World} {l : List UInt8} {s : SpanD} {r : List UInt8} {e : Ending} (h : SpanCutPost w l e w') (hc : cutSpanF l = (0, s, r)) :
    ∃ A n c, e = .returned (.tuple #[spanVal s, .slice A n c, .int .i64 0]) ∧ Sl w' A n c r ∧ Below w.heap.size w w' := by
  obtain ⟨A, n, c, he, hs, hb⟩ := h
  rw [hc] at he hs
  exact ⟨A, n, c, he, hs, hb⟩
theorem zero_eql (w : World) : (binOp .eql 28 zeroVal zeroVal).run Try.prog w = .ok (.bool true) w := by
  have := span_eql SpanD.zero SpanD.zero w
  rw [sameF_self] at this
  exact this
set_option maxRecDepth 100000 in
set_option maxHeartbeats 8000000 in
theorem walk (v0 : Value) (a1 : Option Addr) (len1 cap1 : Nat) (z1 : List Int) (w : World) (w0 : SpansV w v0) (w1 : IsRow .u8 w a1 len1 cap1 z1) :
    Calls Try.prog 8 #[v0, .slice a1 len1 cap1] w fun e w' => e = .returned (.bool true) ∧ Below w.heap.size w w' := by
  obtain ⟨A, n, c, ss, rfl, hss, hwf⟩ := w0
  obtain ⟨l1, hs1⟩ := sl_of_row w1
  have H0 := hid_ hss
  have H1 := hid_ hs1
  have Hlen := hid_ hss.len
  have Hwf := hid_ hwf
  have ha := hid_ (fun W => alive_any W)
  have kn := fun (a b : SpanD) (w : World) => span_neq a b w
  have hnc := hss.cap
  have hcm := hss.max
  clear hss hs1 w1 hwf
  by_cases hb0 : 50 < n
  · have e1 : decide ((50 : Int) < (n : Int)) = true := by simp; omega
    go_enter Try.func8, Try.ntmps8
    go_wp2_with fail
    refine (ha.out _).mono ?_
    rintro e w' ⟨rfl, hbel⟩
    go_wp2_with fail
    go_ret
    exact ⟨rfl, hbel⟩
  have e1 : decide ((50 : Int) < (n : Int)) = false := by simp; omega
  by_cases hb1 : 5000 < len1
  · have e2 : decide ((5000 : Int) < (len1 : Int)) = true := by simp; omega
    go_enter Try.func8, Try.ntmps8
    go_wp2_with fail
    refine (ha.out _).mono ?_
    rintro e w' ⟨rfl, hbel⟩
    go_wp2_with fail
    go_ret
    exact ⟨rfl, hbel⟩
  have e2 : decide ((5000 : Int) < (len1 : Int)) = false := by simp; omega
  go_enter Try.func8, Try.ntmps8
  go_wp2_with fail
  go_loopw [5, 6, 7] (fun va vw vi wr => ∃ (k : Nat) (Aa : Option Addr) (na ca : Nat) (aB : List UInt8) (Aw : Option Addr) (m cw : Nat) (ws : List SpanD), k ≤ n ∧ vi = .int .i64 (k : Nat) ∧ va = .slice Aa na ca ∧ Sl wr Aa na ca aB ∧ vw = .slice Aw m cw ∧ OwnSp w.heap.size wr Aw m cw ws ∧
    Below w.heap.size w wr ∧ Hid (aB = putAll ws) ∧ Hid (AllRight ws) ∧ m ≤ k) (fun _ _ vi _ => n - (intOf vi).toNat)
  case atStart => exact ⟨0, none, 0, 0, [], none, 0, 0, [], by omega, rfl, rfl, Sl.none _, rfl, OwnSp.none _ _, Below.refl _ _, hid_ rfl, hid_ (fun s hs => by simp at hs), by omega⟩
  case round =>
    obtain ⟨k, Aa, na, ca, aB, Aw, m, cw, ws, hk, rfl, rfl, hall, rfl, hwant, hb, HB, HR, hmk⟩ := hrel
    have Hall := hid_ hall
    have Hwant := hid_ hwant
    have Hb := hid_ hb
    have Hm := hid_ hwant.len
    have hna : na ≤ 10000 := by
      have h1 := putAll_le HR.out
      rw [← HB.out, hall.len, hwant.len] at h1
      omega
    clear hall hwant hb
    by_cases hlt : k < n
    · have hkl : k < ss.length := by rw [Hlen.out]; exact hlt
      have Hrow := hid_ (H0.out.below Hb.out)
      obtain ⟨b, off, rfl, s1⟩ := Hrow.out.at_ hkl
      have HWk := hid_ (Hwf.out _ (List.getElem_mem hkl))
      generalize ss[k] = s at *
      have hbw : b < wr.heap.size := s1.lt
      obtain ⟨a0, a1', a2, a3, a4, a5, a6, a7⟩ := s1
      have hz1 := HWk.out.service
      have hz2 := HWk.out.name
      by_cases hn1 : 1000 < s.name.size
      · have e3 : decide ((1000 : Int) < (s.name.size : Int)) = true := by simp; omega
        go_wp2_with fail
        refine (ha.out _).mono ?_
        rintro e w' ⟨rfl, hbel⟩
        go_wp2_with fail
        go_ret
        exact ⟨rfl, Hb.out.trans (hbel.mono Hb.out.size)⟩
      have e3 : decide ((1000 : Int) < (s.name.size : Int)) = false := by simp; omega
      by_cases hn2 : 1000 < s.service.size
      · have e4 : decide ((1000 : Int) < (s.service.size : Int)) = true := by simp; omega
        go_wp2_with fail
        refine (ha.out _).mono ?_
        rintro e w' ⟨rfl, hbel⟩
        go_wp2_with fail
        go_ret
        exact ⟨rfl, Hb.out.trans (hbel.mono Hb.out.size)⟩
      have e4 : decide ((1000 : Int) < (s.service.size : Int)) = false := by simp; omega
      have Hp := hid_ (put_any Aa na ca aB s wr Hall.out (by omega) HWk.out)
      go_wp2_with fail
      refine Calls.mono Hp.out ?_
      rintro e w1 (⟨hr, rfl, hb1⟩ | ⟨hr, A3, n3, c3, rfl, ho3, hb1⟩)
      · have hrb : (rightF s == 0) = false := by rw [beq_eq_false_iff_ne]; exact hr
        have Hr := hid_ hr
        have Hb1 := hid_ (Hb.out.trans (hb1.mono Hb.out.size))
        have Hall1 := hid_ (Hall.out.below hb1)
        have Hwant1 := hid_ (Hwant.out.later hb1)
        clear hr hb1 a0 a1' a2 a3 a4 a5 a6 a7
        go_wp2_with fail
        go_roundw
        case rel => exact ⟨k + 1, Aa, na, ca, aB, Aw, m, cw, ws, by omega, by go_num, rfl, Hall1.out, rfl, Hwant1.out, Hb1.out, HB, HR, by omega⟩
        case measure => simp [intOf]; omega
      · have Hr := hid_ hr
        have Hb1 := hid_ (Hb.out.trans (hb1.mono Hb.out.size))
        have Ho3 := hid_ ho3
        have Hwant1 := hid_ (Hwant.out.later hb1)
        have Hrow1 := hid_ (show ∀ o v, wr.cell? ⟨b, o, none⟩ = some v → w1.cell? ⟨b, o, none⟩ = some v from fun o v h => by rw [hb1.cell (p := ⟨b, o, none⟩) hbw]; exact h)
        have hsz1 := hb1.size
        have Hfar := hid_ (fun g hg => (Hwant.out.from_ g hg).2)
        have d0 := Hrow1.out _ _ a0
        have d1 := Hrow1.out _ _ a1'
        have d2 := Hrow1.out _ _ a2
        have d3 := Hrow1.out _ _ a3
        have d4 := Hrow1.out _ _ a4
        have d5 := Hrow1.out _ _ a5
        have d6 := Hrow1.out _ _ a6
        have d7 := Hrow1.out _ _ a7
        clear hr hb1 ho3 a0 a1' a2 a3 a4 a5 a6 a7
        go_wp2_with (at_builtin; refine wpList_spans rfl (.tmp 63) (.tmp 68) rfl w.heap.size Aw m cw ws rfl (Hwant1.out.later ((Below.refl _ _).alloc (Nat.le_refl _) _)) (some ⟨w1.heap.size, 0, none⟩) 1 1 [s] rfl (row_one w1 s _) (m + 1) (ws ++ [s]) rfl rfl (by omega) (by have := Hb1.out.size; simp; omega) ?_; intro A4 c4 w4 ho' hb' hg' _; have Ho4 := hid_ ho'; have Hb4 := hid_ ((Hb1.out.alloc Hb1.out.size _).trans hb'); have Ho5 := hid_ (((Ho3.out.alloc _).apart hg' Hfar.out).sl); clear ho' hb' hg')
        go_roundw
        case rel => exact ⟨k + 1, A3, n3, c3, _, A4, m + 1, c4, ws ++ [s], by omega, by go_num, rfl, Ho5.out, rfl, Ho4.out, Hb4.out, hid_ (by rw [putAll_snoc, HB.out]), hid_ (HR.out.snoc HWk.out Hr.out), by omega⟩
        case measure => simp [intOf]; omega
    · obtain rfl : k = n := by omega
      go_wp2_with fail
      have Hsl := hid_ Hall.out
      rw [HB.out] at Hsl
      obtain ⟨wo, rfl⟩ : ∃ wo : World, wo = wr := ⟨_, rfl⟩
      go_loopw [5, 10] (fun va vi wr => ∃ (j : Nat) (A2 : Option Addr) (n2 c2 : Nat), j ≤ m ∧ vi = .int .i64 (j : Nat) ∧ va = .slice A2 n2 c2 ∧ Sl wr A2 n2 c2 (putAll (ws.drop j)) ∧ Below wo.heap.size wo wr) (fun _ vi _ => m - (intOf vi).toNat)
      case atStart => exact ⟨0, Aa, na, ca, by omega, rfl, rfl, by rw [List.drop_zero]; exact Hsl.out, Below.refl _ _⟩
      case round =>
        obtain ⟨j, A2, n2, c2, hj, rfl, rfl, hs2, hbq⟩ := hrel
        have hn2 : n2 ≤ 10000 := by
          have h1 := putAll_le (HR.out.drop j)
          have h2 := hs2.len
          rw [List.length_drop, Hm.out] at h1
          omega
        have Hs2 := hid_ hs2
        have Hbq := hid_ hbq
        have Hbw := hid_ (Hb.out.trans (hbq.mono Hb.out.size))
        clear hs2 hbq
        by_cases hjm : j < m
        · have hjl : j < ws.length := by rw [Hm.out]; exact hjm
          have Hc := hid_ (cut_any A2 n2 c2 _ wr Hs2.out (by omega))
          have Hcut := hid_ (show cutSpanF (putAll (ws.drop j)) = (0, ws[j], putAll (ws.drop (j + 1))) by
            have h := HR.out _ (List.getElem_mem hjl)
            rw [putAll_drop hjl]
            exact cutSpan_put h.1 h.2 _)
          have Hrw := hid_ (fun W (h : Below wo.heap.size wo W) => (Hwant.out.row.below h).at_ hjl)
          generalize ws[j] = s at *
          have hse := sameF_self s
          go_wp2_with fail
          refine Calls.mono Hc.out ?_
          intro e w2 hpost
          obtain ⟨A3, n3, c3, rfl, hs3, hb3⟩ := cut_says hpost Hcut.out
          have Hs3 := hid_ hs3
          have Hb3 := hid_ (Hbq.out.trans (hb3.mono Hbq.out.size))
          obtain ⟨b, off, hAw, x0, x1, x2, x3, x4, x5, x6, x7⟩ := Hrw.out w2 Hb3.out
          subst hAw
          have hbl : b < w2.heap.size := lt_of_cell x0
          have hbn : w2.heap.size ≠ b := by omega
          clear hpost hs3 hb3
          go_wp2_with fail
          go_quiet (fail)
          go_wp2_with fail
          go_roundw
          case rel => exact ⟨j + 1, A3, n3, c3, by omega, by go_num, rfl, (Hs3.out.below ((Below.refl _ _).alloc (Nat.le_refl _) _)).drew _, below_drewN (Hb3.out.alloc Hb3.out.size _) _⟩
          case measure => simp [intOf]; omega
        · obtain rfl : j = m := by omega
          have hnil : ws.drop j = [] := List.drop_eq_nil_of_le (by rw [Hm.out]; omega)
          obtain rfl : n2 = 0 := by rw [← Hs2.out.len, hnil]; rfl
          clear hnil
          have Hc := hid_ (cut_any a1 len1 cap1 l1 wr (H1.out.below Hbw.out) (by omega))
          have Hkind := hid_ (cutSpan_kind (l := l1))
          have Hwfs := hid_ (cutSpan_wf l1)
          have kz := fun w => zero_eql w
          by_cases hK : (cutSpanF l1).1 = 0
          rotate_left
          · have Hcut := hid_ (Hkind.out hK)
            generalize (cutSpanF l1).1 = K at *
            have hKb : (K != 0) = true := by rw [bne_iff_ne]; exact hK
            have HK := hid_ hK
            clear hK
            go_wp2_with fail
            refine Calls.mono Hc.out ?_
            intro e w2 hpost
            obtain ⟨A3, c3, rfl, hb3⟩ := cut_told hpost Hcut.out
            have Hb3 := hid_ (Hbw.out.trans (hb3.mono Hbw.out.size))
            clear hpost hb3
            go_wp2_with fail
            refine (ha.out _).mono ?_
            rintro e w4 ⟨rfl, hb4⟩
            go_wp2_with fail
            go_ret
            exact ⟨rfl, (Hb3.out.alloc Hb3.out.size _).trans (hb4.mono (by have := Hb3.out.size; simp; omega))⟩
          have Hcut := hid_ (show cutSpanF l1 = (0, (cutSpanF l1).2.1, (cutSpanF l1).2.2) by rw [← hK])
          have Hback := hid_ (cutSpan_back Hcut.out)
          generalize (cutSpanF l1).2.1 = s at *
          generalize (cutSpanF l1).2.2 = r at *
          have Hr := hid_ (fun W => right_any s W Hwfs.out)
          have HK := hid_ hK
          clear hK
          go_wp2_with fail
          refine Calls.mono Hc.out ?_
          intro e w2 hpost
          obtain ⟨A3, n3, c3, rfl, hs3, hb3⟩ := cut_says hpost Hcut.out
          have Hs3 := hid_ hs3
          have Hb3 := hid_ (Hbw.out.trans (hb3.mono Hbw.out.size))
          have Hx0 := hid_ (box_new w2 s 28)
          have Hp := hid_ (put_any none 0 0 [] s (w2.alloc (.cells (spanCells s) 28)) (Sl.none _) (by omega) Hwfs.out)
          clear hpost hs3 hb3
          go_wp2_with fail
          refine Calls.mono Hp.out ?_
          rintro e w3 (⟨hr, _⟩ | ⟨_, A5, n5, c5, rfl, ho5, hb5⟩)
          · exact absurd Hback.out.2 hr
          have hsl5 := ho5.sl
          rw [List.nil_append] at hsl5
          have Hsl5 := hid_ hsl5
          have Hx5 := hid_ (Hx0.out.below hb5 (by simp))
          have Hb5 := hid_ ((Hb3.out.alloc Hb3.out.size (.cells (spanCells s) 28)).trans (hb5.mono (by have := Hb3.out.size; simp; omega)))
          have Hs5 := hid_ ((Hs3.out.below ((Below.refl _ _).alloc (Nat.le_refl _) _)).below hb5)
          have hN : n5 + n3 = len1 := by
            have h1 := hsl5.len
            have h2 := Hs3.out.len
            have h3 := H1.out.len
            rw [← Hback.out.1, List.length_append] at h3
            omega
          have hx5 := lt_of_cell Hx5.out.c0
          have hx5' : w2.heap.size < w3.heap.size := hx5
          clear hsl5 ho5 hb5 hx5
          go_wp2_with (first
            | (at_builtin; refine wpList_bytes rfl (.tmp 120) (.tmp 121) rfl w3.heap.size _ 0 _ [] rfl (own_lit w3 [] #[] rfl 0 rfl (by omega) _ (Nat.le_refl _)) A5 n5 c5 (putF s) rfl (Hsl5.out.below ((Below.refl _ _).alloc (Nat.le_refl _) _)) n5 (putF s) (by omega) rfl (by omega) (by simp) ?_; intro A6 c6 w6 ho' hb'; have Ho6 := hid_ ho'; have Hb6 := hid_ (((Below.refl _ _).alloc (Nat.le_refl _) _).trans hb'); clear ho' hb')
            | (at_builtin; refine wpList_bytes rfl (.tmp 122) (.tmp 123) rfl w3.heap.size A6 n5 c6 _ rfl Ho6.out A3 n3 c3 r rfl (Hs5.out.below Hb6.out) len1 l1 hN Hback.out.1 (by omega) Hb6.out.size ?_; intro A7 c7 w7 ho' hb'; have Ho7 := hid_ ho'; have Hb7 := hid_ (Hb6.out.trans hb'); clear ho' hb'))
          have Hb7w := hid_ (Hb5.out.trans (Hb7.out.mono Hb5.out.size))
          refine Calls.mono (same_below _ _ _ _ _ l1 w7 Ho7.out.sl (H1.out.below Hb7w.out)) ?_
          rintro e w8 ⟨rfl, hb8⟩
          have Hb8 := hid_ (Hb7w.out.trans (hb8.mono Hb7w.out.size))
          obtain ⟨x0, x1, x2, x3, x4, x5, x6, x7⟩ := (Hx5.out.below Hb7.out hx5').below hb8 (by have := Hb7.out.size; omega)
          clear hb8
          go_wp2_with fail
          refine Calls.mono (Hr.out _) ?_
          rintro e w9 ⟨rfl, hb9⟩
          rw [Hback.out.2]
          have Hb9 := hid_ (Hb8.out.trans (hb9.mono Hb8.out.size))
          clear hb9 x0 x1 x2 x3 x4 x5 x6 x7
          go_wp2_with fail
          refine (ha.out _).mono ?_
          rintro e w10 ⟨rfl, hb10⟩
          go_wp2_with fail
          go_ret
          exact ⟨rfl, Hb9.out.trans (hb10.mono Hb9.out.size)⟩

set_option maxRecDepth 100000 in
theorem lifted (os : Os) (started : os.Started) (H : Type) (enc : TypeId × Value → H) :
    ReturnsInHanded {} Try.checked os 8 .any (Rows.spanBackSpec.pre6 enc Try.prog Try.f8 Rows.spanBackRow.domain false) (Rows.spanBackSpec.post enc Try.prog Try.f8 false true false false) := by
  refine returnsInHanded_of_change (C := Try.checked) own started (by kernel_rfl) Try.func8
    (ChangeSpec.witness6 (enc := enc) (C := Try.checked) false ⟨#[], #[.slice none 0 0, .slice none 0 0], []⟩ 8 (by kernel_rfl) (by kernel_rfl) (by kernel_rfl) (by kernel_rfl)) ?_
  intro W base args ds gs before hval0 hW hcnd _
  have hval : ∀ (j : Nat) t v, Try.f8.params[j]? = some t → args[j]? = some v → Value.okWide Try.prog W .any base t v := hval0
  have hW' := hW
  obtain ⟨p, q, hA0, hV, rfl, hfz, hnd⟩ := hW
  have hA : DataW.TrodAll enc Try.prog W 0 (fun _ => true) true Try.f8.params.toList args.toList ds p := hA0
  rw [Try.params8] at hA hval
  obtain ⟨v0, vs0, d0, ds0, p0, q0, hargs, rfl, rfl, h0, r0⟩ := trodAll_cons hA
  obtain ⟨v1, vs1, d1, ds1, p1, q1, rfl, rfl, rfl, h1, r1⟩ := trodAll_cons r0
  obtain ⟨rfl, rfl, rfl⟩ := trodAll_nil r1
  obtain rfl : args = #[v0, v1] := by cases args; simp_all
  obtain ⟨rfl, rfl⟩ := trodVars_none hV
  have k0 := h0
  have lt0 : ∀ x ∈ p0, x.block < W.heap.size := by obtain ⟨m, hm⟩ := k0; exact DataW.trod_lt m _ _ _ hm
  have w0 : SpansV W v0 := open_spansV (hval 0 39 v0 rfl rfl) h0
  obtain ⟨a1, len1, cap1, rfl⟩ := okWide_slice Try.underlying31 (hval 1 31 v1 rfl rfl)
  have k1 := h1
  have lt1 : ∀ x ∈ p1, x.block < W.heap.size := by obtain ⟨m, hm⟩ := k1; exact DataW.trod_lt m _ _ _ hm
  obtain ⟨z1, w1⟩ : ∃ zs, IsRow .u8 W a1 len1 cap1 zs := by
    obtain ⟨fuel, hf⟩ := h1
    rcases open_ints Try.underlying31 Try.underlying5 (by kernel_rfl) hf with ⟨hcs, _⟩ | ⟨x, l, c, zs, hcs, _, hl, hm, hz, _, hcell, hwz⟩
    · simp [Value.cells] at hcs
      obtain ⟨rfl, rfl, rfl⟩ := hcs
      exact ⟨[], .inl ⟨rfl, rfl, rfl, rfl⟩⟩
    · simp [Value.cells] at hcs
      obtain ⟨rfl, rfl, rfl⟩ := hcs
      exact ⟨zs, .inr ⟨_, rfl, hl, hm, by simpa using hz, hcell, hwz⟩⟩
  clear hA0 hval0
  refine (walk v0 a1 len1 cap1 z1 W w0 w1).mono fun e W' ⟨he, bel⟩ => ?_
  subst he
  exact ⟨_, rfl, _, _, _, [], _, [], hW', trodAll_mk1 (shut_bool Try.underlying4 _), (trodAll_cons_mk (Below.trod laidOut (by kernel_rfl) (of_decide_eq_true (by kernel_rfl)) k0 bel lt0) (trodAll_cons_mk (Below.trod laidOut (by kernel_rfl) (of_decide_eq_true (by kernel_rfl)) k1 bel lt1) trodAll_mk0)), rfl, bel.frame _, fun h => by cases h⟩

theorem over : Rows.spanBackRow.holds Try.pinned (OpenSpec.ofChange Rows.spanBackSpec) :=
  OpenClaim.holds_of_wide 8 Try.f8 rfl rfl rfl rfl rfl rfl rfl ⟨rfl, rfl, rfl, rfl, rfl⟩ rfl rfl rfl rfl rfl (by kernel_rfl) Try.func8 (by kernel_rfl)
    (of_decide_eq_true (by kernel_rfl)) (by unfold Func.isWrapper; first | (rw [if_pos (by decide +kernel)]; kernel_rfl) | (rw [if_neg (by decide +kernel)]; exact ⟨rfl, rfl⟩))
    (fun os started H enc _ => lifted os started H enc)

theorem proved : Rows.SpanBackSaid := over
#print axioms proved
end Go.Proofs.Ytfnjfjghajcdkaa.spanBack
