/-
  MessageBack: of a packet whose lists are short (of others nothing is asked) what was encoded is decoded as it was, with a byte behind it, or cut off, it is none; what is not right is not encoded; no condition on the input.
  The frame round the walk is written by the guide's own program for this statement.
-/
import Derived.Test.YtnhkoppfopgajaaZGI
import Derived.Test.YtnhkoppfopgajaaZGL
import Derived.Test.YtnhkoppfopgajaaZGM
import Derived.Test.YtnhkoppfopgajaaZMsAlive
import Derived.Test.YtnhkoppfopgajaaZReadAll
import Derived.Test.YtnhkoppfopgajaaZSame01
import Derived.Test.YtnhkoppfopgajaaRows
import Derived.WalkKit
import Derived.ProofKit
import Derived.OpenShut
import Derived.ShutString
import Derived.ChangeOld
import Derived.Below
namespace Go.Proofs.Ytnhkoppfopgajaa.messageBack
set_option linter.unusedSimpArgs false
set_option linter.unusedVariables false
open Go.ChangeShapes Go.WideShapes Go.ChangeAt Go.RowKit
open Go.ChangeMaps (open_string shut_string)
set_option linter.unusedVariables false

theorem own : ownKnob Try.prog.godebug = none := by kernel_rfl
theorem laidOut : laidOutB Try.prog = true := by kernel_rfl

/-- WHAT THE WALK IS TOLD OF A SLICE OF INTEGERS THAT CAME IN: it is nil; or it leads to a row of 'cap' cells, the numbers 'zs' (the first 'len' are its elements, the rest its spare room), each fitting its kind. -/
def IsRow (k : IntKind) (w : World) (a : Option Addr) (len cap : Nat) (zs : List Int) : Prop :=
  (a = none ∧ len = 0 ∧ cap = 0 ∧ zs = []) ∨
  ∃ x, a = some x ∧ len ≤ cap ∧ cap ≤ maxLen ∧ zs.length = cap ∧ (∀ i, i < zs.length → w.cell? (x.add i) = some (.int k (zs.getD i 0))) ∧ ∀ n ∈ zs, (Lit.int k n).wf = true

open Ru Fm
theorem own_lit0 (w : World) (G B : Nat) (hG : G = w.heap.size) (hB : B ≤ w.heap.size) : Own B (w.alloc (.cells #[] 5)) (some ⟨G, 0, Option.none⟩) 0 0 [] := by
  subst hG
  exact own_lit w [] #[] rfl 0 rfl (by omega) B hB
theorem dec_back {p : PackD} {s : PackS} {w w' : World} {e : Ending} {b : List UInt8} {k : Int} {q : PackD} (hd : decF b = (k, q)) (h : DecPost w b e w') : ∃ s, e = .returned (.tuple #[packVal q s, .int .i64 k]) ∧ PackIn w' q s ∧ Below w.heap.size w w' := by
  obtain ⟨s, rfl, hi, hb⟩ := h
  rw [hd] at hi ⊢
  exact ⟨s, rfl, hi, hb⟩
theorem back_same (p : PackD) (hw : p.Wf) (hr : rightP p = true) (A : Option Addr) (n c : Nat) (w : World) (hs : Sl w A n c (encF p)) (hn : n ≤ 140737488355328) :
    Calls Try.prog 22 #[.slice A n c] w (fun e w' => ∃ s, e = .returned (.tuple #[packVal p s, .int .i64 0]) ∧ PackIn w' p s ∧ Below w.heap.size w w') := by
  refine Calls.mono (decode_right p hw hr [] A n c w (by rw [List.append_nil]; exact hs) hn) ?_
  intro e w' h
  exact dec_back (s := noneS) (p := p) (by rw [List.append_nil]; exact dec_enc hw hr) h
theorem back_more (p : PackD) (hw : p.Wf) (hr : rightP p = true) (x : UInt8) (A : Option Addr) (n c : Nat) (w : World) (hs : Sl w A n c (encF p ++ [x])) (hn : n ≤ 140737488355328) :
    Calls Try.prog 22 #[.slice A n c] w (fun e w' => ∃ s, e = .returned (.tuple #[packVal zeroP s, .int .i64 6]) ∧ PackIn w' zeroP s ∧ Below w.heap.size w w') := by
  refine Calls.mono (decode_right p hw hr [x] A n c w hs hn) ?_
  intro e w' h
  exact dec_back (s := noneS) (p := p) (dec_more hw hr x) h
theorem back_off (p : PackD) (hr : rightP p = true) (k : Nat) (hk : k < (encF p).length) (A : Option Addr) (n c : Nat) (w : World) (hs : Sl w A n c ((encF p).take k)) (hn : n ≤ 140737488355328) :
    Calls Try.prog 22 #[.slice A n c] w (fun e w' => ∃ s, e = .returned (.tuple #[packVal zeroP s, .int .i64 3]) ∧ PackIn w' zeroP s ∧ Below w.heap.size w w') := by
  have hc : cutF ((encF p).take k) = (3, [], []) := cut_framed_off _ (written_le (right_facts hr)).2 k hk
  refine Calls.mono (decode_short A n c _ w hs hn (by rw [hc]; decide)) ?_
  intro e w' h
  exact dec_back (s := noneS) (p := p) (dec_off hr hk) h
set_option maxRecDepth 100000 in
set_option maxHeartbeats 8000000 in
theorem walk (v0 : Value) (a1 : Int) (a2 : Int) (w : World) (w0 : PacketV w v0) (w1 : (Lit.int .i64 a1).wf = true) (w2 : (Lit.int .u8 a2).wf = true) :
    Calls Try.prog 5 #[v0, .int .i64 a1, .int .u8 a2] w fun e w' => e = .returned (.bool true) ∧ Below w.heap.size w w' := by
  obtain ⟨p, s, rfl, hp, hw, -⟩ := w0
  have HltP := hid_ (fun (W : World) (hb : Below w.heap.size w W) => mslight_any p s W (hp.below hb) hw)
  have HeP := hid_ (fun (W : World) (hb : Below w.heap.size w W) (hm : lightF p = true) => encode_any p s W (hp.below hb) hw (by have := (light_few hm).1; omega))
  have HrP := hid_ (fun (W : World) (hb : Below w.heap.size w W) (hm : lightF p = true) => packright_any p s W (hp.below hb) hw (by have := (light_few hm).1; omega))
  have Hal := hid_ (fun W => msalive_any W)
  have Hw := hid_ hw
  have Hp := hid_ hp
  have Ha := hid_ (show Below w.heap.size w (w.alloc (.cells (packCells p s) 30)) from (Below.refl w.heap.size w).alloc (Nat.le_refl _) _)
  have BP := hid_ (whole_new w 30 (packCells p s))
  have hat : -9223372036854775808 ≤ a1 ∧ a1 ≤ 9223372036854775807 := by simpa [Lit.wf, IntKind.min, IntKind.max, IntKind.bits, IntKind.signed] using w1
  obtain ⟨hat1, hat2⟩ := hat
  obtain ⟨x, rfl⟩ := byte_of w2
  clear hp hw w1 w2
  cases hl : lightF p
  · rw [hl] at HltP
    clear hl
    go_enter Try.func5, Try.ntmps5
    go_wp2_with fail
    refine Calls.mono (HltP.out _ Ha.out) ?_
    rintro e w2 ⟨rfl, hb2⟩
    have Hb2 := hid_ (Ha.out.trans (hb2.mono Ha.out.size))
    clear hb2
    go_wp2_with fail
    refine Calls.mono (Hal.out _) ?_
    rintro e w3 ⟨rfl, hb3⟩
    have Hb3 := hid_ (Hb2.out.trans (hb3.mono Hb2.out.size))
    clear hb3
    go_wp2_with fail
    go_ret
    exact ⟨rfl, Hb3.out⟩
  have HlP := hid_ hl
  rw [hl] at HltP
  clear hl
  go_enter Try.func5, Try.ntmps5
  go_wp2_with fail
  refine Calls.mono (HltP.out _ Ha.out) ?_
  rintro e w2 ⟨rfl, hb2⟩
  have Hb2 := hid_ (Ha.out.trans (hb2.mono Ha.out.size))
  have BP2 := hid_ (BP.out.below hb2 BP.out.lt)
  clear hb2
  obtain ⟨x0, x1, x2, x3, x4, x5, x6, x7, x8, x9, x10⟩ := pack_facts BP2.out
  go_wp2_with fail
  refine Calls.mono (HeP.out _ Hb2.out HlP.out) ?_
  rintro e w3 (⟨hr, rfl, hb3⟩ | ⟨hr, A1, n1, c1, rfl, ho, hb3⟩)
  · have Hb3 := hid_ (Hb2.out.trans (hb3.mono Hb2.out.size))
    have BP3 := hid_ (BP2.out.below hb3 BP2.out.lt)
    have Hri := hid_ (fun W hb => HrP.out W hb HlP.out)
    rw [hr, show kindP false = 6 from rfl] at Hri
    clear hb3 hr x0 x1 x2 x3 x4 x5 x6 x7 x8 x9 x10
    obtain ⟨x0, x1, x2, x3, x4, x5, x6, x7, x8, x9, x10⟩ := pack_facts BP3.out
    go_wp2_with fail
    refine Calls.mono (Hri.out _ Hb3.out) ?_
    rintro e w4 ⟨rfl, hb4⟩
    have Hb4 := hid_ (Hb3.out.trans (hb4.mono Hb3.out.size))
    clear hb4
    go_wp2_with fail
    refine Calls.mono (Hal.out _) ?_
    rintro e w5 ⟨rfl, hb5⟩
    have Hb5 := hid_ (Hb4.out.trans (hb5.mono Hb4.out.size))
    clear hb5
    go_wp2_with fail
    go_ret
    exact ⟨rfl, Hb5.out⟩
  have Hb3 := hid_ (Hb2.out.trans (hb3.mono Hb2.out.size))
  have BP3 := hid_ (BP2.out.below hb3 BP2.out.lt)
  have Hs3 := hid_ ho.sl
  have hn1 : n1 ≤ 8200 := by have := ho.sl.len; rw [encF, framed_length] at this; have := (written_le (right_facts hr)).2; omega
  have Hr := hid_ hr
  clear hb3 ho hr x0 x1 x2 x3 x4 x5 x6 x7 x8 x9 x10
  go_wp2_with fail
  refine Calls.mono (back_same p Hw.out Hr.out A1 n1 c1 _ Hs3.out (by omega)) ?_
  rintro e w4 ⟨s', rfl, hi, hb4⟩
  have Hb4 := hid_ (Hb3.out.trans (hb4.mono Hb3.out.size))
  have BP4 := hid_ ((BP3.out.below hb4 BP3.out.lt).alloc (.cells (packCells p s') 30))
  have BQ4 := hid_ (whole_new w4 30 (packCells p s'))
  have Hs4 := hid_ ((Hs3.out.below hb4).below ((Below.refl _ _).alloc (Nat.le_refl _) (.cells (packCells p s') 30)))
  have Hi4 := hid_ (hi.below ((Below.refl _ _).alloc (Nat.le_refl _) (.cells (packCells p s') 30)))
  have Hbq := hid_ (Hb4.out.alloc Hb4.out.size (.cells (packCells p s') 30))
  have hz4 : w.heap.size < w4.heap.size := (BP3.out.below hb4 BP3.out.lt).lt
  clear hb4 hi
  simp only [packCells] at BP4 BQ4 Hs4 Hi4 Hbq
  go_wp2_with (first
    | (at_builtin; refine wpList_bytes rfl (.tmp 44) (.tmp 45) rfl (w4.heap.size + 1) _ 0 _ [] rfl (own_lit0 _ _ _ (by simp) (by simp)) A1 n1 c1 (encF p) rfl (Hs4.out.below ((Below.refl _ _).alloc (Nat.le_refl _) _)) n1 (encF p) (by omega) rfl (by omega) (by simp) ?_; intro A5 c5 w5 ho' hb'; have Ho5 := hid_ ho'; have Hb5 := hid_ (((Below.refl _ _).alloc (by simp) _).trans hb'); clear ho' hb')
    | (at_builtin; refine wpList_bytes rfl (.tmp 46) (.tmp 48) rfl (w4.heap.size + 1) A5 n1 c5 _ rfl (Ho5.out.alloc _) (some ⟨w5.heap.size, 0, none⟩) 1 1 [x] rfl (own_lit w5 [x] _ rfl 1 rfl (by omega) w5.heap.size (Nat.le_refl _)).sl (n1 + 1) _ rfl rfl (by omega) (by have := Hb5.out.size; simp at this; simp; omega) ?_; intro A6 c6 w6 ho' hb'; have Ho6 := hid_ ho'; have Hb6 := hid_ (Hb5.out.trans (((Below.refl _ _).alloc (by have := Hb5.out.size; simp at this; omega) _).trans hb')); clear ho' hb'))
  refine Calls.mono (back_more p Hw.out Hr.out x A6 (n1 + 1) c6 w6 Ho6.out.sl (by omega)) ?_
  rintro e w7 ⟨s7, rfl, hi7, hb7⟩
  have hz6 : w4.heap.size + 1 ≤ w6.heap.size := by have := Hb6.out.size; simp at this; omega
  have Hb67 := hid_ (Hb6.out.trans (hb7.mono hz6))
  have hz7 : w4.heap.size + 1 ≤ w7.heap.size := by have := Hb67.out.size; simp at this; omega
  have BP7 := hid_ (show Whole w7 w.heap.size 30 (packCells p s) from Whole.below BP4.out Hb67.out (by omega))
  have BQ7 := hid_ (show Whole w7 w4.heap.size 30 (packCells p s') from Whole.below BQ4.out Hb67.out (by omega))
  have Hi7 := hid_ (show PackIn w7 p s' from Hi4.out.below (Hb67.out.mono (by simp)))
  have Hs7 := hid_ (show Sl w7 A1 n1 c1 (encF p) from Hs4.out.below (Hb67.out.mono (by simp)))
  have Hb7 := hid_ (show Below w.heap.size w w7 from Hbq.out.trans (Hb67.out.mono (by omega)))
  clear hi7 hb7
  have Hsm := hid_ (fun (W : World) (hb : Below w7.heap.size w7 W) => refsame_any p p s s' W (Hp.out.below (Hb7.out.trans (hb.mono Hb7.out.size))) (Hi7.out.below hb))
  rw [sameP_self] at Hsm
  obtain ⟨x0, x1, x2, x3, x4, x5, x6, x7, x8, x9, x10⟩ := pack_facts BP7.out
  obtain ⟨y0, y1, y2, y3, y4, y5, y6, y7, y8, y9, y10⟩ := pack_facts BQ7.out
  have hg1 : w.heap.size < w7.heap.size := by omega
  have hg2 : w4.heap.size < w7.heap.size := by omega
  go_wp2_with fail
  refine Calls.mono (Hsm.out _ ((Below.refl _ _).alloc (Nat.le_refl _) _)) ?_
  rintro e w8 ⟨rfl, hb8⟩
  have Ha7 := hid_ (Hb7.out.alloc Hb7.out.size (.cells (packCells zeroP s7) 30))
  have Hs8 := hid_ ((Hs7.out.below ((Below.refl _ _).alloc (Nat.le_refl _) (.cells (packCells zeroP s7) 30))).below hb8)
  have Hb8 := hid_ (Ha7.out.trans (hb8.mono Ha7.out.size))
  clear hb8 x0 x1 x2 x3 x4 x5 x6 x7 x8 x9 x10 y0 y1 y2 y3 y4 y5 y6 y7 y8 y9 y10
  by_cases hneg : a1 < 0
  · have e1 : decide (a1 < 0) = true := decide_eq_true hneg
    go_wp2_with fail
    refine Calls.mono (Hal.out _) ?_
    rintro e w9 ⟨rfl, hb9⟩
    have Hb9 := hid_ (Hb8.out.trans (hb9.mono Hb8.out.size))
    clear hb9
    go_wp2_with fail
    go_ret
    exact ⟨rfl, Hb9.out⟩
  have e1 : decide (a1 < 0) = false := decide_eq_false hneg
  obtain ⟨j, rfl⟩ := Int.eq_ofNat_of_zero_le (show 0 ≤ a1 by omega)
  by_cases hj : n1 ≤ j
  · have e5 : decide (n1 ≤ j) = true := decide_eq_true hj
    go_wp2_with fail
    refine Calls.mono (Hal.out _) ?_
    rintro e w9 ⟨rfl, hb9⟩
    have Hb9 := hid_ (Hb8.out.trans (hb9.mono Hb8.out.size))
    clear hb9
    go_wp2_with fail
    go_ret
    exact ⟨rfl, Hb9.out⟩
  have e5 : decide (n1 ≤ j) = false := decide_eq_false hj
  have Hup := hid_ (Hs8.out.upto j (by omega))
  have hjl : j < (encF p).length := by rw [Hs8.out.len]; omega
  have hc1 := Hs8.out.cap
  have hc2 := Hs8.out.max
  have y1 : (j : Int) ≤ (c1 : Int) := by omega
  have y2 : (0 : Int) ≤ (j : Int) := by omega
  go_wp2_with fail
  refine Calls.mono (back_off p Hr.out j hjl A1 j c1 w8 Hup.out (by omega)) ?_
  rintro e w9 ⟨s9, rfl, -, hb9⟩
  have Hb9 := hid_ (Hb8.out.trans (hb9.mono Hb8.out.size))
  clear hb9
  go_wp2_with fail
  refine Calls.mono (Hal.out _) ?_
  rintro e w10 ⟨rfl, hb10⟩
  have Hb10 := hid_ ((Hb9.out.alloc Hb9.out.size (.cells (packCells zeroP s9) 30)).trans (hb10.mono (Hb9.out.alloc Hb9.out.size (.cells (packCells zeroP s9) 30)).size))
  clear hb10
  go_wp2_with fail
  go_ret
  exact ⟨rfl, Hb10.out⟩

set_option maxRecDepth 100000 in
theorem lifted (os : Os) (started : os.Started) (H : Type) (enc : TypeId × Value → H) :
    ReturnsInHanded {} Try.checked os 5 .any (Rows.messageBackSpec.pre6 enc Try.prog Try.f5 Rows.messageBackRow.domain false) (Rows.messageBackSpec.post enc Try.prog Try.f5 false true false false) := by
  refine returnsInHanded_of_change (C := Try.checked) own started (by kernel_rfl) Try.func5
    (ChangeSpec.witness6 (enc := enc) (C := Try.checked) false ⟨#[], #[(.agg #[.int .i64 0, .int .u64 0, .int .u64 0, .int .u64 0, .int .u64 0, .int .u64 0, .int .i64 0, .bool false, .slice none 0 0, .slice none 0 0, .slice none 0 0]), .int .i64 0, .int .u8 0], []⟩ 8 (by kernel_rfl) (by kernel_rfl) (by kernel_rfl) (by kernel_rfl)) ?_
  intro W base args ds gs before hval0 hW hcnd _
  have hval : ∀ (j : Nat) t v, Try.f5.params[j]? = some t → args[j]? = some v → Value.okWide Try.prog W .any base t v := hval0
  have hW' := hW
  obtain ⟨p, q, hA0, hV, rfl, hfz, hnd⟩ := hW
  have hA : DataW.TrodAll enc Try.prog W 0 (fun _ => true) true Try.f5.params.toList args.toList ds p := hA0
  rw [Try.params5] at hA hval
  obtain ⟨v0, vs0, d0, ds0, p0, q0, hargs, rfl, rfl, h0, r0⟩ := trodAll_cons hA
  obtain ⟨v1, vs1, d1, ds1, p1, q1, rfl, rfl, rfl, h1, r1⟩ := trodAll_cons r0
  obtain ⟨v2, vs2, d2, ds2, p2, q2, rfl, rfl, rfl, h2, r2⟩ := trodAll_cons r1
  obtain ⟨rfl, rfl, rfl⟩ := trodAll_nil r2
  obtain rfl : args = #[v0, v1, v2] := by cases args; simp_all
  obtain ⟨rfl, rfl⟩ := trodVars_none hV
  have k0 := h0
  have lt0 : ∀ x ∈ p0, x.block < W.heap.size := by obtain ⟨m, hm⟩ := k0; exact DataW.trod_lt m _ _ _ hm
  have w0 : PacketV W v0 := open_packetV (hval 0 30 v0 rfl rfl) h0
  obtain ⟨a1, rfl, rfl, rfl, w1⟩ := open_int Try.underlying3 (hval 1 3 v1 rfl rfl) h1
  obtain ⟨a2, rfl, rfl, rfl, w2⟩ := open_int Try.underlying5 (hval 2 5 v2 rfl rfl) h2
  clear hA0 hval0
  refine (walk v0 a1 a2 W w0 w1 w2).mono fun e W' ⟨he, bel⟩ => ?_
  subst he
  exact ⟨_, rfl, _, _, _, [], _, [], hW', trodAll_mk1 (shut_bool Try.underlying4 _), (trodAll_cons_mk (Below.trod laidOut (by kernel_rfl) (of_decide_eq_true (by kernel_rfl)) k0 bel lt0) (trodAll_cons_mk (shut_int Try.underlying3 w1) (trodAll_cons_mk (shut_int Try.underlying5 w2) trodAll_mk0))), rfl, bel.frame _, fun h => by cases h⟩

theorem over : Rows.messageBackRow.holds Try.pinned (OpenSpec.ofChange Rows.messageBackSpec) :=
  OpenClaim.holds_of_wide 5 Try.f5 rfl rfl rfl rfl rfl rfl rfl ⟨rfl, rfl, rfl, rfl, rfl⟩ rfl rfl rfl rfl rfl (by kernel_rfl) Try.func5 (by kernel_rfl)
    (of_decide_eq_true (by kernel_rfl)) (by unfold Func.isWrapper; first | (rw [if_pos (by decide +kernel)]; kernel_rfl) | (rw [if_neg (by decide +kernel)]; exact ⟨rfl, rfl⟩))
    (fun os started H enc _ => lifted os started H enc)

theorem proved : Rows.MessageBackSaid := over
#print axioms proved
end Go.Proofs.Ytnhkoppfopgajaa.messageBack
