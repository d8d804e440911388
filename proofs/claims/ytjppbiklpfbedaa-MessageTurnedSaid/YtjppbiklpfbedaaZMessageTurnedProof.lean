/-
  MessageTurned: of a packet whose lists are short (of others nothing is asked) a byte of its bytes that is turned, but of their length, is seen: Decode says that they are no frame, and answers the zero packet; no condition on the input.
  The frame round the walk is written by the guide's own program for this statement.
-/
import Derived.Test.YtjppbiklpfbedaaZDecShort
import Derived.Test.YtjppbiklpfbedaaZGH
import Derived.Test.YtjppbiklpfbedaaZGM
import Derived.Test.YtjppbiklpfbedaaZMsAlive
import Derived.Test.YtjppbiklpfbedaaZSame01
import Derived.Test.YtjppbiklpfbedaaRows
import Derived.WalkKit
import Derived.ProofKit
import Derived.OpenShut
import Derived.ShutString
import Derived.ChangeOld
import Derived.Below
namespace Go.Proofs.Ytjppbiklpfbedaa.messageTurned
set_option linter.unusedSimpArgs false
set_option linter.unusedVariables false
open Go.ChangeShapes Go.WideShapes Go.ChangeAt Go.RowKit
open Go.ChangeMaps (open_string shut_string)
set_option linter.unusedVariables false

theorem own : ownKnob Try.prog.godebug = none := by kernel_rfl
theorem laidOut : laidOutB Try.prog = true := by kernel_rfl

/-- WHAT THE WALK IS TOLD OF A SLICE OF INTEGERS THAT CAME IN: it is nil; or it leads to a row of 'cap' cells, the numbers 'zs' (the first 'len' are its elements, the rest its spare room), each fitting its kind. -/
def IsRow (k : IntKind) (w : World) (a : Option Addr) (len cap : Nat) (zs : List Int) : Prop :=
  (a = none ∧ len = 0 ∧ cap = 0 ∧ zs = []) ∨
  ∃ x, a = some x ∧ len ≤ cap ∧ cap ≤ maxLen ∧ zs.length = cap ∧ (∀ i, i < zs.length → w.cell? (x.add i) = some (.int k (zs.getD i 0))) ∧ ∀ n ∈ zs, (Lit.int k n).wf = true

open Ru Fm
theorem zero_same (s : PackS) (W : World) (h : PackIn W zeroP s) : Calls Try.prog 21 #[packVal zeroP s, .agg #[.int .i64 0, .int .u64 0, .int .u64 0, .int .u64 0, .int .u64 0, .int .u64 0, .int .i64 0, .bool false, .slice none 0 0, .slice none 0 0, .slice none 0 0]] W (BoolIs W true) := by
  have := refsame_any zeroP zeroP s noneS W h (packIn_none W zeroP rfl rfl rfl)
  rw [sameP_self] at this
  exact this
theorem turned_short (A : Option Addr) (n c : Nat) (b : List UInt8) (w : World) (hs : Sl w A n c b) (hn : n ≤ 140737488355328) (hk : cutF b = (2, [], [])) :
    Calls Try.prog 25 #[.slice A n c] w (fun e w' => ∃ s, e = .returned (.tuple #[packVal zeroP s, .int .i64 2]) ∧ PackIn w' zeroP s ∧ Below w.heap.size w w') := by
  refine Calls.mono (decode_short A n c b w hs hn (by rw [hk]; decide)) ?_
  rintro e w' ⟨s, rfl, hi, hb⟩
  have : decF b = (2, zeroP) := dec_short (by rw [hk]) (by decide)
  rw [this] at hi ⊢
  exact ⟨s, rfl, hi, hb⟩
set_option maxRecDepth 100000 in
set_option maxHeartbeats 8000000 in
theorem walk (v0 : Value) (a1 : Int) (a2 : Int) (w : World) (w0 : PacketV w v0) (w1 : (Lit.int .i64 a1).wf = true) (w2 : (Lit.int .u8 a2).wf = true) :
    Calls Try.prog 7 #[v0, .int .i64 a1, .int .u8 a2] w fun e w' => e = .returned (.bool true) ∧ Below w.heap.size w w' := by
  obtain ⟨p, s, rfl, hp, hw, -⟩ := w0
  have HltP := hid_ (fun (W : World) (hb : Below w.heap.size w W) => mslight_any p s W (hp.below hb) hw)
  have HeP := hid_ (fun (W : World) (hb : Below w.heap.size w W) (hm : lightF p = true) => encode_any p s W (hp.below hb) hw (by have := (light_few hm).1; omega))
  have Hal := hid_ (fun W => msalive_any W)
  have Hlit := hid_ (fun W : World => own_lit W [] #[] rfl 0 rfl (by omega) w.heap.size)
  have Ha := hid_ (show Below w.heap.size w (w.alloc (.cells (packCells p s) 30)) from (Below.refl w.heap.size w).alloc (Nat.le_refl _) _)
  have BP := hid_ (whole_new w 30 (packCells p s))
  clear hp hw
  cases hl : lightF p
  · rw [hl] at HltP
    clear hl w1 w2
    go_enter Try.func7, Try.ntmps7
    go_wp2_with fail
    refine Calls.mono (HltP.out _ Ha.out) ?_
    rintro e w2 ⟨rfl, hb2⟩
    have Hb2 := hid_ (Ha.out.trans (hb2.mono Ha.out.size))
    clear hb2
    go_wp2_with fail
    refine Calls.mono (Hal.out _) ?_
    rintro e w3 ⟨rfl, hb3⟩
    have Hb3 := hid_ (Hb2.out.trans (hb3.mono Hb2.out.size))
    clear hb3
    go_wp2_with fail
    go_ret
    exact ⟨rfl, Hb3.out⟩
  have HlP := hid_ hl
  rw [hl] at HltP
  clear hl
  by_cases ht : a2 = 0
  · have e3 : (a2 == 0) = true := by simp [ht]
    clear ht w1 w2
    go_enter Try.func7, Try.ntmps7
    go_wp2_with fail
    refine Calls.mono (HltP.out _ Ha.out) ?_
    rintro e w2 ⟨rfl, hb2⟩
    have Hb2 := hid_ (Ha.out.trans (hb2.mono Ha.out.size))
    clear hb2
    go_wp2_with fail
    refine Calls.mono (Hal.out _) ?_
    rintro e w3 ⟨rfl, hb3⟩
    have Hb3 := hid_ (Hb2.out.trans (hb3.mono Hb2.out.size))
    clear hb3
    go_wp2_with fail
    go_ret
    exact ⟨rfl, Hb3.out⟩
  have e3 : (a2 == 0) = false := by simpa using ht
  have hat : -9223372036854775808 ≤ a1 ∧ a1 ≤ 9223372036854775807 := by simpa [Lit.wf, IntKind.min, IntKind.max, IntKind.bits, IntKind.signed] using w1
  obtain ⟨hat1, hat2⟩ := hat
  obtain ⟨x, rfl⟩ := byte_of w2
  have hx0 := hid_ (show x ≠ 0 by rintro rfl; exact ht rfl)
  clear ht w1 w2
  go_enter Try.func7, Try.ntmps7
  go_wp2_with fail
  refine Calls.mono (HltP.out _ Ha.out) ?_
  rintro e w2 ⟨rfl, hb2⟩
  have Hb2 := hid_ (Ha.out.trans (hb2.mono Ha.out.size))
  have BP2 := hid_ (BP.out.below hb2 BP.out.lt)
  clear hb2
  obtain ⟨x0, x1, x2, x3, x4, x5, x6, x7, x8, x9, x10⟩ := pack_facts BP2.out
  go_wp2_with fail
  refine Calls.mono (HeP.out _ Hb2.out HlP.out) ?_
  rintro e w3 (⟨-, rfl, hb3⟩ | ⟨hr, A1, n1, c1, rfl, ho, hb3⟩)
  · have Hb3 := hid_ (Hb2.out.trans (hb3.mono Hb2.out.size))
    clear hb3
    go_wp2_with fail
    refine Calls.mono (Hal.out _) ?_
    rintro e w4 ⟨rfl, hb4⟩
    have Hb4 := hid_ (Hb3.out.trans (hb4.mono Hb3.out.size))
    clear hb4
    go_wp2_with fail
    go_ret
    exact ⟨rfl, Hb4.out⟩
  have Hb3 := hid_ (Hb2.out.trans (hb3.mono Hb2.out.size))
  have Hs := hid_ ho.sl
  have Hd := hid_ (written_le (right_facts hr)).2
  have hn1 : n1 ≤ 8200 := by have := ho.sl.len; rw [encF, framed_length] at this; have := (written_le (right_facts hr)).2; omega
  have Hlen := hid_ ho.sl.len
  clear hb3 ho hr x0 x1 x2 x3 x4 x5 x6 x7 x8 x9 x10
  by_cases h4 : a1 < 4
  · have e4 : decide (a1 < 4) = true := decide_eq_true h4
    go_wp2_with fail
    refine Calls.mono (Hal.out _) ?_
    rintro e w4 ⟨rfl, hb4⟩
    have Hb4 := hid_ (Hb3.out.trans (hb4.mono Hb3.out.size))
    clear hb4
    go_wp2_with fail
    go_ret
    exact ⟨rfl, Hb4.out⟩
  have e4 : decide (a1 < 4) = false := decide_eq_false h4
  obtain ⟨j, rfl⟩ := Int.eq_ofNat_of_zero_le (show 0 ≤ a1 by omega)
  by_cases hj : n1 ≤ j
  · have e5 : decide (n1 ≤ j) = true := decide_eq_true hj
    go_wp2_with fail
    refine Calls.mono (Hal.out _) ?_
    rintro e w4 ⟨rfl, hb4⟩
    have Hb4 := hid_ (Hb3.out.trans (hb4.mono Hb3.out.size))
    clear hb4
    go_wp2_with fail
    go_ret
    exact ⟨rfl, Hb4.out⟩
  have e5 : decide (n1 ≤ j) = false := decide_eq_false hj
  have hjf : j < (encF p).length := by rw [Hlen.out]; omega
  have Hseen := hid_ (cut_turned (writtenF p) Hd.out j (by omega) hjf x hx0.out)
  have hxb := Crc.byte_xor (encF p)[j] x
  have y1 : (j : Int) < (n1 : Int) := by omega
  have y2 : (0 : Int) ≤ (j : Int) := by omega
  go_wp2_with (at_builtin; (refine wpList_bytes rfl (.tmp 38) (.tmp 39) rfl w.heap.size _ 0 _ _ rfl (Hlit.out w3 Hb3.out.size) _ _ c1 (encF p) rfl (Hs.out.below ((Below.refl _ _).alloc (Nat.le_refl _) _)) n1 (encF p) (by omega) rfl (by omega) (by have := Hb3.out.size; simp; omega) ?_); intro A2 c2 w4 ho' hb'; have Hb4 := hid_ ((Hb3.out.alloc Hb3.out.size _).trans hb'); have Ho4 := hid_ ho'; clear ho' hb'; obtain ⟨g, rfl, hg, hg2⟩ := Ho4.out.place (by omega); obtain ⟨hc, hf, ho3', hb3'⟩ := Ho4.out.store hg j hjf ((encF p)[j] ^^^ x); have Ho5 := hid_ ho3'; have Hb5 := hid_ (Hb4.out.trans hb3'); clear ho3' hb3')
  refine Calls.mono (turned_short _ _ _ _ _ Ho5.out.sl (by omega) Hseen.out) ?_
  rintro e w6 ⟨s', rfl, hi, hb6⟩
  have Hb6 := hid_ (Below.trans Hb5.out (hb6.mono Hb5.out.size))
  have Hzs := hid_ (fun (W : World) (hb : Below w6.heap.size w6 W) => zero_same s' W (hi.below hb))
  clear hi hb6
  go_wp2_with fail
  refine Calls.mono (Hzs.out _ ?_) ?_
  · repeat (first | exact Below.refl _ _ | refine Below.alloc ?_ (Nat.le_refl _) _)
  rintro e w7 ⟨rfl, hb7⟩
  have Hb7 := hid_ (Below.trans (Below.alloc Hb6.out Hb6.out.size (.cells (packCells zeroP s') 30)) (hb7.mono (Below.alloc Hb6.out Hb6.out.size (.cells (packCells zeroP s') 30)).size))
  clear hb7
  go_wp2_with fail
  refine Calls.mono (Hal.out _) ?_
  rintro e w8 ⟨rfl, hb8⟩
  have Hb8 := hid_ (Hb7.out.trans (hb8.mono Hb7.out.size))
  clear hb8
  go_wp2_with fail
  go_ret
  exact ⟨rfl, Hb8.out⟩

set_option maxRecDepth 100000 in
theorem lifted (os : Os) (started : os.Started) (H : Type) (enc : TypeId × Value → H) :
    ReturnsInHanded {} Try.checked os 7 .any (Rows.messageTurnedSpec.pre6 enc Try.prog Try.f7 Rows.messageTurnedRow.domain false) (Rows.messageTurnedSpec.post enc Try.prog Try.f7 false true false false) := by
  refine returnsInHanded_of_change (C := Try.checked) own started (by kernel_rfl) Try.func7
    (ChangeSpec.witness6 (enc := enc) (C := Try.checked) false ⟨#[], #[(.agg #[.int .i64 0, .int .u64 0, .int .u64 0, .int .u64 0, .int .u64 0, .int .u64 0, .int .i64 0, .bool false, .slice none 0 0, .slice none 0 0, .slice none 0 0]), .int .i64 0, .int .u8 0], []⟩ 8 (by kernel_rfl) (by kernel_rfl) (by kernel_rfl) (by kernel_rfl)) ?_
  intro W base args ds gs before hval0 hW hcnd _
  have hval : ∀ (j : Nat) t v, Try.f7.params[j]? = some t → args[j]? = some v → Value.okWide Try.prog W .any base t v := hval0
  have hW' := hW
  obtain ⟨p, q, hA0, hV, rfl, hfz, hnd⟩ := hW
  have hA : DataW.TrodAll enc Try.prog W 0 (fun _ => true) true Try.f7.params.toList args.toList ds p := hA0
  rw [Try.params7] at hA hval
  obtain ⟨v0, vs0, d0, ds0, p0, q0, hargs, rfl, rfl, h0, r0⟩ := trodAll_cons hA
  obtain ⟨v1, vs1, d1, ds1, p1, q1, rfl, rfl, rfl, h1, r1⟩ := trodAll_cons r0
  obtain ⟨v2, vs2, d2, ds2, p2, q2, rfl, rfl, rfl, h2, r2⟩ := trodAll_cons r1
  obtain ⟨rfl, rfl, rfl⟩ := trodAll_nil r2
  obtain rfl : args = #[v0, v1, v2] := by cases args; simp_all
  obtain ⟨rfl, rfl⟩ := trodVars_none hV
  have k0 := h0
  have lt0 : ∀ x ∈ p0, x.block < W.heap.size := by obtain ⟨m, hm⟩ := k0; exact DataW.trod_lt m _ _ _ hm
  have w0 : PacketV W v0 := open_packetV (hval 0 30 v0 rfl rfl) h0
  obtain ⟨a1, rfl, rfl, rfl, w1⟩ := open_int Try.underlying3 (hval 1 3 v1 rfl rfl) h1
  obtain ⟨a2, rfl, rfl, rfl, w2⟩ := open_int Try.underlying5 (hval 2 5 v2 rfl rfl) h2
  clear hA0 hval0
  refine (walk v0 a1 a2 W w0 w1 w2).mono fun e W' ⟨he, bel⟩ => ?_
  subst he
  exact ⟨_, rfl, _, _, _, [], _, [], hW', trodAll_mk1 (shut_bool Try.underlying4 _), (trodAll_cons_mk (Below.trod laidOut (by kernel_rfl) (of_decide_eq_true (by kernel_rfl)) k0 bel lt0) (trodAll_cons_mk (shut_int Try.underlying3 w1) (trodAll_cons_mk (shut_int Try.underlying5 w2) trodAll_mk0))), rfl, bel.frame _, fun h => by cases h⟩

theorem over : Rows.messageTurnedRow.holds Try.pinned (OpenSpec.ofChange Rows.messageTurnedSpec) :=
  OpenClaim.holds_of_wide 7 Try.f7 rfl rfl rfl rfl rfl rfl rfl ⟨rfl, rfl, rfl, rfl, rfl⟩ rfl rfl rfl rfl rfl (by kernel_rfl) Try.func7 (by kernel_rfl)
    (of_decide_eq_true (by kernel_rfl)) (by unfold Func.isWrapper; first | (rw [if_pos (by decide +kernel)]; kernel_rfl) | (rw [if_neg (by decide +kernel)]; exact ⟨rfl, rfl⟩))
    (fun os started H enc _ => lifted os started H enc)

theorem proved : Rows.MessageTurnedSaid := over
#print axioms proved
end Go.Proofs.Ytjppbiklpfbedaa.messageTurned
