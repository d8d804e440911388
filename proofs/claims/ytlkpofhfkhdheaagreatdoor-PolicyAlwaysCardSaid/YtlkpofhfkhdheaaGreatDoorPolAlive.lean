/-
  The chapter's example of package policy comes.
-/
import Derived.Test.YtlkpofhfkhdheaaGreatDoorHolds
namespace Go.Proofs.YtlkpofhfkhdheaaGreatDoor
open Go.RowKit Ru

abbrev cFail : ByteArray := ⟨#[102, 97, 105, 108]⟩
abbrev cHash : ByteArray := ⟨#[104, 97, 115, 104]⟩

def exFail : RuleD := ⟨true, cFail, 0, ⟨#[]⟩⟩
def exHash : RuleD := ⟨true, cHash, 100, ⟨#[]⟩⟩
def exBad : SpanD := ⟨1, 1, 0, 0, 0, ⟨#[97]⟩, ⟨#[98]⟩, true⟩
theorem what_cfail : whatF cFail = .fail := by
  unfold whatF
  rw [ByteArray.toList_eq]
  rfl
theorem what_chash : whatF cHash = .hash := by
  unfold whatF
  rw [ByteArray.toList_eq]
  rfl
theorem toList_nil : (⟨#[]⟩ : ByteArray).toList = [] := by rw [ByteArray.toList_eq]
theorem ok_fail : ruleOk exFail = true := by
  unfold ruleOk exFail textOk
  simp only [what_cfail, toList_nil]
  rfl
theorem ok_hash : ruleOk exHash = true := by
  unfold ruleOk exHash textOk
  simp only [what_chash, toList_nil]
  rfl
theorem wf_fail : exFail.Wf := ⟨by decide, by decide, by decide⟩
theorem wf_hash : exHash.Wf := ⟨by decide, by decide, by decide⟩
theorem wf_bad : exBad.Wf := ⟨by decide, by decide, by decide, by decide, by decide, by decide, by decide⟩
theorem line_fail : (lineS exFail).data.toList = [107, 101, 101, 112, 32, 102, 97, 105, 108] := by
  unfold lineS lineN exFail
  simp only [what_cfail]
  rw [if_neg (by decide), if_neg (by decide), ba_append]
  rfl
theorem digits_100 : (digitsS 100).data.toList = [49, 48, 48] := by
  show Lib.decDigits 100 = _
  rw [Lib.decDigits, dif_neg (by decide), Lib.decDigits, dif_neg (by decide), Lib.decDigits, dif_pos (by decide)]
  rfl
theorem line_hash : (lineS exHash).data.toList = [107, 101, 101, 112, 32, 104, 97, 115, 104, 32, 49, 48, 48] := by
  unfold lineS lineN exHash
  simp only [what_chash]
  rw [if_pos (by decide), ba_append, ba_append, ba_append, digits_100]
  rfl
theorem ex_text : textS [exFail, exHash] = ⟨#[107, 101, 101, 112, 32, 102, 97, 105, 108, 10, 107, 101, 101, 112, 32, 104, 97, 115, 104, 32, 49, 48, 48]⟩ := by
  apply ba_ext
  show (lineS exFail ++ (⟨#[10]⟩ ++ lineS exHash)).data.toList = _
  rw [ba_append, ba_append, line_fail, line_hash]
  rfl
theorem ex_eval : evalF [exFail, exHash] [exBad] = 1 := by
  have h : holdsF exFail [exBad] = true := by
    unfold holdsF
    rw [ok_fail]
    simp [questF, exFail, exBad]
    rw [what_cfail]
  unfold evalF
  rw [if_neg (by simp), List.find?_cons, h]
  rfl
theorem ex_drop : evalF [] [exBad] = 2 := by unfold evalF; rw [if_neg (by simp)]; rfl
/-- Mix of nothing, its number kept shut. -/
theorem mix_at_zero : ∃ m : Int, (m == 16294208416658607535) = true ∧ ∀ W : World, Calls Tryz.prog 16 #[.int .u64 0] W fun e w' => e = .returned (.int .u64 m) ∧ W = w' :=
  ⟨(mixN 0 : Nat), by rw [mix_zero]; decide, fun W => mix_any 0 W⟩
theorem match_not {r : RuleD} (h : whatF r.what ≠ .name) (w : World) : MatchOk r w := fun e => absurd e h

set_option maxHeartbeats 4000000 in
theorem alive_any (w : World) (htab : PowsB w) :
    Calls Tryz.prog 6 #[] w (BoolIs w true) := by
  have Hp := hid_ (parse_any [exFail, exHash] (by simp) (by
    intro r hr
    simp at hr
    rcases hr with rfl | rfl
    · exact ⟨wf_fail, ok_fail, by rw [line_fail]; decide⟩
    · exact ⟨wf_hash, ok_hash, by rw [line_hash]; decide⟩) (by decide) (by rw [ex_text]; decide) w htab)
  rw [ex_text] at Hp
  clear htab
  have hmw : ∀ r ∈ [exFail, exHash], whatF r.what ≠ .name := by
    intro r hr
    simp at hr
    rcases hr with rfl | rfl
    · show whatF cFail ≠ _; rw [what_cfail]; decide
    · show whatF cHash ≠ _; rw [what_chash]; decide
  have hrw : ∀ r ∈ [exFail, exHash], r.Wf := by
    intro r hr
    simp at hr
    rcases hr with rfl | rfl
    · exact wf_fail
    · exact wf_hash
  have hsw : ∀ s ∈ [exBad], s.Ok := by
    intro s hs
    simp at hs
    subst hs
    exact ⟨wf_bad, by decide⟩
  have He1 := hid_ (fun (W : World) A c A2 (h1 : RuleRow W A 2 c [exFail, exHash]) (h2 : SpanRow W A2 1 1 [exBad]) => eval_any A 2 c [exFail, exHash] A2 1 1 [exBad] W h1 hrw h2 (by decide) hsw (fun r hr => match_not (hmw r hr) W))
  rw [ex_eval] at He1
  have He2 := hid_ (fun (W : World) A c (h1 : RuleRow W A 2 c [exFail, exHash]) => eval_any A 2 c [exFail, exHash] none 0 0 [] W h1 hrw ⟨fun h => absurd rfl h, rfl, Nat.le_refl _, by omega, fun _ => rfl⟩ (by decide) (by simp) (fun r hr => match_not (hmw r hr) W))
  rw [eval_none] at He2
  have He3 := hid_ (fun (W : World) A2 (h2 : SpanRow W A2 1 1 [exBad]) => eval_any none 0 0 [] A2 1 1 [exBad] W (RuleRow.none W) (by simp) h2 (by decide) hsw (by simp))
  rw [ex_drop] at He3
  obtain ⟨m, hm, Hm⟩ := mix_at_zero
  have Hm := hid_ Hm
  clear hmw hrw hsw
  go_enter Tryz.func6, Tryz.ntmps6
  go_wp2_with fail
  refine Calls.mono Hp.out ?_
  rintro e w1 ⟨A, c, rfl, hown, hb1⟩
  have Hrow := hid_ hown.row
  have Hb1 := hid_ hb1
  have hcap := hown.row.cap
  have hmax := hown.row.max
  clear hown hb1
  go_wp2_with fail
  have hrow := Hrow.out
  refine Calls.mono (He1.out _ A c (some ⟨w1.heap.size, 0, none⟩) (hrow.below (Below.alloc (Below.refl _ _) (Nat.le_refl _) _)) (row_one w1 exBad _)) ?_
  rintro e w2 ⟨rfl, hb2⟩
  have Hb2 := hid_ hb2
  have Hrow2 := hid_ (show RuleRow w2 A 2 c [exFail, exHash] from hrow.below (Below.trans (Below.alloc (Below.refl _ _) (Nat.le_refl _) _) (hb2.mono (by simp))))
  have Hs2 := hid_ (show SpanRow w2 (some ⟨w1.heap.size, 0, none⟩) 1 1 [exBad] from (row_one w1 exBad _).below hb2)
  have Hb12 := hid_ (show Below w.heap.size w w2 from Below.trans Hb1.out (Below.trans (Below.alloc (Below.refl _ _) Hb1.out.size _) (hb2.mono (by have := Hb1.out.size; simp; omega))))
  clear hb2 hrow Hrow Hb1 Hb2
  go_wp2_with fail
  refine Calls.mono (He2.out _ A c Hrow2.out) ?_
  rintro e w3 ⟨rfl, hb3⟩
  have Hs3 := hid_ (Hs2.out.below hb3)
  have Hb13 := hid_ (show Below w.heap.size w w3 from Below.trans Hb12.out (hb3.mono Hb12.out.size))
  clear hb3 Hb12 Hrow2
  go_wp2_with fail
  refine Calls.mono (He3.out _ (some ⟨w1.heap.size, 0, none⟩) Hs3.out) ?_
  rintro e w4 ⟨rfl, hb4⟩
  have Hb14 := hid_ (show Below w.heap.size w w4 from Below.trans Hb13.out (hb4.mono Hb13.out.size))
  clear hb4 Hb13
  go_wp2_with fail
  refine Calls.mono (Hm.out _) ?_
  rintro e w5 ⟨rfl, rfl⟩
  go_wp2_with fail
  go_ret
  exact boolIs_mk rfl Hb14.out
end Go.Proofs.YtlkpofhfkhdheaaGreatDoor
