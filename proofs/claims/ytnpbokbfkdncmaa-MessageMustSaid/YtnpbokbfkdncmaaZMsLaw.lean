/-
  The law on what must be an Ask, at any packet.
-/
import Derived.Test.YtnpbokbfkdncmaaZForms
import Derived.Test.YtnpbokbfkdncmaaZGS
import Derived.Test.YtnpbokbfkdncmaaZMustA4
import Derived.Test.YtnpbokbfkdncmaaZMustA6
import Derived.Test.YtnpbokbfkdncmaaZMustNo
import Derived.Test.YtnpbokbfkdncmaaZMustWrong
import Derived.Test.YtnpbokbfkdncmaaZOfs
namespace Go.Proofs.Ytnpbokbfkdncmaa
set_option linter.unusedSimpArgs false
set_option linter.unusedVariables false
open Go.RowKit Ru
set_option maxRecDepth 100000 in
set_option maxHeartbeats 8000000 in
theorem mustGreat_any (p : PackD) (s : PackS) (what : Int) (w : World) (hp : PackIn w p s) (hw : p.Wf) (hl : lightF p = false) :
    Calls Try.prog 4 #[packVal p s, .int .i64 what] w (BoolIs w true) := by
  have Hlt := hid_ (fun (W : World) (hb : Below w.heap.size w W) => mslight_any p s W (hp.below hb) hw)
  have Hal := hid_ (fun W => msalive_any W)
  have Ha := hid_ (show Below w.heap.size w (w.alloc (.cells (packCells p s) 30)) from (Below.refl w.heap.size w).alloc (Nat.le_refl _) _)
  rw [hl] at Hlt
  clear hl hp hw
  go_enter Try.func4, Try.ntmps4
  go_wp2_with fail
  refine Calls.mono (Hlt.out _ Ha.out) ?_
  rintro e w2 ⟨rfl, hb2⟩
  have Hb2 := hid_ (Ha.out.trans (hb2.mono Ha.out.size))
  clear hb2
  go_wp2_with fail
  refine Calls.mono (Hal.out _) ?_
  rintro e w3 ⟨rfl, hb3⟩
  have Hb3 := hid_ (Hb2.out.trans (hb3.mono Hb2.out.size))
  clear hb3
  go_wp2_with fail
  go_ret
  exact boolIs_mk rfl Hb3.out
theorem must_law (p : PackD) (s : PackS) (what : Int) (w : World) (hp : PackIn w p s) (hw : p.Wf) :
    Calls Try.prog 4 #[packVal p s, .int .i64 what] w (BoolIs w true) := by
  cases hl : lightF p
  · exact mustGreat_any p s what w hp hw hl
  obtain ⟨k, tr, bn, bd, sn, sd, v, ok, l1, l2, l3⟩ := p
  obtain ⟨a1, c1, a2, c2, a3, c3⟩ := s
  have hm : l1.length ≤ 1000 ∧ l2.length ≤ 1000 ∧ l3.length ≤ 1000 := by
    have hf : l1.length ≤ 40 ∧ l2.length ≤ 100 ∧ l3.length ≤ 100 := light_few hl
    omega
  have hlt : ∀ W, Below w.heap.size w W → Calls Try.prog 5 #[packVal ⟨k, tr, bn, bd, sn, sd, v, ok, l1, l2, l3⟩ ⟨a1, c1, a2, c2, a3, c3⟩] W (BoolIs W true) := fun W hb => by
    have h := mslight_any ⟨k, tr, bn, bd, sn, sd, v, ok, l1, l2, l3⟩ ⟨a1, c1, a2, c2, a3, c3⟩ W (hp.below hb) hw
    rw [hl] at h
    exact h
  cases hr : rightP ⟨k, tr, bn, bd, sn, sd, v, ok, l1, l2, l3⟩
  · exact mustWrong_any k tr bn bd sn sd v ok l1 l2 l3 a1 c1 a2 c2 a3 c3 what w hlt (fun W hb => ofno_any ⟨k, tr, bn, bd, sn, sd, v, ok, l1, l2, l3⟩ ⟨a1, c1, a2, c2, a3, c3⟩ W (hp.below hb) hw (by show l1.length ≤ _; omega) hr)
  have hk : 1 ≤ k ∧ k ≤ 10 := (right_facts hr).kind
  rcases kind_cases hk with rfl | rfl | rfl | rfl | rfl | rfl | rfl | rfl | rfl | rfl
  · exact mustNo_any 1 tr bn bd sn sd v ok l1 l2 l3 a1 c1 a2 c2 a3 c3 what w hlt (fun W hb => Calls.mono (of1k_any tr bn bd sn sd v ok l1 l2 l3 a1 c1 a2 c2 a3 c3 W (hp.below hb) hw hm hr (form1 hr).2.2.2.2.2.2.2.2) fun e w2 ⟨A, c, he, _, hb2⟩ => ⟨_, he, (fun W2 => mustask_Spans _ W2), hb2⟩) (by decide) (by decide)
  · exact mustNo_any 2 tr bn bd sn sd v ok l1 l2 l3 a1 c1 a2 c2 a3 c3 what w hlt (fun W hb => Calls.mono (of2k_any tr bn bd sn sd v ok l1 l2 l3 a1 c1 a2 c2 a3 c3 W (hp.below hb) hw hm hr (form2 hr).2.2.2.2.2.2.2.2) fun e w2 ⟨A, c, he, _, hb2⟩ => ⟨_, he, (fun W2 => mustask_Spans _ W2), hb2⟩) (by decide) (by decide)
  · exact mustNo_any 3 tr bn bd sn sd v ok l1 l2 l3 a1 c1 a2 c2 a3 c3 what w hlt (fun W hb => Calls.mono (of3k_any tr bn bd sn sd v ok l1 l2 l3 a1 c1 a2 c2 a3 c3 W (hp.below hb) hw hm hr (form3 hr).2.2.2.2.2.2.2.2.2) fun e w2 ⟨A, c, he, _, hb2⟩ => ⟨_, he, (fun W2 => mustask_Members _ W2), hb2⟩) (by decide) (by decide)
  · exact mustA4_any tr bn bd sn sd v ok l1 l2 l3 a1 c1 a2 c2 a3 c3 what w hlt (fun W hb => Calls.mono (of4k_any tr bn bd sn sd v ok l1 l2 l3 a1 c1 a2 c2 a3 c3 W (hp.below hb) hw hm hr) fun e w2 ⟨A, c, he, _, hb2⟩ => ⟨he, hb2⟩)
  · exact mustNo_any 5 tr bn bd sn sd v ok l1 l2 l3 a1 c1 a2 c2 a3 c3 what w hlt (fun W hb => Calls.mono (of5k_any tr bn bd sn sd v ok l1 l2 l3 a1 c1 a2 c2 a3 c3 W (hp.below hb) hw hm hr) fun e w2 ⟨A, c, he, _, hb2⟩ => ⟨_, he, (fun W2 => mustask_Reply _ W2), hb2⟩) (by decide) (by decide)
  · exact mustA6_any tr bn bd sn sd v ok l1 l2 l3 a1 c1 a2 c2 a3 c3 what w hlt (fun W hb => Calls.mono (of6k_any tr bn bd sn sd v ok l1 l2 l3 a1 c1 a2 c2 a3 c3 W (hp.below hb) hw hm hr) fun e w2 ⟨A, c, he, _, hb2⟩ => ⟨he, hb2⟩)
  · exact mustNo_any 7 tr bn bd sn sd v ok l1 l2 l3 a1 c1 a2 c2 a3 c3 what w hlt (fun W hb => Calls.mono (of7k_any tr bn bd sn sd v ok l1 l2 l3 a1 c1 a2 c2 a3 c3 W (hp.below hb) hw hm hr) fun e w2 ⟨A, c, he, _, hb2⟩ => ⟨_, he, (fun W2 => mustask_Reply _ W2), hb2⟩) (by decide) (by decide)
  · exact mustNo_any 8 tr bn bd sn sd v ok l1 l2 l3 a1 c1 a2 c2 a3 c3 what w hlt (fun W hb => Calls.mono (of8k_any tr bn bd sn sd v ok l1 l2 l3 a1 c1 a2 c2 a3 c3 W (hp.below hb) hw hm hr) fun e w2 ⟨A, c, he, _, hb2⟩ => ⟨_, he, (fun W2 => mustask_Told _ W2), hb2⟩) (by decide) (by decide)
  · exact mustNo_any 9 tr bn bd sn sd v ok l1 l2 l3 a1 c1 a2 c2 a3 c3 what w hlt (fun W hb => Calls.mono (of9k_any tr bn bd sn sd v ok l1 l2 l3 a1 c1 a2 c2 a3 c3 W (hp.below hb) hw hm hr (form9 hr).2.2.2.2.2.2) fun e w2 ⟨A, c, he, _, hb2⟩ => ⟨_, he, (fun W2 => mustask_Stored _ W2), hb2⟩) (by decide) (by decide)
  · exact mustNo_any 10 tr bn bd sn sd v ok l1 l2 l3 a1 c1 a2 c2 a3 c3 what w hlt (fun W hb => Calls.mono (of10k_any tr bn bd sn sd v ok l1 l2 l3 a1 c1 a2 c2 a3 c3 W (hp.below hb) hw hm hr (form10 hr).2.2.2.2.2.2.2.2) fun e w2 ⟨A, c, he, _, hb2⟩ => ⟨_, he, (fun W2 => mustask_Acked _ W2), hb2⟩) (by decide) (by decide)
end Go.Proofs.Ytnpbokbfkdncmaa
