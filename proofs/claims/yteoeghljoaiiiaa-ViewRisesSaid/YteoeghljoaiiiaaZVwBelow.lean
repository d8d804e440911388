/-
  The law's 'below'; a merged view is a view; versions of merged views.
-/
import Derived.Test.YteoeghljoaiiiaaZViewOpen
namespace Go.Proofs.Yteoeghljoaiiiaa
set_option linter.unusedSimpArgs false
set_option linter.unusedVariables false
open Go.RowKit Ru
attribute [local go_sem ↓] Go.wp_at_zero Go.wp_at_succ
namespace Vw
set_option linter.unusedSimpArgs false
set_option linter.unusedVariables false
theorem right_merged {a b mg : List MemberD} (ha : rightV a = true) (hb : rightV b = true) (h : IsMerge a b mg) (hl : mg.length ≤ 16) : rightV mg = true := by
  have hpos : ∀ l : List MemberD, rightV l = true → ∀ m ∈ l, 0 < m.id := by
    intro l hl m hm
    unfold rightV membersF at hl
    simp only [Bool.and_eq_true] at hl
    exact ((risesFrom_iff _ _).1 hl.2.2).1 _ (List.mem_map.2 ⟨m, hm, rfl⟩)
  unfold rightV membersF
  rw [decide_eq_true hl, Bool.true_and, Bool.and_eq_true]
  refine ⟨List.all_eq_true.2 fun m hm => ?_, (risesFrom_iff _ _).2 ⟨fun x hx => ?_, h.1⟩⟩
  · rcases merge_mem h hm with h1 | h1
    · exact right_ok ha m h1
    · exact right_ok hb m h1
  · obtain ⟨m, hm, rfl⟩ := List.mem_map.1 hx
    rcases merge_mem h hm with h1 | h1
    · exact hpos a ha m h1
    · exact hpos b hb m h1
/-- Each of a is in r, or a newer one. -/
def IsBelow (a r : List MemberD) : Prop := ∀ m ∈ a, ∃ m', getF r m.id = some m' ∧ newerB m m' = false
theorem isBelow_left {a b mg : List MemberD} (ha : Rising a) (h : IsMerge a b mg) : IsBelow a mg := fun _ hm =>
  let ⟨m', h1, h2, _⟩ := merge_below ha h hm
  ⟨m', h1, h2⟩
theorem merge_flip {a b mg : List MemberD} (h : IsMerge a b mg) : IsMerge b a mg := ⟨h.1, fun id => by rw [h.2]; exact joinO_comm id⟩
theorem vers_merged {a b mg : List MemberD} (ha : rightV a = true) (hm : rightV mg = true) (h : IsMerge a b mg) : versF a ≤ versF mg ∧ (versF a = versF mg → a = mg) := by
  refine vers_rises (right_rising ha) h.1 fun m hmem => ?_
  obtain ⟨m', h1, _, h2⟩ := merge_below (right_rising ha) h hmem
  refine ⟨m', h1, ?_⟩
  rcases h2 with h2 | h2
  · exact .inl h2
  · exact .inr (weight_newer (right_ok ha m hmem) (right_ok hm m' (getF_some h1).1) h2)
set_option maxRecDepth 100000 in
set_option maxHeartbeats 8000000 in
theorem vbelow_any (A A' : Option Addr) (n n' c c' : Nat) (a r : List MemberD) (w : World) (h1 : MemRow w A n c a) (h2 : MemRow w A' n' c' r) (hB : IsBelow a r) :
    Calls Try.prog 61 #[.slice A n c, .slice A' n' c'] w (BoolIs w true) := by
  obtain rfl := h1.len
  have hle := Nat.le_trans h1.cap h1.max
  have H1 := hid_ h1
  have HBl := hid_ hB
  have HF := hid_ (fun (W : World) (id : Nat) (h : Below w.heap.size w W) => rfind_any A' n' c' r id W (h2.below h))
  clear h1 h2 hB
  go_enter Try.func61, Try.ntmps61
  go_wp2_with fail
  go_loopw [5] (fun vi wr => ∃ k : Nat, k ≤ a.length ∧ vi = .int .i64 (k : Nat) ∧ Hid (Below w.heap.size w wr)) (fun vi _ => a.length - (intOf vi).toNat)
  case atStart => exact ⟨0, Nat.zero_le _, rfl, hid_ (Below.refl _ _)⟩
  case round =>
    obtain ⟨k, hk, rfl, HB⟩ := hrel
    by_cases hlt : k < a.length
    · obtain ⟨b, off, rfl, hc⟩ := H1.out.at_ hlt
      obtain ⟨m', hg, hn⟩ := HBl.out a[k] (List.getElem_mem hlt)
      have hf := HF.out wr a[k].id HB.out
      rw [hg] at hf
      have Hf := hid_ hf
      have HK := hid_ hlt
      have x1 : (k : Int) < (a.length : Int) := by omega
      have x2 : (0 : Int) ≤ (k : Int) := by omega
      obtain ⟨c0, c1, c2⟩ := hc.keep_ (fun p hp => HB.out.cell hp)
      have HC := hid_ hc
      generalize a[k] = s at *
      have HNew := hid_ (fun W => rnewer_any s m' W)
      rw [hn] at HNew
      obtain ⟨mi, mc, ms⟩ := m'
      unfold FindPost at Hf
      simp only [foundV] at Hf
      clear hf hg hn hc hlt
      go_wp2_with fail
      refine Calls.mono Hf.out ?_
      rintro e w1 ⟨rfl, hb1⟩
      have HB1 := hid_ (HB.out.trans (hb1.mono HB.out.size))
      have HM := hid_ (whole_new w1 79 #[.int .u64 (mi : Nat), .int .u64 (mc : Nat), .int .i64 ms])
      have HB2 := hid_ (HB1.out.alloc HB1.out.size (.cells #[.int .u64 (mi : Nat), .int .u64 (mc : Nat), .int .i64 ms] 79))
      obtain ⟨d0, d1, d2⟩ := HC.out.keep_ (fun p hp => HB2.out.cell hp)
      have S0 : MemTwo (w1.alloc (.cells #[.int .u64 (mi : Nat), .int .u64 (mc : Nat), .int .i64 ms] 79)) b (off + k * 3) w1.heap.size 0 s ⟨mi, mc, ms⟩ (w1.alloc (.cells #[.int .u64 (mi : Nat), .int .u64 (mc : Nat), .int .i64 ms] 79)) :=
        ⟨Below.refl _ _, d0, d1, d2, HM.out.cell 0 _ rfl, HM.out.cell 1 _ rfl, HM.out.cell 2 _ rfl⟩
      clear hb1 c0 c1 c2 d0 d1 d2
      go_wp2_with fail
      generalize w1.alloc (.cells #[.int .u64 (mi : Nat), .int .u64 (mc : Nat), .int .i64 ms] 79) = wb at *
      generalize w1.heap.size = gm at *
      go_region_held3 (MemTwo wb b (off + k * 3) gm 0 s ⟨mi, mc, ms⟩) (first | assumption | (refine memTwo_keep (by assumption) (by assumption)) | (refine memTwo_keep (by assumption) (Below.drew (Below.refl _ _))))
        (first | (go_at_call 51; (with_reducible refine Calls.mono (HNew.out _) ?_); rintro e w' ⟨rfl, hb'⟩) | fail)
      go_wp2_with fail
      go_roundw
      case rel => exact ⟨k + 1, by have := HK.out; omega, by go_num, hid_ (HB2.out.trans (Below.mono (And.left (by assumption)) HB2.out.size))⟩
      case measure => have := HK.out; simp [intOf]; omega
    · obtain rfl : k = a.length := by omega
      go_wp2_with fail
      go_ret
      exact boolIs_mk rfl HB.out
end Vw
end Go.Proofs.Yteoeghljoaiiiaa
