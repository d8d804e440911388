/-
  What the program's Sort answers, if symMerge does what is asked of it.
-/
import Derived.Test.YtnphbefnmbagfaaStable
namespace Go.Proofs.Ytnphbefnmbagfaa
open Go.RowKit Ru

def CloneSpPost (w : World) (ss : List SpanD) (e : Ending) (w' : World) : Prop := ∃ A n c, e = .returned (.slice A n c) ∧ OwnSp w.heap.size w' A n c ss ∧ Below w.heap.size w w'
theorem cloneSpPost_mk {w w' : World} {ss : List SpanD} {A : Option Addr} {n c : Nat} (h : OwnSp w.heap.size w' A n c ss) (hb : Below w.heap.size w w') : CloneSpPost w ss (.returned (.slice A n c)) w' := ⟨A, n, c, rfl, h, hb⟩
theorem ownSp_empty (w : World) (T : TypeId) (hT : T = 28) (B : Nat) (hB : B ≤ w.heap.size) : OwnSp B (w.alloc (.cells #[] T)) (some ⟨w.heap.size, 0, .none⟩) 0 0 [] := by
  subst hT
  exact ⟨rfl, .inr ⟨w.heap.size, 0, #[], rfl, hB, heap_alloc_new w _, Nat.le_refl _, by unfold maxLen; omega, rfl, rfl⟩⟩
set_option maxHeartbeats 1000000 in
theorem cloneSp_any (A : Option Addr) (n c : Nat) (ss : List SpanD) (w : World) (hs : SpanRow w A n c ss) (hn : n ≤ 1000000000) :
    Calls Try.prog 41 #[.slice A n c] w (CloneSpPost w ss) := by
  have kc := fun (w : World) (a : Option Addr) (n c n' c' : Nat) => Lib.run_eql_slice_nil (P := Try.prog) w 39 28 a n c n' c' Try.underlying39
  rcases A with _ | a
  · have h0 := hs.nil rfl
    have hnc := hs.cap
    obtain rfl : n = 0 := by omega
    have hl : ss = [] := List.eq_nil_of_length_eq_zero hs.len
    subst hl
    clear hs
    go_enter Try.func41, Try.ntmps41
    go_wp2_with fail
    go_ret
    exact cloneSpPost_mk (OwnSp.none _ _) (Below.refl _ _)
  · have Hs := hid_ hs
    clear hs
    go_enter Try.func41, Try.ntmps41
    go_wp2_with (at_builtin; refine wpList_spans rfl (.tmp 5) (.tmp 6) rfl w.heap.size _ 0 _ [] rfl (ownSp_empty w _ rfl _ (Nat.le_refl _)) (some a) n c ss rfl (Hs.out.below ((Below.refl _ _).alloc (Nat.le_refl _) _)) n ss (by omega) rfl (by omega) (by simp) ?_; intro A1 c1 w2 ho' hb' _ _; have Ho2 := hid_ ho'; have Hb2 := hid_ (((Below.refl _ _).alloc (Nat.le_refl _) _).trans hb'); clear ho' hb')
    go_ret
    exact cloneSpPost_mk Ho2.out Hb2.out
/-- Such a row as one that may be rewritten. -/
theorem OwnSp.st {w w' : World} {A : Option Addr} {n c : Nat} {ss : List SpanD} (h : OwnSp w.heap.size w' A n c ss) (hb : Below w.heap.size w w') : (A = .none ∧ n = 0 ∧ c = 0) ∨ ∃ g, A = some ⟨g, 0, .none⟩ ∧ n ≤ c ∧ c ≤ 9223372036854775807 ∧ (0 < n → St w g 0 ss w') ∧ w.heap.size ≤ g := by
  have hrow := h.row
  obtain ⟨hx, ⟨e', _⟩ | ⟨g, cap, cur, e', hg, hh, hnc, hcm, hs, hc⟩⟩ := h
  · injection e' with e1 e2 e3
    exact .inl ⟨e1, e2, e3⟩
  · injection e' with e1 e2 e3
    subst e1 e3
    unfold maxLen at hcm
    refine .inr ⟨g, rfl, hnc, by omega, fun hn => ⟨hb, fun k hk => ?_, fun o => by simp [World.frozen?, hh], hg, (Array.getElem?_eq_some_iff.1 hh).1⟩, hg⟩
    obtain ⟨b, off, e, hat⟩ := hrow.at_ hk
    cases e
    exact hat

set_option maxHeartbeats 1000000 in
theorem sortStable_any (H : ∀ N, MergeUpto N) (w0 : World) (g off : Nat) (ss : List SpanD) (n cp : Nat) (w : World) (hst : St w0 g off ss w) (hn : ss.length = n) (hbig : n ≤ 100000000) :
    Calls Try.prog 42 #[.slice (some ⟨g, off, none⟩) n cp, ordV] w (StablePost w0 g off ss) := by
  have Hc := hid_ (stable_any H w0 g off ss n cp w hst hn hbig)
  clear hst hn H
  go_enter Try.func42, Try.ntmps42
  go_wp2_with fail
  refine Calls.mono Hc.out ?_
  rintro e w2 ⟨rfl, t, q1, q2, q3, hs⟩
  have Q := hid_ (stablePost_mk q1 q2 q3 hs)
  clear q1 q2 q3 hs
  go_wp2_with fail
  go_end0
  exact Q.out
set_option maxHeartbeats 2000000 in
theorem stable_zero (A : Option Addr) (c : Nat) (w : World) :
    Calls Try.prog 49 #[.slice A 0 c, .int .i64 0, ordV] w fun e w' => e = .returned (.tuple #[]) ∧ w = w' := by
  have Hi := hid_ (insertion_none (.slice A 0 c) 0 w (by omega))
  go_enter Try.func49, Try.ntmps49
  go_wp2_with fail
  go_loop [7, 8] (fun va vb => va = .int .i64 0 ∧ vb = .int .i64 20) (fun _ _ => 0)
  case atStart => exact ⟨rfl, rfl⟩
  case round =>
    obtain ⟨rfl, rfl⟩ := hrel
    go_wp2_with fail
    refine Calls.mono Hi.out ?_
    rintro e w2 ⟨rfl, rfl⟩
    go_wp2_with fail
    go_loop [6] (fun vk => vk = .int .i64 20) (fun _ => 0)
    case atStart => rfl
    case round =>
      subst hrel
      go_wp2_with fail
      go_end0
      exact ⟨rfl, rfl⟩
set_option maxHeartbeats 1000000 in
theorem sortStable_zero (A : Option Addr) (c : Nat) (w : World) :
    Calls Try.prog 42 #[.slice A 0 c, ordV] w fun e w' => e = .returned (.tuple #[]) ∧ w = w' := by
  have Hc := hid_ (stable_zero A c w)
  go_enter Try.func42, Try.ntmps42
  go_wp2_with fail
  refine Calls.mono Hc.out ?_
  rintro e w2 ⟨rfl, rfl⟩
  go_wp2_with fail
  go_end0
  exact ⟨rfl, rfl⟩

/-- What Sort answers: a sorted row that has of each time and Id the same spans in the same order. -/
def SortPost (w : World) (n : Nat) (ss : List SpanD) (e : Ending) (w' : World) : Prop := ∃ A c t, e = .returned (.slice A n c) ∧ SpanRow w' A n c t ∧ Sorted t ∧ Alike ss t ∧ Below w.heap.size w w'
theorem sortPost_mk {w w' : World} {n : Nat} {ss t : List SpanD} {A : Option Addr} {c : Nat} (h1 : SpanRow w' A n c t) (h2 : Sorted t) (h3 : Alike ss t) (h4 : Below w.heap.size w w') : SortPost w n ss (.returned (.slice A n c)) w' := ⟨A, c, t, rfl, h1, h2, h3, h4⟩
theorem St.row {w0 : World} {g : Nat} {ss : List SpanD} {W : World} {n c : Nat} (h : St w0 g 0 ss W) (h1 : ss.length = n) (h2 : n ≤ c) (h3 : c ≤ 9223372036854775807) : SpanRow W (some ⟨g, 0, .none⟩) n c ss :=
  ⟨fun _ => ⟨g, 0, rfl, fun k hk => h.at_ k hk⟩, h1, h2, h3, fun e => by cases e⟩

set_option maxHeartbeats 2000000 in
theorem sort_any (H : ∀ N, MergeUpto N) (A : Option Addr) (n c : Nat) (ss : List SpanD) (w : World) (hs : SpanRow w A n c ss) (hn : n ≤ 1000000) :
    Calls Try.prog 26 #[.slice A n c] w (SortPost w n ss) := by
  have Hc := hid_ (cloneSp_any A n c ss w hs (by omega))
  have Hlen := hid_ hs.len
  have HH := hid_ H
  clear hs H
  go_enter Try.func26, Try.ntmps26
  go_wp2_with fail
  refine Calls.mono Hc.out ?_
  rintro e w1 ⟨A1, n1, c1, rfl, ho, hb⟩
  obtain rfl : n = n1 := by rw [← Hlen.out, ← ho.len]
  have Hb := hid_ hb
  have Hrow := hid_ ho.row
  have Hst := hid_ (ho.st hb)
  clear ho hb
  rcases Nat.eq_zero_or_pos n with h0 | h0
  · subst h0
    have hnil : ss = [] := List.eq_nil_of_length_eq_zero Hlen.out
    have Hz := hid_ (sortStable_zero A1 c1 w1)
    go_wp2_with fail
    refine Calls.mono Hz.out ?_
    rintro e w2 ⟨rfl, rfl⟩
    go_wp2_with fail
    go_ret
    exact sortPost_mk Hrow.out (by rw [hnil]; exact List.Pairwise.nil) (Alike.refl _) Hb.out
  · rcases Hst.out with ⟨_, h1, _⟩ | ⟨g, rfl, h1, h2, h3, _⟩
    · omega
    have Hs := hid_ (sortStable_any HH.out w g 0 ss n c1 w1 (h3 h0) Hlen.out (by omega))
    clear h3
    go_wp2_with fail
    refine Calls.mono Hs.out ?_
    rintro e w2 ⟨rfl, t, q1, q2, q3, hs⟩
    have Hfin := hid_ (sortPost_mk (w := w) (hs.row (n := n) (c := c1) (by rw [q3, Hlen.out]) h1 h2) q1 q2 hs.bel)
    clear q1 q2 q3 hs
    go_wp2_with fail
    go_ret
    exact Hfin.out
end Go.Proofs.Ytnphbefnmbagfaa
