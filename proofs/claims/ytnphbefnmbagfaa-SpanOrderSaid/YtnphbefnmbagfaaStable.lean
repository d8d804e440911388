/-
  What the library's stable sort does with a row of spans, if symMerge does what is asked of it.
-/
import Derived.Test.YtnphbefnmbagfaaSymBase
import Derived.Test.YtnphbefnmbagfaaRunsMath
namespace Go.Proofs.Ytnphbefnmbagfaa
open Go.RowKit Ru

set_option maxHeartbeats 2000000 in
theorem insertion_none (sv : Value) (a : Nat) (w : World) (ha : a ≤ 1000000000) :
    Calls Try.prog 51 #[sv, .int .i64 (a : Nat), .int .i64 (a : Nat), ordV] w fun e w' => e = .returned (.tuple #[]) ∧ w = w' := by
  go_enter Try.func51, Try.ntmps51
  go_wp2_with fail
  go_loop [8] (fun vi => vi = .int .i64 ((a : Int) + 1)) (fun _ => 0)
  case atStart => rfl
  case round =>
    subst hrel
    have e1 : decide ((a : Int) + 1 < (a : Int)) = false := decide_eq_false (by omega)
    go_wp2_with fail
    go_end0
    exact ⟨rfl, rfl⟩
/-- .. of any piece, an empty one too. -/
theorem insertion_all (w0 : World) (g off : Nat) (p l s : List SpanD) (n cp : Nat) (a b : Nat) (w : World) (hst : St w0 g off (p ++ (l ++ s)) w)
    (hn : n = p.length + l.length + s.length) (ha : a = p.length) (hb : b = a + l.length) (hbig : n ≤ 1000000000) :
    Calls Try.prog 51 #[.slice (some ⟨g, off, none⟩) n cp, .int .i64 (a : Nat), .int .i64 (b : Nat), ordV] w fun e w' => e = .returned (.tuple #[]) ∧ ∃ m, Sorted m ∧ Alike l m ∧ m.length = l.length ∧ St w0 g off (p ++ (m ++ s)) w' := by
  rcases Nat.eq_zero_or_pos l.length with h0 | h0
  · obtain rfl : l = [] := List.eq_nil_of_length_eq_zero h0
    obtain rfl : b = a := by simpa using hb
    exact (insertion_none _ b w (by omega)).mono fun e w' ⟨h1, h2⟩ => ⟨h1, [], List.Pairwise.nil, Alike.refl _, rfl, by rw [← h2]; exact hst⟩
  · exact insertion_any w0 g off p l s n cp a b w hst (by simp only [List.length_append]; omega) ha hb hbig h0

def StablePost (w0 : World) (g off : Nat) (ss : List SpanD) (e : Ending) (w' : World) : Prop := e = .returned (.tuple #[]) ∧ ∃ t, Sorted t ∧ Alike ss t ∧ t.length = ss.length ∧ St w0 g off t w'
theorem stablePost_mk {w0 : World} {g off : Nat} {ss t : List SpanD} {w' : World} (h1 : Sorted t) (h2 : Alike ss t) (h3 : t.length = ss.length) (h4 : St w0 g off t w') : StablePost w0 g off ss (.returned (.tuple #[])) w' := ⟨rfl, t, h1, h2, h3, h4⟩

set_option maxRecDepth 100000 in
set_option maxHeartbeats 8000000 in
theorem stable_any (H : ∀ N, MergeUpto N) (w0 : World) (g off : Nat) (ss : List SpanD) (n cp : Nat) (w : World) (hst : St w0 g off ss w) (hn : ss.length = n) (hbig : n ≤ 100000000) :
    Calls Try.prog 49 #[.slice (some ⟨g, off, none⟩) n cp, .int .i64 (n : Nat), ordV] w (StablePost w0 g off ss) := by
  have Hst := hid_ hst
  have Hn := hid_ hn
  have HH := hid_ H
  clear hst hn H
  go_enter Try.func49, Try.ntmps49
  go_wp2_with fail
  go_loopw [7, 8] (fun va vb wr => ∃ (a b : Nat) (s1 : List SpanD), va = .int .i64 (a : Nat) ∧ vb = .int .i64 (b : Nat) ∧ a + 20 ≤ b ∧ b ≤ a + 20 ∧ a ≤ n ∧ Hid (Al 20 a) ∧ Hid (s1.length = n) ∧ Hid (Alike ss s1) ∧ Hid (Runs 20 0 a s1) ∧ St w0 g off s1 wr) (fun va _ _ => n - (intOf va).toNat)
  case atStart => exact ⟨0, 20, ss, rfl, rfl, by omega, by omega, by omega, hid_ (al_zero 20), Hn, hid_ (Alike.refl _), hid_ (runs_none 20 ss), Hst.out⟩
  case round =>
    obtain ⟨a, b, s1, rfl, rfl, hab1, hab2, han, HA, HL, HK, HR, hs⟩ := hrel
    have Hs := hid_ hs
    clear hs
    by_cases hlt : b ≤ n
    · have e1 : decide (b ≤ n) = true := decide_eq_true hlt
      have hp : (s1.take a).length = a := by rw [List.length_take, HL.out]; omega
      have hl : ((s1.drop a).take 20).length = 20 := by rw [List.length_take, List.length_drop, HL.out]; omega
      have hr : (s1.drop (a + 20)).length + (a + 20) = n := by rw [List.length_drop, HL.out]; omega
      have hsp := split3 s1 a 20
      generalize s1.take a = p at *
      generalize (s1.drop a).take 20 = l at *
      generalize s1.drop (a + 20) = s at *
      have Hsp := hid_ hsp
      have Hp := hid_ hp
      have Hl := hid_ hl
      have Hr := hid_ hr
      have Hc := hid_ (insertion_all w0 g off p l s n cp a b wr (Hs.out.to hsp) (by omega) (by omega) (by omega) (by omega))
      clear hsp hp hl hr
      go_wp2_with fail
      refine Calls.mono Hc.out ?_
      rintro e w2 ⟨rfl, m, q1, q2, q3, hs2⟩
      have Q1 := hid_ q1
      have Q2 := hid_ q2
      have Q3 := hid_ q3
      have Hs2 := hid_ hs2
      clear q1 q2 q3 hs2
      go_wp2_with fail
      go_roundw
      case rel => exact ⟨b, b + 20, p ++ (m ++ s), rfl, by go_num, by omega, by omega, hlt, hid_ (by rw [show b = a + 20 by omega]; exact HA.out.next), hid_ (by have := Hp.out; have := Hl.out; have := Hr.out; have := Q3.out; simp only [List.length_append]; omega), hid_ (alike_mid (by rw [← Hsp.out]; exact HK.out) Q2.out), hid_ (by
        have h := HR.out
        rw [Hsp.out] at h
        have h2 := runs_grow h HA.out Hp.out Q1.out
        rwa [show a + m.length = b by have := Q3.out; have := Hl.out; omega] at h2), Hs2.out⟩
      case measure => simp [intOf]; omega
    · have e1 : decide (b ≤ n) = false := decide_eq_false hlt
      have hp : (s1.take a).length = a := by rw [List.length_take, HL.out]; omega
      have hl : (s1.drop a).length + a = n := by rw [List.length_drop, HL.out]; omega
      have hsp : s1 = s1.take a ++ (s1.drop a ++ []) := by rw [List.append_nil, List.take_append_drop]
      generalize s1.take a = p at *
      generalize s1.drop a = l at *
      have Hsp := hid_ hsp
      have Hp := hid_ hp
      have Hl := hid_ hl
      have Hc := hid_ (insertion_all w0 g off p l [] n cp a n wr (Hs.out.to hsp) (by simp only [List.length_nil]; omega) (by omega) (by omega) (by omega))
      clear hsp hp hl
      go_wp2_with fail
      refine Calls.mono Hc.out ?_
      rintro e w2 ⟨rfl, m, q1, q2, q3, hs2⟩
      have Hrun := hid_ (show Runs 20 0 n (p ++ (m ++ [])) by
        have h := HR.out
        rw [Hsp.out] at h
        have h2 := runs_grow h HA.out Hp.out q1
        rwa [show a + m.length = n by have := Hl.out; omega] at h2)
      have Hali := hid_ (show Alike ss (p ++ (m ++ [])) from alike_mid (by rw [← Hsp.out]; exact HK.out) q2)
      have Hlen := hid_ (show (p ++ (m ++ [])).length = n by have := Hp.out; have := Hl.out; simp only [List.length_append, List.length_nil]; omega)
      have Hs2 := hid_ hs2
      clear q1 q2 q3 hs2 HR HK HL Hs HA
      generalize p ++ (m ++ []) = s2 at *
      clear hlt e1 hab1 hab2 han
      go_wp2_with fail
      go_loopw [6] (fun vk wr => ∃ (k : Nat) (s1 : List SpanD), vk = .int .i64 (k : Nat) ∧ 20 ≤ k ∧ k ≤ 2 * n + 20 ∧ Hid (s1.length = n) ∧ Hid (Alike ss s1) ∧ Hid (Runs k 0 n s1) ∧ St w0 g off s1 wr) (fun vk _ => n - (intOf vk).toNat)
      case atStart => exact ⟨20, s2, rfl, by omega, by omega, Hlen, Hali, Hrun, Hs2.out⟩
      case round =>
        obtain ⟨k, s1, rfl, hk20, hkn, HL, HK, HR, hs⟩ := hrel
        have Hs := hid_ hs
        clear hs Hs2 Hrun Hali Hlen Hc
        by_cases hlt : k < n
        · have e1 : decide (k < n) = true := decide_eq_true hlt
          obtain ⟨wo, rfl⟩ : ∃ wo : World, wo = wr := ⟨_, rfl⟩
          go_wp2_with fail
          go_loopw [7, 8] (fun va vb wr => ∃ (a b : Nat) (s3 : List SpanD), va = .int .i64 (a : Nat) ∧ vb = .int .i64 (b : Nat) ∧ a + 2 * k ≤ b ∧ b ≤ a + 2 * k ∧ a ≤ n ∧ Hid (Al (2 * k) a) ∧ Hid (s3.length = n) ∧ Hid (Alike ss s3) ∧ Hid (Runs (2 * k) 0 a s3) ∧ Hid (Runs k a n s3) ∧ St w0 g off s3 wr) (fun va _ _ => n - (intOf va).toNat)
          case atStart => exact ⟨0, 2 * k, s1, rfl, by go_num, by omega, by omega, by omega, hid_ (al_zero _), HL, HK, hid_ (runs_none _ _), HR, Hs.out⟩
          case round =>
            obtain ⟨a, b, s3, rfl, rfl, hab1, hab2, han, HA, HL3, HK3, HR1, HR2, hs3⟩ := hrel
            have Hs3 := hid_ hs3
            clear hs3
            obtain ⟨m, hm⟩ : ∃ m : Nat, m = a + k := ⟨_, rfl⟩
            have hme : (a : Int) + (k : Int) = (m : Int) := by omega
            have hp : (s3.take a).length = a := by rw [List.length_take, HL3.out]; omega
            by_cases hlb : b ≤ n
            · have e2 : decide (b ≤ n) = true := decide_eq_true hlb
              have hl : ((s3.drop a).take k).length = k := by rw [List.length_take, List.length_drop, HL3.out]; omega
              have hr : ((s3.drop (a + k)).take k).length = k := by rw [List.length_take, List.length_drop, HL3.out]; omega
              have hr2 : (s3.drop (a + k + k)).length + (a + k + k) = n := by rw [List.length_drop, HL3.out]; omega
              have hsp : s3 = s3.take a ++ ((s3.drop a).take k ++ ((s3.drop (a + k)).take k ++ s3.drop (a + k + k))) := split4 s3 a k
              generalize s3.take a = p at *
              generalize (s3.drop a).take k = l at *
              generalize (s3.drop (a + k)).take k = r at *
              generalize s3.drop (a + k + k) = s at *
              have Hsp := hid_ hsp
              have Hp := hid_ hp
              have Hl := hid_ hl
              have Hr := hid_ hr
              have Hr2 := hid_ hr2
              have Hm := hid_ hm
              have hS1 : Sorted l := runs_piece (by rw [← hsp]; exact HR2.out) HA.out.half (Nat.le_refl _) hp (by omega) (by omega)
              have hS2 : Sorted r := runs_piece (p := p ++ l) (l := r) (s := s) (c := a + k) (by rw [List.append_assoc, ← hsp]; exact HR2.out) HA.out.half.next (by omega) (by rw [List.length_append]; omega) (by omega) (by omega)
              have Hc := hid_ (HH.out (l.length + r.length) w0 g off p l r s n cp a m b wr (Nat.le_refl _) (Hs3.out.to hsp) (by omega) (by omega) (by omega) (by omega) (by omega) (by omega) hS1 hS2 (by omega))
              clear hsp hp hl hr hr2 hm hS1 hS2
              go_wp2_with fail
              refine Calls.mono Hc.out ?_
              rintro e w2 ⟨rfl, t, q1, q2, q3, hs4⟩
              have Q1 := hid_ q1
              have Q2 := hid_ q2
              have Q3 := hid_ q3
              have Hs4 := hid_ hs4
              clear q1 q2 q3 hs4
              go_wp2_with fail
              go_roundw
              case rel =>
                refine ⟨b, b + 2 * k, p ++ (t ++ s), rfl, by go_num, by omega, by omega, hlb, hid_ (by rw [show b = a + 2 * k by omega]; exact HA.out.next), hid_ ?_, hid_ ?_, hid_ ?_, hid_ ?_, Hs4.out⟩
                · have := Hp.out; have := Hl.out; have := Hr.out; have := Hr2.out; have := Q3.out
                  simp only [List.length_append]
                  omega
                · have h := HK3.out
                  rw [Hsp.out, ← List.append_assoc l] at h
                  exact alike_mid h Q2.out
                · have h := HR1.out
                  rw [Hsp.out, ← List.append_assoc l] at h
                  have h2 := runs_grow h HA.out Hp.out Q1.out
                  rwa [show a + t.length = b by have := Hl.out; have := Hr.out; have := Q3.out; omega] at h2
                · have h := HR2.out
                  rw [Hsp.out, ← List.append_assoc l] at h
                  exact runs_rest h Hp.out (by rw [Q3.out, List.length_append]) (by have := Hl.out; have := Hr.out; rw [List.length_append]; omega)
              case measure => simp [intOf]; omega
            · have e2 : decide (b ≤ n) = false := decide_eq_false hlb
              by_cases hmn : m < n
              · have e3 : decide (m < n) = true := decide_eq_true hmn
                have hl : ((s3.drop a).take k).length = k := by rw [List.length_take, List.length_drop, HL3.out]; omega
                have hr : (s3.drop (a + k)).length + (a + k) = n := by rw [List.length_drop, HL3.out]; omega
                have hsp : s3 = s3.take a ++ ((s3.drop a).take k ++ (s3.drop (a + k) ++ [])) := by
                  rw [List.append_nil]
                  exact split3 s3 a k
                generalize s3.take a = p at *
                generalize (s3.drop a).take k = l at *
                generalize s3.drop (a + k) = r at *
                have Hsp := hid_ hsp
                have Hp := hid_ hp
                have Hl := hid_ hl
                have Hr := hid_ hr
                have Hm := hid_ hm
                have hS1 : Sorted l := runs_piece (by rw [← hsp]; exact HR2.out) HA.out.half (Nat.le_refl _) hp (by omega) (by omega)
                have hS2 : Sorted r := runs_piece (p := p ++ l) (l := r) (s := []) (c := a + k) (by rw [List.append_assoc, ← hsp]; exact HR2.out) HA.out.half.next (by omega) (by rw [List.length_append]; omega) (by omega) (by omega)
                have Hc := hid_ (HH.out (l.length + r.length) w0 g off p l r [] n cp a m n wr (Nat.le_refl _) (Hs3.out.to hsp) (by simp only [List.length_nil]; omega) (by omega) (by omega) (by omega) (by omega) (by omega) hS1 hS2 (by omega))
                clear hsp hp hl hr hm hS1 hS2
                go_wp2_with fail
                refine Calls.mono Hc.out ?_
                rintro e w2 ⟨rfl, t, q1, q2, q3, hs4⟩
                have Q1 := hid_ q1
                have Q2 := hid_ q2
                have Q3 := hid_ q3
                have Hs4 := hid_ hs4
                clear q1 q2 q3 hs4
                go_wp2_with fail
                go_roundw
                case rel =>
                  refine ⟨k * 2, p ++ (t ++ []), by go_num, by omega, by omega, hid_ ?_, hid_ ?_, hid_ ?_, Hs4.out⟩
                  · have := Hp.out; have := Hl.out; have := Hr.out; have := Q3.out
                    simp only [List.length_append, List.length_nil]
                    omega
                  · have h := HK3.out
                    rw [Hsp.out, ← List.append_assoc l] at h
                    exact alike_mid h Q2.out
                  · have h := HR1.out
                    rw [Hsp.out, ← List.append_assoc l] at h
                    have h2 := runs_grow h HA.out Hp.out Q1.out
                    rwa [show a + t.length = n by have := Hl.out; have := Hr.out; have := Q3.out; omega, Nat.mul_comm 2 k] at h2
                case measure => simp [intOf]; omega
              · have e3 : decide (m < n) = false := decide_eq_false hmn
                have Hfin := hid_ (runs_two HR1.out HR2.out HA.out (by omega))
                clear hp hm
                go_wp2_with fail
                go_roundw
                case rel => exact ⟨k * 2, s3, by go_num, by omega, by omega, HL3, HK3, hid_ (by rw [Nat.mul_comm k 2]; exact Hfin.out), Hs3.out⟩
                case measure => simp [intOf]; omega
        · have e1 : decide (k < n) = false := decide_eq_false hlt
          go_wp2_with fail
          go_end0
          exact stablePost_mk (runs_all HR.out HL.out (by omega)) HK.out (by rw [HL.out, Hn.out]) Hs.out
end Go.Proofs.Ytnphbefnmbagfaa
