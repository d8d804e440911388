/-
  Plain facts: no line of a right rule has a break in it; what a rule that always holds does to a policy.
-/
import Derived.Test.YtlkpofhfkhdheaaGreatDoorRefShow2
import Derived.Test.YtlkpofhfkhdheaaGreatDoorHolds
import Derived.Test.YtlkpofhfkhdheaaGreatDoorNameMath
namespace Go.Proofs.YtlkpofhfkhdheaaGreatDoor
open Go.RowKit Ru
open Go.Lib (decodeN)

theorem decode_bytes {n b0 b1 b2 b3 r k : Nat} (h : decodeN n b0 b1 b2 b3 = (r, k)) (hv : (r, k) ≠ (65533, 1)) : k ≤ 4 ∧ (b0 = 10 → r = 10) ∧ (1 < k → b1 ≠ 10) ∧ (2 < k → b2 ≠ 10) ∧ (3 < k → b3 ≠ 10) := by
  unfold decodeN at h
  repeat' split at h
  all_goals
    injection h with e1 e2
    subst e1 e2
    first
      | exact absurd rfl hv
      | (refine ⟨by omega, fun _ => by omega, fun _ => by omega, fun _ => by omega, fun _ => by omega⟩)
theorem noten_from (s : ByteArray) : ∀ (f i : Nat) (rs : List Nat), s.size - i ≤ f → runesOf s i = some rs → (∀ r ∈ rs, badRune r = false) → ∀ k, i ≤ k → k < s.size → (s.get! k).toNat ≠ 10
  | 0, i, rs, hf, _, _ => fun k h1 h2 => by omega
  | f + 1, i, rs, hf, hr, hb => by
    intro k h1 h2
    have hi : i < s.size := by omega
    by_cases hk : (runeAt s i).2 = 0
    · rw [runesOf_none hi hk] at hr
      cases hr
    · rw [runesOf_step hi hk] at hr
      cases ht : runesOf s (i + (runeAt s i).2) with
      | none => rw [ht] at hr; cases hr
      | some tl =>
        rw [ht] at hr
        obtain rfl : (runeAt s i).1 :: tl = rs := by simpa using hr
        have hd := runeAt_decode s i hi
        have hne : Utf8.decode s i ≠ (65533, 1) := by
          intro e
          rw [if_pos e] at hd
          rw [hd] at hk
          exact hk rfl
        rw [if_neg hne] at hd
        have hb0 := hb _ (by simp : (runeAt s i).1 ∈ (runeAt s i).1 :: tl)
        have ih := noten_from s f (i + (runeAt s i).2) tl (by omega) ht (fun r h => hb r (by simp [h]))
        rw [hd] at ih hb0
        rw [Lib.decode_at] at ih hb0 hne
        generalize hrk : decodeN (s.size - i) (s.get! i).toNat (s.get! (i + 1)).toNat (s.get! (i + 2)).toNat (s.get! (i + 3)).toNat = rk at *
        obtain ⟨r, n⟩ := rk
        obtain ⟨g0, g1, g2, g3, g4⟩ := decode_bytes hrk hne
        simp only at ih hb0
        by_cases hlt : i + n ≤ k
        · exact ih k hlt h2
        · rcases (show k = i ∨ k = i + 1 ∨ k = i + 2 ∨ k = i + 3 by omega) with rfl | rfl | rfl | rfl
          · intro e
            rw [g1 e] at hb0
            exact absurd hb0 (by decide)
          · exact g2 (by omega)
          · exact g3 (by omega)
          · exact g4 (by omega)
theorem name_noten {s : ByteArray} (h : nameOk s = true) : (10 : UInt8) ∉ s.data.toList := by
  unfold nameOk at h
  simp only [Bool.and_eq_true] at h
  obtain ⟨_, h3⟩ := h
  cases hr : runesOf s 0 with
  | none => rw [hr] at h3; cases h3
  | some rs =>
    rw [hr] at h3
    have h4 := noten_from s s.size 0 rs (by omega) hr (fun r hm => by
      have := List.all_eq_true.1 h3 r hm
      simpa using this)
    intro hm
    obtain ⟨k, hk, e⟩ := List.getElem_of_mem hm
    have hk' : k < s.size := by simpa using hk
    refine h4 k (Nat.zero_le _) hk' ?_
    rw [get_eq s k hk']
    have : s[k] = 10 := e
    rw [this]
    rfl
theorem digits_noten (u : Nat) : (10 : UInt8) ∉ Lib.decDigits u := by
  induction u using Nat.strongRecOn with
  | _ u ih =>
    have hx : ∀ d : Nat, d < 10 → (10 : UInt8) ≠ UInt8.ofNat (48 + d) := by
      intro d hd e
      have := congrArg UInt8.toNat e
      rw [UInt8.toNat_ofNat'] at this
      have h10 : (10 : UInt8).toNat = 10 := rfl
      omega
    rw [Lib.decDigits]
    split
    · rename_i h
      rw [List.mem_singleton]
      exact hx u h
    · rename_i h
      rw [List.mem_append, List.mem_singleton]
      rintro (h1 | h1)
      · exact ih (u / 10) (by omega) h1
      · exact hx (u % 10) (by omega) h1
theorem what_noten {s : ByteArray} (h : whatF s ≠ .other) : (10 : UInt8) ∉ s.data.toList := by
  have e : s.data.toList = s.toList := by rw [ByteArray.toList_eq]
  rw [e]
  cases hw : whatF s with
  | other => exact absurd hw h
  | always => rw [beq_iff_eq.1 (what_always hw).1]; decide
  | fail => rw [beq_iff_eq.1 (what_fail hw).2.1]; decide
  | root => rw [beq_iff_eq.1 (what_root hw).2.2.1]; decide
  | slow => rw [beq_iff_eq.1 (what_slow hw).2.2.2.1]; decide
  | many => rw [beq_iff_eq.1 (what_many hw).2.2.2.2.1]; decide
  | hash => rw [beq_iff_eq.1 (what_hash hw).2.2.2.2.2.1]; decide
  | service => rw [beq_iff_eq.1 (what_service hw).2.2.2.2.2.2.1]; decide
  | name => rw [beq_iff_eq.1 (what_name hw).2.2.2.2.2.2.2]; decide
theorem verb_noten (k : Bool) : (10 : UInt8) ∉ (verbS k).data.toList := by cases k <;> decide
theorem line_noten {r : RuleD} (h : ruleOk r = true) : (10 : UInt8) ∉ (lineS r).data.toList := by
  obtain ⟨_, _, ht⟩ := ok_parts h
  have hwo : whatF r.what ≠ .other := by
    intro e
    rw [e] at ht
    cases ht
  have hw := what_noten hwo
  have hv := verb_noten r.keep
  have h32 : (10 : UInt8) ∉ (⟨#[32]⟩ : ByteArray).data.toList := by decide
  have hd : (10 : UInt8) ∉ (digitsS r.num).data.toList := digits_noten r.num
  unfold lineS lineN
  split
  · simp only [ba_append, List.mem_append]
    rintro ((h1 | h1) | h1 | h1)
    · exact hv h1
    · exact hw h1
    · exact h32 h1
    · exact hd h1
  · split
    · rename_i e3
      unfold textOk at ht
      rw [if_pos e3, Bool.and_eq_true] at ht
      have hn := name_noten ht.1
      simp only [ba_append, List.mem_append]
      rintro ((h1 | h1) | h1 | h1)
      · exact hv h1
      · exact hw h1
      · exact h32 h1
      · exact hn h1
    · simp only [ba_append, List.mem_append]
      rintro (h1 | h1)
      · exact hv h1
      · exact hw h1

abbrev cAlways : ByteArray := ⟨#[97, 108, 119, 97, 121, 115]⟩
/-- The rule that always holds. -/
def alwR (keep : Bool) : RuleD := ⟨keep, cAlways, 0, ⟨#[]⟩⟩
theorem what_calways : whatF cAlways = .always := by
  unfold whatF
  rw [ByteArray.toList_eq]
  rfl
theorem alw_wf (k : Bool) : (alwR k).Wf := ⟨by show (0 : Nat) < _; decide, by show (6 : Nat) ≤ _; decide, by show (0 : Nat) ≤ _; decide⟩
theorem alw_ok (k : Bool) : ruleOk (alwR k) = true := by
  unfold ruleOk alwR textOk
  simp only [what_calways]
  rw [ByteArray.toList_eq]
  rfl
theorem alw_holds (k : Bool) {ss : List SpanD} (h : ss ≠ []) : holdsF (alwR k) ss = true := by
  unfold holdsF
  rw [alw_ok, Bool.true_and, List.any_eq_true]
  obtain ⟨s, t, rfl⟩ := List.exists_cons_of_ne_nil h
  refine ⟨s, by simp, ?_⟩
  unfold questF alwR
  simp only [what_calways]
/-- What a rule says, if it holds. -/
def sayI (r : RuleD) : Int := if r.keep then 1 else 2
theorem eval_find {rs : List RuleD} {ss : List SpanD} (h : ss ≠ []) : evalF rs ss = match rs.find? (fun r => holdsF r ss) with | some r => sayI r | none => 2 := by
  unfold evalF
  rw [if_neg h]
  rfl
theorem say_two (r : RuleD) : sayI r = 1 ∨ sayI r = 2 := by unfold sayI; split <;> simp
theorem eval_always (rs : List RuleD) (keep : Bool) {ss : List SpanD} (h : ss ≠ []) :
    (evalF (rs ++ [alwR keep]) ss = 1 ∧ evalF rs ss = 1) ∨ (evalF (rs ++ [alwR keep]) ss = 2 ∧ evalF rs ss = 2) ∨ (evalF (rs ++ [alwR keep]) ss = 1 ∧ evalF rs ss = 2 ∧ keep = true) := by
  rw [eval_find h, eval_find h, List.find?_append]
  cases hf : rs.find? (fun r => holdsF r ss) with
  | some r =>
    rcases say_two r with e | e
    · exact .inl ⟨e, e⟩
    · exact .inr (.inl ⟨e, e⟩)
  | none =>
    rw [List.find?_cons, alw_holds keep h]
    cases keep
    · exact .inr (.inl ⟨rfl, rfl⟩)
    · exact .inr (.inr ⟨rfl, rfl, rfl⟩)
theorem eval_behind (rs ms : List RuleD) (keep : Bool) {ss : List SpanD} (h : ss ≠ []) : evalF (rs ++ [alwR keep] ++ ms) ss = evalF (rs ++ [alwR keep]) ss := by
  rw [eval_find h, eval_find h, List.find?_append (xs := rs ++ [alwR keep]), List.find?_append]
  cases rs.find? (fun r => holdsF r ss) with
  | some r => rfl
  | none =>
    rw [List.find?_cons, alw_holds keep h]
    rfl
end Go.Proofs.YtlkpofhfkhdheaaGreatDoor
