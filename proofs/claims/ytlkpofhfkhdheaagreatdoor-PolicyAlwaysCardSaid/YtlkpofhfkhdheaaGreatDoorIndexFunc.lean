/-
  What slices.IndexFunc and ContainsFunc answer at spans and at rules, whatever the function value says.
-/
import Derived.Test.YtlkpofhfkhdheaaGreatDoorSpanApp
import Derived.Test.YtlkpofhfkhdheaaGreatDoorParse
namespace Go.Proofs.YtlkpofhfkhdheaaGreatDoor
open Go.RowKit Ru

/-- The place of the first that p holds of. -/
def firstF {α : Type} (p : α → Bool) (l : List α) : Int := match l.findIdx? p with | some k => (k : Int) | none => -1
theorem first_hit {α : Type} {p : α → Bool} {l : List α} {k : Nat} (hk : k < l.length) (h : p l[k] = true) (ho : ∀ j (hj : j < l.length), j < k → p l[j] = false) : firstF p l = (k : Int) := by
  have e : l.findIdx? p = some k := List.findIdx?_eq_some_iff_getElem.2 ⟨hk, h, fun j hj => by rw [ho j (by omega) hj]; decide⟩
  unfold firstF
  rw [e]
theorem first_miss {α : Type} {p : α → Bool} {l : List α} (h : ∀ j (hj : j < l.length), p l[j] = false) : firstF p l = -1 := by
  have e : l.findIdx? p = none := by
    rw [List.findIdx?_eq_none_iff]
    intro x hx
    obtain ⟨j, hj, rfl⟩ := List.getElem_of_mem hx
    exact h j hj
  unfold firstF
  rw [e]
theorem first_any {α : Type} (p : α → Bool) (l : List α) : decide ((0 : Int) ≤ firstF p l) = l.any p := by
  unfold firstF
  cases h : l.findIdx? p with
  | none =>
    rw [List.findIdx?_eq_none_iff] at h
    rw [show l.any p = false by rw [List.any_eq_false]; intro x hx; rw [h x hx]; decide]
    rfl
  | some k =>
    obtain ⟨hk, h1, _⟩ := List.findIdx?_eq_some_iff_getElem.1 h
    rw [show l.any p = true from List.any_eq_true.2 ⟨l[k], List.getElem_mem hk, h1⟩]
    exact decide_eq_true (show (0 : Int) ≤ (k : Int) by omega)
theorem ret_int_ {a b : Int} (h : a = b) : Ending.returned (.int .i64 a) = .returned (.int .i64 b) := by rw [h]
/-- A span that can be, its name of a size that can be matched. -/
structure SpanD.Ok (s : SpanD) : Prop extends SpanD.Wf s where
  small : s.name.size ≤ 1000000
/-- A function value that says p of each span, and lays blocks of its own alone. -/
def PredS (g : Nat) (lb : Array Value) (p : SpanD → Bool) (w : World) : Prop := ∀ (W : World) (s : SpanD), Below w.heap.size w W → s.Ok → Calls Tryz.prog g (#[spanVal s] ++ lb) W (BoolIs W (p s))
def PredR (g : Nat) (lb : Array Value) (p : RuleD → Bool) (rs : List RuleD) (w : World) : Prop := ∀ (W : World) (r : RuleD), Below w.heap.size w W → r ∈ rs → r.Wf → Calls Tryz.prog g (#[ruleVal r] ++ lb) W (BoolIs W (p r))
def IntIs (w : World) (k : Int) (e : Ending) (w' : World) : Prop := e = .returned (.int .i64 k) ∧ Below w.heap.size w w'
theorem intIs_mk {w w' : World} {k k' : Int} (h : k = k') (hb : Below w.heap.size w w') : IntIs w k (.returned (.int .i64 k')) w' := ⟨by rw [h], hb⟩

set_option maxHeartbeats 2000000 in
theorem spanidx_any (p : SpanD → Bool) (g : Nat) (lb : Array Value) (eg : ∀ args w, (callFunc g args).run Tryz.prog w = .ok (.enter g args) w) (A : Option Addr) (n c : Nat) (ss : List SpanD) (w : World)
    (hs : SpanRow w A n c ss) (hwf : ∀ s ∈ ss, s.Ok) (hp : PredS g lb p w) :
    Calls Tryz.prog 55 #[.slice A n c, .func (.func g) #[] lb] w (IntIs w (firstF p ss)) := by
  have hnc := Nat.le_trans hs.cap hs.max
  have Hs := hid_ hs
  have Hp := hid_ hp
  have Hwf := hid_ hwf
  have Hlen := hid_ hs.len
  clear hs hp hwf
  go_enter Tryz.func55, Tryz.ntmps55
  go_wp2_with fail
  go_loopw [5, 8] (fun _ vi wr => ∃ k : Nat, k ≤ n ∧ vi = .int .i64 (k : Nat) ∧ Hid (∀ j (hj : j < ss.length), j < k → p ss[j] = false) ∧ Hid (Below w.heap.size w wr)) (fun _ vi _ => n - (intOf vi).toNat)
  case atStart => exact ⟨0, by omega, rfl, hid_ (by intro j _ h; omega), hid_ (Below.refl _ _)⟩
  case round =>
    obtain ⟨k, hk, rfl, Hno, Hb⟩ := hrel
    by_cases hlt : k < n
    · have hkl : k < ss.length := by rw [Hlen.out]; exact hlt
      have i0 : (0 : Int) ≤ (k : Int) := by omega
      have i1 : (k : Int) < (n : Int) := by omega
      obtain ⟨b, off, rfl, c0, c1, c2, c3, c4, c5, c6, c7⟩ := (Hs.out.below Hb.out).at_ hkl
      have Hcall := hid_ (Hp.out wr ss[k] Hb.out (Hwf.out _ (List.getElem_mem hkl)))
      have Hhit := hid_ (fun h => first_hit (p := p) hkl h Hno.out)
      have Hmis := hid_ (fun (h : p ss[k] = false) => show ∀ j (hj : j < ss.length), j < k + 1 → p ss[j] = false from fun j hj hjk => by
        by_cases e : j = k
        · subst e; exact h
        · exact Hno.out j hj (by omega))
      generalize ss[k] = s at *
      cases hq : p s
      · rw [hq] at Hcall
        have Hm := hid_ (Hmis.out hq)
        clear hq
        go_wp2_with (go_at_fn g; (with_reducible refine Calls.mono Hcall.out ?_); rintro e w' ⟨rfl, hb'⟩; have Hb2 := hid_ (Hb.out.trans (hb'.mono Hb.out.size)); clear hb')
        go_roundw
        case rel => exact ⟨k + 1, by omega, by go_num, Hm, Hb2⟩
        case measure => simp [intOf]; omega
      · rw [hq] at Hcall
        have Hm := hid_ (Hhit.out hq)
        clear hq
        go_wp2_with (go_at_fn g; (with_reducible refine Calls.mono Hcall.out ?_); rintro e w' ⟨rfl, hb'⟩; have Hb2 := hid_ (Hb.out.trans (hb'.mono Hb.out.size)); clear hb')
        go_ret
        exact intIs_mk Hm.out Hb2.out
    · have Hm := hid_ (first_miss (p := p) (l := ss) fun j hj => Hno.out j hj (by have := Hlen.out; omega))
      go_wp2_with fail
      go_ret
      exact intIs_mk Hm.out Hb.out
set_option maxHeartbeats 1000000 in
theorem spancontains_any (p : SpanD → Bool) (g : Nat) (lb : Array Value) (eg : ∀ args w, (callFunc g args).run Tryz.prog w = .ok (.enter g args) w) (A : Option Addr) (n c : Nat) (ss : List SpanD) (w : World)
    (hs : SpanRow w A n c ss) (hwf : ∀ s ∈ ss, s.Ok) (hp : PredS g lb p w) :
    Calls Tryz.prog 42 #[.slice A n c, .func (.func g) #[] lb] w (BoolIs w (ss.any p)) := by
  have H := hid_ (spanidx_any p g lb eg A n c ss w hs hwf hp)
  have Hk := hid_ (first_any p ss)
  clear hs hwf hp
  generalize firstF p ss = k at *
  go_enter Tryz.func42, Tryz.ntmps42
  go_wp2_with (go_at_call 55; (with_reducible refine Calls.mono H.out ?_); rintro e w' ⟨rfl, hb'⟩)
  go_ret
  exact boolIs_mk Hk.out.symm hb'

set_option maxHeartbeats 2000000 in
theorem ruleidx_any (p : RuleD → Bool) (g : Nat) (lb : Array Value) (eg : ∀ args w, (callFunc g args).run Tryz.prog w = .ok (.enter g args) w) (A : Option Addr) (n c : Nat) (rs : List RuleD) (w : World)
    (hs : RuleRow w A n c rs) (hwf : ∀ r ∈ rs, r.Wf) (hp : PredR g lb p rs w) :
    Calls Tryz.prog 25 #[.slice A n c, .func (.func g) #[] lb] w (IntIs w (firstF p rs)) := by
  have hnc := Nat.le_trans hs.cap hs.max
  have Hs := hid_ hs
  have Hp := hid_ hp
  have Hwf := hid_ hwf
  have Hlen := hid_ hs.len
  clear hs hp hwf
  go_enter Tryz.func25, Tryz.ntmps25
  go_wp2_with fail
  go_loopw [5, 8] (fun _ vi wr => ∃ k : Nat, k ≤ n ∧ vi = .int .i64 (k : Nat) ∧ Hid (∀ j (hj : j < rs.length), j < k → p rs[j] = false) ∧ Hid (Below w.heap.size w wr)) (fun _ vi _ => n - (intOf vi).toNat)
  case atStart => exact ⟨0, by omega, rfl, hid_ (by intro j _ h; omega), hid_ (Below.refl _ _)⟩
  case round =>
    obtain ⟨k, hk, rfl, Hno, Hb⟩ := hrel
    by_cases hlt : k < n
    · have hkl : k < rs.length := by rw [Hlen.out]; exact hlt
      have i0 : (0 : Int) ≤ (k : Int) := by omega
      have i1 : (k : Int) < (n : Int) := by omega
      obtain ⟨b, off, rfl, c0, c1, c2, c3⟩ := (Hs.out.below Hb.out).at_ hkl
      have Hcall := hid_ (Hp.out wr rs[k] Hb.out (List.getElem_mem hkl) (Hwf.out _ (List.getElem_mem hkl)))
      have Hhit := hid_ (fun h => first_hit (p := p) hkl h Hno.out)
      have Hmis := hid_ (fun (h : p rs[k] = false) => show ∀ j (hj : j < rs.length), j < k + 1 → p rs[j] = false from fun j hj hjk => by
        by_cases e : j = k
        · subst e; exact h
        · exact Hno.out j hj (by omega))
      generalize rs[k] = r at *
      cases hq : p r
      · rw [hq] at Hcall
        have Hm := hid_ (Hmis.out hq)
        clear hq
        go_wp2_with (go_at_fn g; (with_reducible refine Calls.mono Hcall.out ?_); rintro e w' ⟨rfl, hb'⟩; have Hb2 := hid_ (Hb.out.trans (hb'.mono Hb.out.size)); clear hb')
        go_roundw
        case rel => exact ⟨k + 1, by omega, by go_num, Hm, Hb2⟩
        case measure => simp [intOf]; omega
      · rw [hq] at Hcall
        have Hm := hid_ (Hhit.out hq)
        clear hq
        go_wp2_with (go_at_fn g; (with_reducible refine Calls.mono Hcall.out ?_); rintro e w' ⟨rfl, hb'⟩; have Hb2 := hid_ (Hb.out.trans (hb'.mono Hb.out.size)); clear hb')
        go_ret
        exact intIs_mk Hm.out Hb2.out
    · have Hm := hid_ (first_miss (p := p) (l := rs) fun j hj => Hno.out j hj (by have := Hlen.out; omega))
      go_wp2_with fail
      go_ret
      exact intIs_mk Hm.out Hb.out
end Go.Proofs.YtlkpofhfkhdheaaGreatDoor
