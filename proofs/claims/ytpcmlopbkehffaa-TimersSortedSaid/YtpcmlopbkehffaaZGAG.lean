/-
  The law's words on heaps of timers: the nil heap, the chapter's example.
-/
import Derived.Test.YtpcmlopbkehffaaZGAF
import Derived.OpenShut
namespace Go.Proofs.Ytpcmlopbkehffaa
set_option linter.unusedSimpArgs false
set_option linter.unusedVariables false
open Go.RowKit Go.Shelf
namespace Ti
set_option linter.unusedSimpArgs false
set_option linter.unusedVariables false
theorem num_of {n : Int} (h : (Lit.int .u64 n).wf = true) : ∃ c : Nat, n = (c : Int) ∧ c < 18446744073709551616 := by
  have h1 : 0 ≤ n ∧ n ≤ 18446744073709551615 := by simpa [Lit.wf, IntKind.min, IntKind.max, IntKind.bits, IntKind.signed] using h
  exact ⟨n.toNat, by omega, by omega⟩
/-- What a number that came in is known to be. -/
def NumV (_w : World) (v : Value) : Prop := ∃ c : Nat, v = .int .u64 (c : Nat) ∧ c < 18446744073709551616
section
variable {H : Type} {enc : TypeId × Value → H} {w : World} {base : Nat} {held : Bool}
open Go.ChangeShapes Go.WideShapes
set_option maxRecDepth 100000 in
theorem open_numV {v : Value} {d : DataW H} {p : List MemPlace} {x : Reach} {r : Nat}
    (hv : Value.okWide Try.prog w x r 27 v) (h : DataW.Trod enc Try.prog w base (fun _ => true) held 27 v d p) : NumV w v := by
  obtain ⟨a0, rfl, _, _, w0⟩ := open_int Try.underlying27 hv h
  obtain ⟨c, rfl, hc⟩ := num_of w0
  exact ⟨c, rfl, hc⟩
end
theorem hset_nil (x t : Nat) (w : World) : Calls Try.prog 25 #[.pointer none, .int .u64 (x : Nat), .int .u64 (t : Nat)] w (RetV w (.tuple #[])) := by
  go_enter Try.func25, Try.ntmps25
  go_wp2_with fail
  go_end0
  exact ⟨rfl, rfl⟩
theorem hpop_nil (t : Nat) (w : World) : Calls Try.prog 31 #[.pointer none, .int .u64 (t : Nat)] w (RetV w (.slice none 0 0)) := by
  have HN := hid_ (hnext_nil w)
  rw [nextV_eq] at HN
  have h1 : nK [] = 0 := rfl
  have h2 : nA [] = 0 := rfl
  have h3 : nI [] = false := rfl
  rw [h1, h2, h3] at HN
  go_enter Try.func31, Try.ntmps31
  go_wp2_with (go_at_call 34; (with_reducible refine HN.out.mono ?_); rintro e w1 ⟨rfl, rfl⟩)
  go_loopw [5, 6, 7, 8] (fun v5 v6 v7 v8 wr => v5 = .slice none 0 0 ∧ v6 = .int .u64 0 ∧ v7 = .int .u64 0 ∧ v8 = .bool false ∧ wr = w) (fun _ _ _ _ _ => 0)
  case atStart => exact ⟨rfl, rfl, rfl, rfl, rfl⟩
  case round =>
    obtain ⟨rfl, rfl, rfl, rfl, rfl⟩ := hrel
    go_wp2_with fail
    go_ret
    exact retV_mk rfl
/-- A row of two numbers reads so. -/
theorem two_at {w : World} {A : Option Addr} {c x y : Nat} (h : numE.Row w A 2 c [x, y]) : ∃ b off, A = some ⟨b, off, none⟩ ∧ w.cell? ⟨b, off, none⟩ = some (.int .u64 (x : Nat)) ∧ w.cell? ⟨b, off + 1, none⟩ = some (.int .u64 (y : Nat)) := by
  obtain ⟨b, off, e, _, h0⟩ := h.at_ (k := 0) (Nat.zero_lt_succ _)
  obtain ⟨b', off', e', _, h1⟩ := h.at_ (k := 1) (Nat.lt_succ_self _)
  rw [e] at e'
  injection e' with e'
  injection e' with e1 e2
  subst e1 e2
  have h00 := h0 0 _ rfl
  have h10 := h1 0 _ rfl
  exact ⟨b, off, e, h00, h10⟩
set_option maxHeartbeats 2000000 in
set_option maxRecDepth 100000 in
theorem alive_any (w : World) : Calls Try.prog 24 #[] w (RetB w.heap.size w (.bool true)) := by
  have H0 := hid_ (hp_zero w)
  have HB0 := hid_ (show Below w.heap.size w (w.alloc (.cells #[.slice none 0 0, .map none] 62)) from (Below.refl _ _).alloc (Nat.le_refl _) _)
  have HS1 := hid_ (show Calls Try.prog 25 #[.pointer (some ⟨w.heap.size, 0, none⟩), .int .u64 5, .int .u64 3] _ _ from hset_any H0.out (x := 5) (t := 3) (by decide) (by decide) (by decide))
  have HG := hid_ (Nat.le_refl w.heap.size)
  go_enter Try.func24, Try.ntmps24
  go_wp2_with fail
  (with_reducible refine HS1.out.mono ?_)
  rintro e w1 ⟨v1, rfl, rfl, Q1, h1, t1, q1⟩
  have HB1 := hid_ (Tn.below HB0.out t1 (fun q hq => by rw [hq]; exact Nat.le_refl _) (by simp))
  have HQ1 := hid_ (show ∀ q, Q1 q → w.heap.size ≤ q from fun q hq => by
    rcases q1 q hq with h9 | h9
    · rw [h9]; exact Nat.le_refl _
    · simp at h9; omega)
  have HS2 := hid_ (show Calls Try.prog 25 #[.pointer (some ⟨w.heap.size, 0, none⟩), .int .u64 4, .int .u64 3] _ _ from hset_any h1 (x := 4) (t := 3) (by decide) (by decide) (by decide))
  clear h1 t1 q1
  go_wp2_with fail
  (with_reducible refine HS2.out.mono ?_)
  rintro e w2 ⟨v2, rfl, rfl, Q2, h2, t2, q2⟩
  have HB2 := hid_ (Tn.below HB1.out t2 HQ1.out HB1.out.size)
  have HQ2 := hid_ (show ∀ q, Q2 q → w.heap.size ≤ q from fun q hq => by
    rcases q2 q hq with h9 | h9
    · exact HQ1.out q h9
    · have := HB1.out.size; omega)
  have HP := hid_ (show Calls Try.prog 31 #[.pointer (some ⟨w.heap.size, 0, none⟩), .int .u64 3] _ _ from hpop_any h2 3 (by decide))
  clear h2 t2 q2
  go_wp2_with fail
  (with_reducible refine HP.out.mono ?_)
  rintro e w3 ⟨A, c, rfl, ho, h3, t3⟩
  have HB3 := hid_ (Tn.below HB2.out t3 HQ2.out HB2.out.size)
  have HL := hid_ (show Calls Try.prog 35 #[.pointer (some ⟨w.heap.size, 0, none⟩)] w3 (RetV w3 (.int .i64 0)) from hlen_any h3)
  obtain ⟨b, off, rfl, k1, k2⟩ := two_at (x := 4) (y := 5) ho.row
  have k1 : w3.cell? ⟨b, off, none⟩ = some (.int .u64 4) := k1
  have k2 : w3.cell? ⟨b, off + 1, none⟩ = some (.int .u64 5) := k2
  rw [show (popR (setR (setR [] 5 3) 4 3) 3).1.length = 2 from rfl]
  clear ho h3 t3
  have m1 : (0 : Int) < 2 := by decide
  have m2 : (1 : Int) < 2 := by decide
  go_wp2_with (go_at_call 35; (with_reducible refine HL.out.mono ?_); rintro e w4 ⟨rfl, rfl⟩)
  go_ret
  exact ⟨rfl, HB3.out⟩
end Ti
end Go.Proofs.Ytpcmlopbkehffaa
