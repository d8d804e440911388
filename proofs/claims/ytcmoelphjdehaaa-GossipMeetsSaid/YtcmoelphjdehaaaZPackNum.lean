/-
  A packet as a value; what the program's numbersRight and answerRight answer.
-/
import Derived.Test.YtcmoelphjdehaaaZPack
namespace Go.Proofs.Ytcmoelphjdehaaa
set_option linter.unusedSimpArgs false
set_option linter.unusedVariables false
open Go.RowKit Ru

/-- A packet. -/
structure PackD where
  kind : Int
  trace : Nat
  bn : Nat
  bnode : Nat
  sn : Nat
  snode : Nat
  v : Int
  ok : Bool
  spans : List SpanD
  members : List MemberD
  ids : List Nat
/-- Where a packet's lists lie. -/
structure PackS where
  a1 : Option Addr
  c1 : Nat
  a2 : Option Addr
  c2 : Nat
  a3 : Option Addr
  c3 : Nat
abbrev packVal (p : PackD) (s : PackS) : Value := .agg #[.int .i64 p.kind, .int .u64 (p.trace : Nat), .int .u64 (p.bn : Nat), .int .u64 (p.bnode : Nat), .int .u64 (p.sn : Nat), .int .u64 (p.snode : Nat), .int .i64 p.v, .bool p.ok, .slice s.a1 p.spans.length s.c1, .slice s.a2 p.members.length s.c2, .slice s.a3 p.ids.length s.c3]
def packCells (p : PackD) (s : PackS) : Array Value := #[.int .i64 p.kind, .int .u64 (p.trace : Nat), .int .u64 (p.bn : Nat), .int .u64 (p.bnode : Nat), .int .u64 (p.sn : Nat), .int .u64 (p.snode : Nat), .int .i64 p.v, .bool p.ok, .slice s.a1 p.spans.length s.c1, .slice s.a2 p.members.length s.c2, .slice s.a3 p.ids.length s.c3]
structure PackIn (w : World) (p : PackD) (s : PackS) : Prop where
  r1 : SpanRow w s.a1 p.spans.length s.c1 p.spans
  r2 : MemRow w s.a2 p.members.length s.c2 p.members
  r3 : Row w s.a3 p.ids.length s.c3 (idVals p.ids)
theorem PackIn.below {w w' : World} {p : PackD} {s : PackS} (h : PackIn w p s) (hb : Below w.heap.size w w') : PackIn w' p s := ⟨h.r1.below hb, h.r2.below hb, h.r3.below hb⟩
structure PackD.Wf (p : PackD) : Prop where
  trace : p.trace < 18446744073709551616
  bn : p.bn < 18446744073709551616
  bnode : p.bnode < 18446744073709551616
  sn : p.sn < 18446744073709551616
  snode : p.snode < 18446744073709551616
  spans : ∀ s ∈ p.spans, s.Wf
  members : ∀ m ∈ p.members, m.Wf
  ids : ∀ n ∈ p.ids, n < 18446744073709551616

def vLeast (h : PartsD) : Int := if h.answer then 0 else if h.verdict then 1 else 0
def vMost (h : PartsD) : Int := if h.verdict then 3 else 0
def ballotF (is : Bool) (n node : Nat) : Bool := if is then decide (n ≠ 0) else decide (n = 0) && decide (node = 0)
def numbersF (h : PartsD) (p : PackD) : Bool := (h.trace == decide (p.trace ≠ 0)) && (ballotF h.ballot p.bn p.bnode && (decide (vLeast h ≤ p.v) && decide (p.v ≤ vMost h)))
/-- A ballot that is not zero. -/
def isB (n node : Nat) : Bool := !(decide (n = 0) && decide (node = 0))
def answerF (h : PartsD) (p : PackD) : Bool :=
  if h.answer then if p.ok then isB p.sn p.snode == decide (p.v ≠ 0) else isB p.sn p.snode && decide (p.v = 0) else !p.ok && !isB p.sn p.snode
set_option maxRecDepth 100000 in
theorem ballot_equalIn (a b : Nat) (w : World) : (Op.equalIn 10000 196 (.agg #[.int .u64 (a : Nat), .int .u64 (b : Nat)]) (.agg #[.int .u64 0, .int .u64 0])).run Try.prog w = .ok (!isB a b) w := by
  rw [run_equalIn_agg w 9999 196 _ _ (by kernel_rfl) (by kernel_rfl)]
  simp [Program.fieldsOf, Try.underlying196, Op.eqFields, part, go_sem]
  unfold isB
  by_cases h1 : a = 0 <;> by_cases h2 : b = 0 <;> simp [h1, h2]
theorem ballot_neq (a b : Nat) (w : World) : (binOp .neq 196 (.agg #[.int .u64 (a : Nat), .int .u64 (b : Nat)]) (.agg #[.int .u64 0, .int .u64 0])).run Try.prog w = .ok (.bool (isB a b)) w := by
  rw [run_neq_struct, ballot_equalIn]
  simp [go_sem]

abbrev twoBox (w : World) (h : PartsD) (p : PackD) (s : PackS) : World := (w.alloc (.cells (partsCells h) 222)).alloc (.cells (packCells p s) 200)
theorem below_two (w : World) (h : PartsD) (p : PackD) (s : PackS) : Below w.heap.size w (twoBox w h p s) := ((Below.refl w.heap.size w).alloc (Nat.le_refl _) _).alloc (by simp) _
set_option maxRecDepth 20000 in
set_option maxHeartbeats 8000000 in
theorem numbersright_any (h : PartsD) (p : PackD) (s : PackS) (w : World) :
    Calls Try.prog 165 #[partsVal h, packVal p s] w (BoolIs w (numbersF h p)) := by
  have Ha := hid_ (below_two w h p s)
  have kn := fun (a b : Nat) (w : World) => ballot_neq a b w
  have Hk := hid_ (show numbersF h p = ((h.trace == decide (p.trace ≠ 0)) && (ballotF h.ballot p.bn p.bnode && (decide (vLeast h ≤ p.v) && decide (p.v ≤ vMost h)))) from rfl)
  generalize numbersF h p = r at *
  obtain ⟨ht, hb, ha, hv, h5, h6, h7⟩ := h
  obtain ⟨k, tr, bn, bd, sn, sd, v, ok, l1, l2, l3⟩ := p
  simp only at Hk
  have hbad : ht ≠ decide (tr ≠ 0) → Hid (r = false) := fun h1 => hid_ (by rw [Hk.out, show (ht == decide (tr ≠ 0)) = false from beq_eq_false_iff_ne.2 h1]; rfl)
  have hgood : ht = decide (tr ≠ 0) → Hid (r = (ballotF hb bn bd && (decide (vLeast ⟨ht, hb, ha, hv, h5, h6, h7⟩ ≤ v) && decide (v ≤ vMost ⟨ht, hb, ha, hv, h5, h6, h7⟩)))) := fun h1 => hid_ (by rw [Hk.out, show (ht == decide (tr ≠ 0)) = true from beq_iff_eq.2 h1]; rfl)
  have Hbad := hid_ hbad
  have Hgood := hid_ hgood
  clear hbad hgood Hk
  by_cases h0 : tr = 0
  · have e0 : ((tr : Int) != 0) = false := by rw [bne_eq_false_iff_eq]; omega
    cases ht
    · have Hk2 := Hgood.out (by rw [decide_eq_false (by omega)])
      clear Hbad Hgood h0
      cases hbl : ballotF hb bn bd
      · have Hf := hid_ (show r = false by rw [Hk2.out, hbl]; rfl)
        clear Hk2
        cases hb
        · have e2 : isB bn bd = true := by unfold isB; rw [show (decide (bn = 0) && decide (bd = 0)) = false from hbl]; rfl
          clear hbl
          go_enter Try.func165, Try.ntmps165
          go_wp2_with fail
          go_ret
          exact boolIs_mk Hf.out Ha.out
        · have e2 : ((bn : Int) == 0) = true := by
            have : decide (bn ≠ 0) = false := hbl
            rw [decide_eq_false_iff_not] at this
            rw [beq_iff_eq]
            omega
          clear hbl
          go_enter Try.func165, Try.ntmps165
          go_wp2_with fail
          go_ret
          exact boolIs_mk Hf.out Ha.out
      · have Hlo := hid_ (fun (h : ¬ vLeast ⟨false, hb, ha, hv, h5, h6, h7⟩ ≤ v) => show r = false by rw [Hk2.out, hbl, decide_eq_false h]; rfl)
        have Hhi := hid_ (fun (h : ¬ v ≤ vMost ⟨false, hb, ha, hv, h5, h6, h7⟩) => show r = false by rw [Hk2.out, hbl, decide_eq_false h]; simp)
        have Hok := hid_ (fun (h : vLeast ⟨false, hb, ha, hv, h5, h6, h7⟩ ≤ v) (h2 : v ≤ vMost ⟨false, hb, ha, hv, h5, h6, h7⟩) => show r = true by rw [Hk2.out, hbl, decide_eq_true h, decide_eq_true h2]; rfl)
        clear Hk2
        have e2 : hb = false → isB bn bd = false := by
          rintro rfl
          unfold isB
          rw [show (decide (bn = 0) && decide (bd = 0)) = true from hbl]
          rfl
        have e3 : hb = true → ((bn : Int) == 0) = false := by
          rintro rfl
          have : decide (bn ≠ 0) = true := hbl
          rw [decide_eq_true_eq] at this
          rw [beq_eq_false_iff_ne]
          omega
        clear hbl
        cases hb
        all_goals
          first
            | (have e4 := e2 rfl)
            | (have e4 := e3 rfl)
          clear e2 e3
          cases ha
          all_goals
            cases hv
        · by_cases hl : 0 ≤ v
          · have l1 : decide (0 ≤ v) = true := decide_eq_true hl
            by_cases hm : v ≤ 0
            · have Hf := hid_ (Hok.out hl hm)
              have l2 : decide (v ≤ 0) = true := decide_eq_true hm
              clear Hlo Hhi Hok
              go_enter Try.func165, Try.ntmps165
              go_wp2_with fail
              go_ret
              exact boolIs_mk Hf.out Ha.out
            · have Hf := hid_ (Hhi.out hm)
              have l2 : decide (v ≤ 0) = false := decide_eq_false hm
              clear Hlo Hhi Hok
              go_enter Try.func165, Try.ntmps165
              go_wp2_with fail
              go_ret
              exact boolIs_mk Hf.out Ha.out
          · have Hf := hid_ (Hlo.out hl)
            have l1 : decide (0 ≤ v) = false := decide_eq_false hl
            clear Hlo Hhi Hok
            go_enter Try.func165, Try.ntmps165
            go_wp2_with fail
            go_ret
            exact boolIs_mk Hf.out Ha.out
        · by_cases hl : 1 ≤ v
          · have l1 : decide (1 ≤ v) = true := decide_eq_true hl
            by_cases hm : v ≤ 3
            · have Hf := hid_ (Hok.out hl hm)
              have l2 : decide (v ≤ 3) = true := decide_eq_true hm
              clear Hlo Hhi Hok
              go_enter Try.func165, Try.ntmps165
              go_wp2_with fail
              go_ret
              exact boolIs_mk Hf.out Ha.out
            · have Hf := hid_ (Hhi.out hm)
              have l2 : decide (v ≤ 3) = false := decide_eq_false hm
              clear Hlo Hhi Hok
              go_enter Try.func165, Try.ntmps165
              go_wp2_with fail
              go_ret
              exact boolIs_mk Hf.out Ha.out
          · have Hf := hid_ (Hlo.out hl)
            have l1 : decide (1 ≤ v) = false := decide_eq_false hl
            clear Hlo Hhi Hok
            go_enter Try.func165, Try.ntmps165
            go_wp2_with fail
            go_ret
            exact boolIs_mk Hf.out Ha.out
        · by_cases hl : 0 ≤ v
          · have l1 : decide (0 ≤ v) = true := decide_eq_true hl
            by_cases hm : v ≤ 0
            · have Hf := hid_ (Hok.out hl hm)
              have l2 : decide (v ≤ 0) = true := decide_eq_true hm
              clear Hlo Hhi Hok
              go_enter Try.func165, Try.ntmps165
              go_wp2_with fail
              go_ret
              exact boolIs_mk Hf.out Ha.out
            · have Hf := hid_ (Hhi.out hm)
              have l2 : decide (v ≤ 0) = false := decide_eq_false hm
              clear Hlo Hhi Hok
              go_enter Try.func165, Try.ntmps165
              go_wp2_with fail
              go_ret
              exact boolIs_mk Hf.out Ha.out
          · have Hf := hid_ (Hlo.out hl)
            have l1 : decide (0 ≤ v) = false := decide_eq_false hl
            clear Hlo Hhi Hok
            go_enter Try.func165, Try.ntmps165
            go_wp2_with fail
            go_ret
            exact boolIs_mk Hf.out Ha.out
        · by_cases hl : 0 ≤ v
          · have l1 : decide (0 ≤ v) = true := decide_eq_true hl
            by_cases hm : v ≤ 3
            · have Hf := hid_ (Hok.out hl hm)
              have l2 : decide (v ≤ 3) = true := decide_eq_true hm
              clear Hlo Hhi Hok
              go_enter Try.func165, Try.ntmps165
              go_wp2_with fail
              go_ret
              exact boolIs_mk Hf.out Ha.out
            · have Hf := hid_ (Hhi.out hm)
              have l2 : decide (v ≤ 3) = false := decide_eq_false hm
              clear Hlo Hhi Hok
              go_enter Try.func165, Try.ntmps165
              go_wp2_with fail
              go_ret
              exact boolIs_mk Hf.out Ha.out
          · have Hf := hid_ (Hlo.out hl)
            have l1 : decide (0 ≤ v) = false := decide_eq_false hl
            clear Hlo Hhi Hok
            go_enter Try.func165, Try.ntmps165
            go_wp2_with fail
            go_ret
            exact boolIs_mk Hf.out Ha.out
        · by_cases hl : 0 ≤ v
          · have l1 : decide (0 ≤ v) = true := decide_eq_true hl
            by_cases hm : v ≤ 0
            · have Hf := hid_ (Hok.out hl hm)
              have l2 : decide (v ≤ 0) = true := decide_eq_true hm
              clear Hlo Hhi Hok
              go_enter Try.func165, Try.ntmps165
              go_wp2_with fail
              go_ret
              exact boolIs_mk Hf.out Ha.out
            · have Hf := hid_ (Hhi.out hm)
              have l2 : decide (v ≤ 0) = false := decide_eq_false hm
              clear Hlo Hhi Hok
              go_enter Try.func165, Try.ntmps165
              go_wp2_with fail
              go_ret
              exact boolIs_mk Hf.out Ha.out
          · have Hf := hid_ (Hlo.out hl)
            have l1 : decide (0 ≤ v) = false := decide_eq_false hl
            clear Hlo Hhi Hok
            go_enter Try.func165, Try.ntmps165
            go_wp2_with fail
            go_ret
            exact boolIs_mk Hf.out Ha.out
        · by_cases hl : 1 ≤ v
          · have l1 : decide (1 ≤ v) = true := decide_eq_true hl
            by_cases hm : v ≤ 3
            · have Hf := hid_ (Hok.out hl hm)
              have l2 : decide (v ≤ 3) = true := decide_eq_true hm
              clear Hlo Hhi Hok
              go_enter Try.func165, Try.ntmps165
              go_wp2_with fail
              go_ret
              exact boolIs_mk Hf.out Ha.out
            · have Hf := hid_ (Hhi.out hm)
              have l2 : decide (v ≤ 3) = false := decide_eq_false hm
              clear Hlo Hhi Hok
              go_enter Try.func165, Try.ntmps165
              go_wp2_with fail
              go_ret
              exact boolIs_mk Hf.out Ha.out
          · have Hf := hid_ (Hlo.out hl)
            have l1 : decide (1 ≤ v) = false := decide_eq_false hl
            clear Hlo Hhi Hok
            go_enter Try.func165, Try.ntmps165
            go_wp2_with fail
            go_ret
            exact boolIs_mk Hf.out Ha.out
        · by_cases hl : 0 ≤ v
          · have l1 : decide (0 ≤ v) = true := decide_eq_true hl
            by_cases hm : v ≤ 0
            · have Hf := hid_ (Hok.out hl hm)
              have l2 : decide (v ≤ 0) = true := decide_eq_true hm
              clear Hlo Hhi Hok
              go_enter Try.func165, Try.ntmps165
              go_wp2_with fail
              go_ret
              exact boolIs_mk Hf.out Ha.out
            · have Hf := hid_ (Hhi.out hm)
              have l2 : decide (v ≤ 0) = false := decide_eq_false hm
              clear Hlo Hhi Hok
              go_enter Try.func165, Try.ntmps165
              go_wp2_with fail
              go_ret
              exact boolIs_mk Hf.out Ha.out
          · have Hf := hid_ (Hlo.out hl)
            have l1 : decide (0 ≤ v) = false := decide_eq_false hl
            clear Hlo Hhi Hok
            go_enter Try.func165, Try.ntmps165
            go_wp2_with fail
            go_ret
            exact boolIs_mk Hf.out Ha.out
        · by_cases hl : 0 ≤ v
          · have l1 : decide (0 ≤ v) = true := decide_eq_true hl
            by_cases hm : v ≤ 3
            · have Hf := hid_ (Hok.out hl hm)
              have l2 : decide (v ≤ 3) = true := decide_eq_true hm
              clear Hlo Hhi Hok
              go_enter Try.func165, Try.ntmps165
              go_wp2_with fail
              go_ret
              exact boolIs_mk Hf.out Ha.out
            · have Hf := hid_ (Hhi.out hm)
              have l2 : decide (v ≤ 3) = false := decide_eq_false hm
              clear Hlo Hhi Hok
              go_enter Try.func165, Try.ntmps165
              go_wp2_with fail
              go_ret
              exact boolIs_mk Hf.out Ha.out
          · have Hf := hid_ (Hlo.out hl)
            have l1 : decide (0 ≤ v) = false := decide_eq_false hl
            clear Hlo Hhi Hok
            go_enter Try.func165, Try.ntmps165
            go_wp2_with fail
            go_ret
            exact boolIs_mk Hf.out Ha.out
    · have Hf := Hbad.out (by rw [decide_eq_false (by omega)]; decide)
      clear Hbad Hgood h0
      go_enter Try.func165, Try.ntmps165
      go_wp2_with fail
      go_ret
      exact boolIs_mk Hf.out Ha.out
  · have e0 : ((tr : Int) != 0) = true := by rw [bne_iff_ne]; omega
    cases ht
    · have Hf := Hbad.out (by rw [decide_eq_true (by omega)]; decide)
      clear Hbad Hgood h0
      go_enter Try.func165, Try.ntmps165
      go_wp2_with fail
      go_ret
      exact boolIs_mk Hf.out Ha.out
    · have Hk2 := Hgood.out (by rw [decide_eq_true (by omega)])
      clear Hbad Hgood h0
      cases hbl : ballotF hb bn bd
      · have Hf := hid_ (show r = false by rw [Hk2.out, hbl]; rfl)
        clear Hk2
        cases hb
        · have e2 : isB bn bd = true := by unfold isB; rw [show (decide (bn = 0) && decide (bd = 0)) = false from hbl]; rfl
          clear hbl
          go_enter Try.func165, Try.ntmps165
          go_wp2_with fail
          go_ret
          exact boolIs_mk Hf.out Ha.out
        · have e2 : ((bn : Int) == 0) = true := by
            have : decide (bn ≠ 0) = false := hbl
            rw [decide_eq_false_iff_not] at this
            rw [beq_iff_eq]
            omega
          clear hbl
          go_enter Try.func165, Try.ntmps165
          go_wp2_with fail
          go_ret
          exact boolIs_mk Hf.out Ha.out
      · have Hlo := hid_ (fun (h : ¬ vLeast ⟨true, hb, ha, hv, h5, h6, h7⟩ ≤ v) => show r = false by rw [Hk2.out, hbl, decide_eq_false h]; rfl)
        have Hhi := hid_ (fun (h : ¬ v ≤ vMost ⟨true, hb, ha, hv, h5, h6, h7⟩) => show r = false by rw [Hk2.out, hbl, decide_eq_false h]; simp)
        have Hok := hid_ (fun (h : vLeast ⟨true, hb, ha, hv, h5, h6, h7⟩ ≤ v) (h2 : v ≤ vMost ⟨true, hb, ha, hv, h5, h6, h7⟩) => show r = true by rw [Hk2.out, hbl, decide_eq_true h, decide_eq_true h2]; rfl)
        clear Hk2
        have e2 : hb = false → isB bn bd = false := by
          rintro rfl
          unfold isB
          rw [show (decide (bn = 0) && decide (bd = 0)) = true from hbl]
          rfl
        have e3 : hb = true → ((bn : Int) == 0) = false := by
          rintro rfl
          have : decide (bn ≠ 0) = true := hbl
          rw [decide_eq_true_eq] at this
          rw [beq_eq_false_iff_ne]
          omega
        clear hbl
        cases hb
        all_goals
          first
            | (have e4 := e2 rfl)
            | (have e4 := e3 rfl)
          clear e2 e3
          cases ha
          all_goals
            cases hv
        · by_cases hl : 0 ≤ v
          · have l1 : decide (0 ≤ v) = true := decide_eq_true hl
            by_cases hm : v ≤ 0
            · have Hf := hid_ (Hok.out hl hm)
              have l2 : decide (v ≤ 0) = true := decide_eq_true hm
              clear Hlo Hhi Hok
              go_enter Try.func165, Try.ntmps165
              go_wp2_with fail
              go_ret
              exact boolIs_mk Hf.out Ha.out
            · have Hf := hid_ (Hhi.out hm)
              have l2 : decide (v ≤ 0) = false := decide_eq_false hm
              clear Hlo Hhi Hok
              go_enter Try.func165, Try.ntmps165
              go_wp2_with fail
              go_ret
              exact boolIs_mk Hf.out Ha.out
          · have Hf := hid_ (Hlo.out hl)
            have l1 : decide (0 ≤ v) = false := decide_eq_false hl
            clear Hlo Hhi Hok
            go_enter Try.func165, Try.ntmps165
            go_wp2_with fail
            go_ret
            exact boolIs_mk Hf.out Ha.out
        · by_cases hl : 1 ≤ v
          · have l1 : decide (1 ≤ v) = true := decide_eq_true hl
            by_cases hm : v ≤ 3
            · have Hf := hid_ (Hok.out hl hm)
              have l2 : decide (v ≤ 3) = true := decide_eq_true hm
              clear Hlo Hhi Hok
              go_enter Try.func165, Try.ntmps165
              go_wp2_with fail
              go_ret
              exact boolIs_mk Hf.out Ha.out
            · have Hf := hid_ (Hhi.out hm)
              have l2 : decide (v ≤ 3) = false := decide_eq_false hm
              clear Hlo Hhi Hok
              go_enter Try.func165, Try.ntmps165
              go_wp2_with fail
              go_ret
              exact boolIs_mk Hf.out Ha.out
          · have Hf := hid_ (Hlo.out hl)
            have l1 : decide (1 ≤ v) = false := decide_eq_false hl
            clear Hlo Hhi Hok
            go_enter Try.func165, Try.ntmps165
            go_wp2_with fail
            go_ret
            exact boolIs_mk Hf.out Ha.out
        · by_cases hl : 0 ≤ v
          · have l1 : decide (0 ≤ v) = true := decide_eq_true hl
            by_cases hm : v ≤ 0
            · have Hf := hid_ (Hok.out hl hm)
              have l2 : decide (v ≤ 0) = true := decide_eq_true hm
              clear Hlo Hhi Hok
              go_enter Try.func165, Try.ntmps165
              go_wp2_with fail
              go_ret
              exact boolIs_mk Hf.out Ha.out
            · have Hf := hid_ (Hhi.out hm)
              have l2 : decide (v ≤ 0) = false := decide_eq_false hm
              clear Hlo Hhi Hok
              go_enter Try.func165, Try.ntmps165
              go_wp2_with fail
              go_ret
              exact boolIs_mk Hf.out Ha.out
          · have Hf := hid_ (Hlo.out hl)
            have l1 : decide (0 ≤ v) = false := decide_eq_false hl
            clear Hlo Hhi Hok
            go_enter Try.func165, Try.ntmps165
            go_wp2_with fail
            go_ret
            exact boolIs_mk Hf.out Ha.out
        · by_cases hl : 0 ≤ v
          · have l1 : decide (0 ≤ v) = true := decide_eq_true hl
            by_cases hm : v ≤ 3
            · have Hf := hid_ (Hok.out hl hm)
              have l2 : decide (v ≤ 3) = true := decide_eq_true hm
              clear Hlo Hhi Hok
              go_enter Try.func165, Try.ntmps165
              go_wp2_with fail
              go_ret
              exact boolIs_mk Hf.out Ha.out
            · have Hf := hid_ (Hhi.out hm)
              have l2 : decide (v ≤ 3) = false := decide_eq_false hm
              clear Hlo Hhi Hok
              go_enter Try.func165, Try.ntmps165
              go_wp2_with fail
              go_ret
              exact boolIs_mk Hf.out Ha.out
          · have Hf := hid_ (Hlo.out hl)
            have l1 : decide (0 ≤ v) = false := decide_eq_false hl
            clear Hlo Hhi Hok
            go_enter Try.func165, Try.ntmps165
            go_wp2_with fail
            go_ret
            exact boolIs_mk Hf.out Ha.out
        · by_cases hl : 0 ≤ v
          · have l1 : decide (0 ≤ v) = true := decide_eq_true hl
            by_cases hm : v ≤ 0
            · have Hf := hid_ (Hok.out hl hm)
              have l2 : decide (v ≤ 0) = true := decide_eq_true hm
              clear Hlo Hhi Hok
              go_enter Try.func165, Try.ntmps165
              go_wp2_with fail
              go_ret
              exact boolIs_mk Hf.out Ha.out
            · have Hf := hid_ (Hhi.out hm)
              have l2 : decide (v ≤ 0) = false := decide_eq_false hm
              clear Hlo Hhi Hok
              go_enter Try.func165, Try.ntmps165
              go_wp2_with fail
              go_ret
              exact boolIs_mk Hf.out Ha.out
          · have Hf := hid_ (Hlo.out hl)
            have l1 : decide (0 ≤ v) = false := decide_eq_false hl
            clear Hlo Hhi Hok
            go_enter Try.func165, Try.ntmps165
            go_wp2_with fail
            go_ret
            exact boolIs_mk Hf.out Ha.out
        · by_cases hl : 1 ≤ v
          · have l1 : decide (1 ≤ v) = true := decide_eq_true hl
            by_cases hm : v ≤ 3
            · have Hf := hid_ (Hok.out hl hm)
              have l2 : decide (v ≤ 3) = true := decide_eq_true hm
              clear Hlo Hhi Hok
              go_enter Try.func165, Try.ntmps165
              go_wp2_with fail
              go_ret
              exact boolIs_mk Hf.out Ha.out
            · have Hf := hid_ (Hhi.out hm)
              have l2 : decide (v ≤ 3) = false := decide_eq_false hm
              clear Hlo Hhi Hok
              go_enter Try.func165, Try.ntmps165
              go_wp2_with fail
              go_ret
              exact boolIs_mk Hf.out Ha.out
          · have Hf := hid_ (Hlo.out hl)
            have l1 : decide (1 ≤ v) = false := decide_eq_false hl
            clear Hlo Hhi Hok
            go_enter Try.func165, Try.ntmps165
            go_wp2_with fail
            go_ret
            exact boolIs_mk Hf.out Ha.out
        · by_cases hl : 0 ≤ v
          · have l1 : decide (0 ≤ v) = true := decide_eq_true hl
            by_cases hm : v ≤ 0
            · have Hf := hid_ (Hok.out hl hm)
              have l2 : decide (v ≤ 0) = true := decide_eq_true hm
              clear Hlo Hhi Hok
              go_enter Try.func165, Try.ntmps165
              go_wp2_with fail
              go_ret
              exact boolIs_mk Hf.out Ha.out
            · have Hf := hid_ (Hhi.out hm)
              have l2 : decide (v ≤ 0) = false := decide_eq_false hm
              clear Hlo Hhi Hok
              go_enter Try.func165, Try.ntmps165
              go_wp2_with fail
              go_ret
              exact boolIs_mk Hf.out Ha.out
          · have Hf := hid_ (Hlo.out hl)
            have l1 : decide (0 ≤ v) = false := decide_eq_false hl
            clear Hlo Hhi Hok
            go_enter Try.func165, Try.ntmps165
            go_wp2_with fail
            go_ret
            exact boolIs_mk Hf.out Ha.out
        · by_cases hl : 0 ≤ v
          · have l1 : decide (0 ≤ v) = true := decide_eq_true hl
            by_cases hm : v ≤ 3
            · have Hf := hid_ (Hok.out hl hm)
              have l2 : decide (v ≤ 3) = true := decide_eq_true hm
              clear Hlo Hhi Hok
              go_enter Try.func165, Try.ntmps165
              go_wp2_with fail
              go_ret
              exact boolIs_mk Hf.out Ha.out
            · have Hf := hid_ (Hhi.out hm)
              have l2 : decide (v ≤ 3) = false := decide_eq_false hm
              clear Hlo Hhi Hok
              go_enter Try.func165, Try.ntmps165
              go_wp2_with fail
              go_ret
              exact boolIs_mk Hf.out Ha.out
          · have Hf := hid_ (Hlo.out hl)
            have l1 : decide (0 ≤ v) = false := decide_eq_false hl
            clear Hlo Hhi Hok
            go_enter Try.func165, Try.ntmps165
            go_wp2_with fail
            go_ret
            exact boolIs_mk Hf.out Ha.out
end Go.Proofs.Ytcmoelphjdehaaa
