/-
  Packets as bytes, there and back: plain lists.
-/
import Derived.Test.YthjhofmjhmnddaaGreatMGAD
import Derived.Test.YthjhofmjhmnddaaGreatMGBB
import Derived.Test.YthjhofmjhmnddaaGreatMGBC
import Derived.Test.YthjhofmjhmnddaaGreatMGBG
set_option linter.unusedSimpArgs false
set_option linter.unusedVariables false
namespace Go.Proofs.YthjhofmjhmnddaaGreat
open Go.RowKit Ru Fm
def byteI (x : Int) : UInt8 := UInt8.ofNat (x % 256).toNat
def memB (m : MemberD) : List UInt8 := eight m.id ++ (eight m.inc ++ [byteI m.state])
def optB (h : Bool) (l : List UInt8) : List UInt8 := if h then l else []
def writtenF (p : PackD) : List UInt8 :=
 byteI p.kind :: (optB (partsF p.kind).trace (eight p.trace) ++ (optB (partsF p.kind).ballot (eight p.bn ++ eight p.bnode) ++ (optB (partsF p.kind).answer (flag p.ok :: (eight p.sn ++ eight p.snode)) ++
  (optB (partsF p.kind).verdict [byteI p.v] ++ (optB (partsF p.kind).spans (byteI p.spans.length :: p.spans.flatMap putF) ++ (optB (partsF p.kind).members (byteI p.members.length :: p.members.flatMap memB) ++
   optB (partsF p.kind).ids (byteI p.ids.length :: p.ids.flatMap eight)))))))
/-! ### reading -/
def hd (l : List UInt8) : Nat := (l.getD 0 0).toNat
def spanK (l : List UInt8) : Nat → List SpanD × List UInt8
 | 0 => ([], l)
 | k + 1 => ((spanK l k).1 ++ [(cutSpanF (spanK l k).2).2.1], (cutSpanF (spanK l k).2).2.2)
def memAt (l : List UInt8) : MemberD := ⟨numB l 8, numB (l.drop 8) 8, (hd (l.drop 16) : Nat)⟩
def memK (l : List UInt8) : Nat → List MemberD × List UInt8
 | 0 => ([], l)
 | k + 1 => ((memK l k).1 ++ [memAt (memK l k).2], (memK l k).2.drop 17)
def idK (l : List UInt8) : Nat → List Nat × List UInt8
 | 0 => ([], l)
 | k + 1 => ((idK l k).1 ++ [numB (idK l k).2 8], (idK l k).2.drop 8)
def readF (d : List UInt8) : PackD :=
 let h := partsF (hd d : Nat)
 let d0 := d.drop 1
 let d1 := if h.trace then d0.drop 8 else d0
 let d2 := if h.ballot then d1.drop 16 else d1
 let d3 := if h.answer then d2.drop 17 else d2
 let d4 := if h.verdict then d3.drop 1 else d3
 let d5 := if h.spans then (spanK (d4.drop 1) (hd d4)).2 else d4
 let d6 := if h.members then (memK (d5.drop 1) (hd d5)).2 else d5
 ⟨(hd d : Nat), if h.trace then numB d0 8 else 0, if h.ballot then numB d1 8 else 0, if h.ballot then numB (d1.drop 8) 8 else 0,
   if h.answer then numB (d2.drop 1) 8 else 0, if h.answer then numB (d2.drop 9) 8 else 0, if h.verdict then (hd d3 : Nat) else 0, if h.answer then decide (hd d2 = 1) else false,
   if h.spans then (spanK (d4.drop 1) (hd d4)).1 else [], if h.members then (memK (d5.drop 1) (hd d5)).1 else [], if h.ids then (idK (d6.drop 1) (hd d6)).1 else []⟩
/-! ### what a right packet is -/
structure RightD (p : PackD) : Prop where
 kind : 1 ≤ p.kind ∧ p.kind ≤ 10
 trace : (partsF p.kind).trace = false → p.trace = 0
 ballot : (partsF p.kind).ballot = false → p.bn = 0 ∧ p.bnode = 0
 answer : (partsF p.kind).answer = false → p.ok = false ∧ p.sn = 0 ∧ p.snode = 0
 v : 0 ≤ p.v ∧ p.v ≤ 3
 verdict : (partsF p.kind).verdict = false → p.v = 0
 spans : (partsF p.kind).spans = false → p.spans = []
 spans1 : p.spans.length ≤ 16
 spans2 : ∀ s ∈ p.spans, rightF s = 0
 members : (partsF p.kind).members = false → p.members = []
 members1 : p.members.length ≤ 16
 members2 : ∀ m ∈ p.members, 0 ≤ m.state ∧ m.state ≤ 2
 ids : (partsF p.kind).ids = false → p.ids = []
 ids1 : p.ids.length ≤ 16
def zeroP : PackD := ⟨0, 0, 0, 0, 0, 0, 0, false, [], [], []⟩
def encF (p : PackD) : List UInt8 := framed (writtenF p)
def decF (b : List UInt8) : Int × PackD :=
 if (cutF b).1 = 0 then if rightP (readF (cutF b).2.1) = true ∧ encF (readF (cutF b).2.1) = b then (0, readF (cutF b).2.1) else (6, zeroP) else ((cutF b).1, zeroP)
end Go.Proofs.YthjhofmjhmnddaaGreat
/-
 What the program's putNumber and Put answer.
-/
namespace Go.Proofs.YthjhofmjhmnddaaGreat
open Go.RowKit Ru
structure Box (w : World) (b : Nat) (s : SpanD) : Prop where
 c0 : w.cell? ⟨b, 0, none⟩ = some (.int .u64 (s.trace : Nat))
 c1 : w.cell? ⟨b, 1, none⟩ = some (.int .u64 (s.id : Nat))
 c2 : w.cell? ⟨b, 2, none⟩ = some (.int .u64 (s.parent : Nat))
 c3 : w.cell? ⟨b, 3, none⟩ = some (.int .u64 (s.start : Nat))
 c4 : w.cell? ⟨b, 4, none⟩ = some (.int .u64 (s.len : Nat))
 c5 : w.cell? ⟨b, 5, none⟩ = some (.string s.service)
 c6 : w.cell? ⟨b, 6, none⟩ = some (.string s.name)
 c7 : w.cell? ⟨b, 7, none⟩ = some (.bool s.fail)
theorem Box.below {w w' : World} {b B : Nat} {s : SpanD} (h : Box w b s) (hb : Below B w w') (hB : b < B) : Box w' b s := by
 obtain ⟨h0, h1, h2, h3, h4, h5, h6, h7⟩ := h
 have k : ∀ o, w'.cell? ⟨b, o, none⟩ = w.cell? ⟨b, o, none⟩ := fun o => hb.cell (p := ⟨b, o, none⟩) hB
 exact ⟨by rw [k]; exact h0, by rw [k]; exact h1, by rw [k]; exact h2, by rw [k]; exact h3, by rw [k]; exact h4, by rw [k]; exact h5, by rw [k]; exact h6, by rw [k]; exact h7⟩
def tailK (s : SpanD) (k : Nat) : List UInt8 := ([s.service, s.name].take k).flatMap textF
end Go.Proofs.YthjhofmjhmnddaaGreat
/-
 What the program's putNumbers and putTruth answer.
-/
namespace Go.Proofs.YthjhofmjhmnddaaGreat
open Go.RowKit Ru
def RowPost (B : Nat) (w : World) (l : List UInt8) (e : Ending) (w' : World) : Prop := ∃ A n c, e = .returned (.slice A n c) ∧ Own B w' A n c l ∧ Below B w w'
theorem rowPost_mk {B : Nat} {w w' : World} {l l' : List UInt8} {A : Option Addr} {n c : Nat} (h : Own B w' A n c l') (e : l' = l) (hb : Below B w w') : RowPost B w l (.returned (.slice A n c)) w' := ⟨A, n, c, rfl, e ▸ h, hb⟩
def Others (w : World) (A : Option Addr) (W : World) : Prop := ∀ g, g < w.heap.size → (∀ a, A = some a → a.block ≠ g) → W.heap[g]? = w.heap[g]?
def Near (w : World) (A A1 : Option Addr) : Prop := ∀ a, A1 = some a → w.heap.size ≤ a.block ∨ ∃ a', A = some a' ∧ a'.block = a.block
theorem Others.refl (w : World) (A : Option Addr) : Others w A w := fun _ _ _ => rfl
theorem Near.refl (w : World) (A : Option Addr) : Near w A A := fun a h => .inr ⟨a, h, rfl⟩
def RowPost2 (B : Nat) (w : World) (A0 : Option Addr) (l : List UInt8) (e : Ending) (w' : World) : Prop := ∃ A n c, e = .returned (.slice A n c) ∧ Own B w' A n c l ∧ Below B w w' ∧ Others w A0 w'
end Go.Proofs.YthjhofmjhmnddaaGreat
