/-
  Contracts of the library's functions at this program: what the shelf's own theorems ask of it; laid by the guide's program.
-/
import Derived.Test.YthjhofmjhmnddaaGreatMGAN
import Derived.Test.YthjhofmjhmnddaaGreatMGAP
import Derived.Shelf.SlicesE.Delete
import Derived.Test.YthjhofmjhmnddaaGreatProg
import Derived.IntWalk
set_option linter.unusedSimpArgs false
set_option linter.unusedVariables false
namespace Go.Proofs.YthjhofmjhmnddaaGreat
open Go.Shelf Go.Proofs
def Sh.deletePtr_ren : Go.Shelf.Ren := ⟨fun | 45 => 78 | n => n, fun | 22 => 126 | 23 => 134 | 3 => 3 | 4 => 4 | 0 => 0 | n => n, fun | n => n⟩
end Go.Proofs.YthjhofmjhmnddaaGreat
/-
 The first of a log's files goes from their row.
-/
namespace Go.Proofs.YthjhofmjhmnddaaGreat
open Go.RowKit Fm Dsk
namespace Wl
abbrev encP (p : Option Addr) : Value := .pointer p
def ptrA (g : Nat → Nat) (n : Nat) : Array (Option Addr) := ((List.range n).map (fun i => (some ⟨g i, 0, none⟩ : Option Addr))).toArray
def tailA (g : Nat → Nat) (n : Nat) : Array (Option Addr) := ((ptrA g (n + 1)).toList.take 0 ++ (ptrA g (n + 1)).toList.drop 1 ++ List.replicate (1 - 0) none).toArray
end Wl
end Go.Proofs.YthjhofmjhmnddaaGreat
/-
 A log whose first file went.
-/
namespace Go.Proofs.YthjhofmjhmnddaaGreat
open Go.RowKit Fm Dsk
namespace Wl
section
variable {w w2 w3 : World} {gl gd : Nat} {Qd X Pl : Nat → Prop} {P : Nat → Nat → Prop} {g : Nat → Nat} {Af : Option Addr} {cf : Nat} {d : DiskD} {most : Int} {L : List FS}
end
end Wl
end Go.Proofs.YthjhofmjhmnddaaGreat
/-
 Drop of a log that lies in files from base on.
-/
namespace Go.Proofs.YthjhofmjhmnddaaGreat
open Go.RowKit Fm Dsk
namespace Wl
def dropL (n : Nat) : List FS → List FS
 | f :: f2 :: L => if nextF f ≤ n then dropL n (f2 :: L) else f :: f2 :: L
 | L => L
theorem drop_nil (n : Nat) : dropL n [] = [] := rfl
def lenOf (gl : Nat) (w : World) : Nat := match w.cell? ⟨gl, 2, none⟩ with
 | some (.slice _ n _) => n
 | _ => 0
structure DropMid (w0 : World) (X0 F : Nat → Prop) (gl gd : Nat) (most : Int) (N U n : Nat) (d0 : DiskD) (R : List FS) (w : World) (d : DiskD) (base : Nat) (L : List FS) (X : Nat → Prop) : Prop where
 lg : LgF w gl gd X (growF F w0 w) d most L
 ok : LogOk d most base L N U
 rest : dropL n L = R
 tn : Tn F w0 w
 x1 : ∀ q, X q → X0 q ∨ w0.heap.size ≤ q
 x2 : ∀ q, X0 q → X q
 ar : d.armed = d0.armed
 ro : d.room = d0.room
 same : ∀ i, i < L.length → d.F (rg base i) = d0.F (rg base i)
theorem DropMid.later {w0 w w' : World} {X0 F X : Nat → Prop} {gl gd : Nat} {most : Int} {N U n base : Nat} {d0 d : DiskD} {R L : List FS} (h : DropMid w0 X0 F gl gd most N U n d0 R w d base L X) (k : Below w.heap.size w w') : DropMid w0 X0 F gl gd most N U n d0 R w' d base L X :=
 ⟨(h.lg.below k).wide (fun q hq => hq.imp id (fun hq => ⟨hq.1, Nat.lt_of_lt_of_le hq.2 k.size⟩)), h.ok, h.rest, h.tn.then_below k, h.x1, h.x2, h.ar, h.ro, h.same⟩
abbrev FourC (a1 : Addr) (v1 : Value) (a2 : Addr) (v2 : Value) (a3 : Addr) (v3 : Value) (a4 : Addr) (v4 : Value) (W : World) : Prop := W.cell? a1 = some v1 ∧ W.cell? a2 = some v2 ∧ W.cell? a3 = some v3 ∧ W.cell? a4 = some v4
def DropPost (w : World) (gl gd : Nat) (X F : Nat → Prop) (most : Int) (N U n : Nat) (d : DiskD) (L : List FS) (e : Ending) (w' : World) : Prop :=
 e = .returned (.int .i64 0) ∧ ∃ d' base' X', DropMid w X F gl gd most N U n d (dropL n L) w' d' base' (dropL n L) X'
end Wl
end Go.Proofs.YthjhofmjhmnddaaGreat
/-
 Which records a Drop leaves: plain mathematics.
-/
namespace Go.Proofs.YthjhofmjhmnddaaGreat
open Go.RowKit Fm Dsk
namespace Wl
end Wl
end Go.Proofs.YthjhofmjhmnddaaGreat
