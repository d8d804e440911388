/-
  Contracts of the library's functions at this program: what the shelf's own theorems ask of it; laid by the guide's program.
-/
import Derived.Test.YthjhofmjhmnddaaGreatMGAA
import Derived.Test.YthjhofmjhmnddaaGreatMGAE
import Derived.Shelf.SlIterI.Nil
import Derived.Shelf.SortM.Plain
import Derived.Shelf.SortM.SortNone
import Derived.Shelf.SlicesE.Clone
import Derived.Test.YthjhofmjhmnddaaGreatProg
import Derived.StillTailTactics
import Derived.Deep.RegionHeld3
import Derived.Deep.RegionLaw
set_option linter.unusedSimpArgs false
set_option linter.unusedVariables false
namespace Go.Proofs.YthjhofmjhmnddaaGreat
open Go.Shelf Go.Proofs
def Sh.cloneBytes_ren : Go.Shelf.Ren := ⟨fun | 41 => 86 | n => n, fun | 22 => 112 | 23 => 5 | 4 => 4 | n => n, fun | n => n⟩
theorem Sh.cloneBytes : Go.Proofs.SlLaysE0.n41 Tryz.prog Sh.cloneBytes_ren := {
 mixed := by kernel_rfl
 f41 := ⟨Tryz.f86.name, by decide, Tryz.func86.trans (congrArg some (by kernel_rfl))⟩
 t4 := Tryz.underlying4
 a4 := Tryz.isAgg4
 z4 := Tryz.sizeOf4
 v4 := Tryz.zeroValue4
 t22 := Tryz.underlying112
 a22 := Tryz.isAgg112
 z22 := Tryz.sizeOf112
 v22 := Tryz.zeroValue112 }
def Sh.keysI_ren : Go.Shelf.Ren := ⟨fun | 7 => 80 | 10 => 109 | n => n, fun | 23 => 78 | 26 => 3 | 3 => 121 | 28 => 151 | 0 => 0 | 27 => 150 | 33 => 189 | 4 => 4 | n => n, fun | n => n⟩
theorem Sh.keysI : Go.Proofs.SlLaysZI.n7 Tryz.prog Sh.keysI_ren := {
 mixed := by kernel_rfl
 f7 := ⟨Tryz.f80.name, by decide, Tryz.func80.trans (congrArg some (by kernel_rfl))⟩
 f10 := ⟨Tryz.f109.name, by decide, Tryz.func109.trans (congrArg some (by kernel_rfl))⟩
 t0 := Tryz.underlying0
 a0 := Tryz.isAgg0
 z0 := Tryz.sizeOf0
 v0 := Tryz.zeroValue0
 t4 := Tryz.underlying4
 a4 := Tryz.isAgg4
 z4 := Tryz.sizeOf4
 v4 := Tryz.zeroValue4
 t23 := Tryz.underlying78
 a23 := Tryz.isAgg78
 z23 := Tryz.sizeOf78
 v23 := Tryz.zeroValue78
 t26 := Tryz.underlying3
 a26 := Tryz.isAgg3
 z26 := Tryz.sizeOf3
 v26 := Tryz.zeroValue3
 t27 := Tryz.underlying150
 a27 := Tryz.isAgg150
 z27 := Tryz.sizeOf150
 v27 := Tryz.zeroValue150
 t28 := Tryz.underlying151
 a28 := Tryz.isAgg151
 z28 := Tryz.sizeOf151
 v28 := Tryz.zeroValue151
 t33 := Tryz.underlying189
 a33 := Tryz.isAgg189
 z33 := Tryz.sizeOf189
 v33 := Tryz.zeroValue189 }
def Sh.sortedI_ren : Go.Shelf.Ren := ⟨fun | 6 => 79 | 8 => 107 | 9 => 108 | 11 => 137 | 13 => 82 | 12 => 138 | 23 => 119 | 24 => 120 | 14 => 160 | 15 => 161 | 16 => 162 | 17 => 163 | 18 => 164 | 19 => 165 | 20 => 166 | 21 => 167 | 22 => 168 | 25 => 179 | 26 => 140 | 27 => 141 | 28 => 180 | 29 => 181 | 30 => 182 | 31 => 188 | n => n, fun | 26 => 3 | 28 => 151 | 24 => 42 | 0 => 0 | 3 => 3 | 37 => 155 | 48 => 200 | 50 => 33 | 4 => 4 | 40 => 192 | 39 => 191 | 45 => 197 | 5 => 5 | 9 => 9 | 51 => 216 | 55 => 219 | 57 => 248 | 58 => 249 | 33 => 189 | n => n, fun | n => n⟩
theorem Sh.sortedI : Go.Proofs.SlLaysZI.n6 Tryz.prog Sh.sortedI_ren := {
 mixed := by kernel_rfl
 f6 := ⟨Tryz.f79.name, by decide, Tryz.func79.trans (congrArg some (by kernel_rfl))⟩
 f8 := ⟨Tryz.f107.name, by decide, Tryz.func107.trans (congrArg some (by kernel_rfl))⟩
 f11 := ⟨Tryz.f137.name, by decide, Tryz.func137.trans (congrArg some (by kernel_rfl))⟩
 t0 := Tryz.underlying0
 a0 := Tryz.isAgg0
 z0 := Tryz.sizeOf0
 v0 := Tryz.zeroValue0
 t24 := Tryz.underlying42
 a24 := Tryz.isAgg42
 z24 := Tryz.sizeOf42
 v24 := Tryz.zeroValue42
 t26 := Tryz.underlying3
 a26 := Tryz.isAgg3
 z26 := Tryz.sizeOf3
 v26 := Tryz.zeroValue3
 t28 := Tryz.underlying151
 a28 := Tryz.isAgg151
 z28 := Tryz.sizeOf151
 v28 := Tryz.zeroValue151
 i26 := by kernel_rfl }
def Sh.sortI_ren : Go.Shelf.Ren := ⟨fun | 5 => 108 | 8 => 82 | 7 => 138 | 19 => 119 | 20 => 120 | 10 => 160 | 11 => 161 | 12 => 162 | 13 => 163 | 14 => 164 | 15 => 165 | 16 => 166 | 17 => 167 | 18 => 168 | 30 => 179 | 31 => 140 | 32 => 141 | 33 => 180 | 34 => 181 | 35 => 182 | 40 => 188 | n => n, fun | 23 => 42 | 25 => 3 | 3 => 3 | 32 => 155 | 22 => 42 | 0 => 0 | 44 => 200 | 46 => 33 | 4 => 4 | 36 => 192 | 35 => 191 | 41 => 197 | 5 => 5 | 9 => 9 | 53 => 216 | 57 => 219 | 63 => 248 | 64 => 249 | n => n, fun | n => n⟩
theorem Sh.sortI : Go.Proofs.SlLaysM.n5 Tryz.prog Sh.sortI_ren := {
 mixed := by kernel_rfl
 f5 := ⟨Tryz.f108.name, by decide, Tryz.func108.trans (congrArg some (by kernel_rfl))⟩
 f7 := ⟨Tryz.f138.name, by decide, Tryz.func138.trans (congrArg some (by kernel_rfl))⟩
 f8 := Tryz.func82.trans (congrArg some (by kernel_rfl))
 f10 := ⟨Tryz.f160.name, by decide, Tryz.func160.trans (congrArg some (by kernel_rfl))⟩
 f11 := ⟨Tryz.f161.name, by decide, Tryz.func161.trans (congrArg some (by kernel_rfl))⟩
 f12 := ⟨Tryz.f162.name, by decide, Tryz.func162.trans (congrArg some (by kernel_rfl))⟩
 f13 := ⟨Tryz.f163.name, by decide, Tryz.func163.trans (congrArg some (by kernel_rfl))⟩
 f14 := ⟨Tryz.f164.name, by decide, Tryz.func164.trans (congrArg some (by kernel_rfl))⟩
 f15 := ⟨Tryz.f165.name, by decide, Tryz.func165.trans (congrArg some (by kernel_rfl))⟩
 f16 := ⟨Tryz.f166.name, by decide, Tryz.func166.trans (congrArg some (by kernel_rfl))⟩
 f17 := ⟨Tryz.f167.name, by decide, Tryz.func167.trans (congrArg some (by kernel_rfl))⟩
 f18 := ⟨Tryz.f168.name, by decide, Tryz.func168.trans (congrArg some (by kernel_rfl))⟩
 f19 := Tryz.func119.trans (congrArg some (by kernel_rfl))
 f20 := Tryz.func120.trans (congrArg some (by kernel_rfl))
 f30 := ⟨Tryz.f179.name, by decide, Tryz.func179.trans (congrArg some (by kernel_rfl))⟩
 f31 := Tryz.func140.trans (congrArg some (by kernel_rfl))
 f32 := Tryz.func141.trans (congrArg some (by kernel_rfl))
 f33 := ⟨Tryz.f180.name, by decide, Tryz.func180.trans (congrArg some (by kernel_rfl))⟩
 f34 := ⟨Tryz.f181.name, by decide, Tryz.func181.trans (congrArg some (by kernel_rfl))⟩
 f35 := ⟨Tryz.f182.name, by decide, Tryz.func182.trans (congrArg some (by kernel_rfl))⟩
 f40 := ⟨Tryz.f188.name, by decide, Tryz.func188.trans (congrArg some (by kernel_rfl))⟩
 t0 := Tryz.underlying0
 a0 := Tryz.isAgg0
 z0 := Tryz.sizeOf0
 v0 := Tryz.zeroValue0
 t3 := Tryz.underlying3
 a3 := Tryz.isAgg3
 z3 := Tryz.sizeOf3
 v3 := Tryz.zeroValue3
 t4 := Tryz.underlying4
 a4 := Tryz.isAgg4
 z4 := Tryz.sizeOf4
 v4 := Tryz.zeroValue4
 t5 := Tryz.underlying5
 a5 := Tryz.isAgg5
 z5 := Tryz.sizeOf5
 v5 := Tryz.zeroValue5
 t9 := Tryz.underlying9
 a9 := Tryz.isAgg9
 z9 := Tryz.sizeOf9
 v9 := Tryz.zeroValue9
 t22 := Tryz.underlying42
 a22 := Tryz.isAgg42
 z22 := Tryz.sizeOf42
 v22 := Tryz.zeroValue42
 t23 := Tryz.underlying42
 a23 := Tryz.isAgg42
 z23 := Tryz.sizeOf42
 v23 := Tryz.zeroValue42
 t25 := Tryz.underlying3
 a25 := Tryz.isAgg3
 z25 := Tryz.sizeOf3
 v25 := Tryz.zeroValue3
 t32 := Tryz.underlying155
 a32 := Tryz.isAgg155
 z32 := Tryz.sizeOf155
 v32 := Tryz.zeroValue155
 t35 := Tryz.underlying191
 a35 := Tryz.isAgg191
 z35 := Tryz.sizeOf191
 v35 := Tryz.zeroValue191
 t36 := Tryz.underlying192
 a36 := Tryz.isAgg192
 z36 := Tryz.sizeOf192
 v36 := Tryz.zeroValue192
 t41 := Tryz.underlying197
 a41 := Tryz.isAgg197
 z41 := Tryz.sizeOf197
 v41 := Tryz.zeroValue197
 t44 := Tryz.underlying200
 a44 := Tryz.isAgg200
 z44 := Tryz.sizeOf200
 v44 := Tryz.zeroValue200
 t46 := Tryz.underlying33
 a46 := Tryz.isAgg33
 z46 := Tryz.sizeOf33
 v46 := Tryz.zeroValue33
 t53 := Tryz.underlying216
 a53 := Tryz.isAgg216
 z53 := Tryz.sizeOf216
 v53 := Tryz.zeroValue216
 t57 := Tryz.underlying219
 a57 := Tryz.isAgg219
 z57 := Tryz.sizeOf219
 v57 := Tryz.zeroValue219
 t63 := Tryz.underlying248
 a63 := Tryz.isAgg248
 z63 := Tryz.sizeOf248
 v63 := Tryz.zeroValue248
 t64 := Tryz.underlying249
 a64 := Tryz.isAgg249
 z64 := Tryz.sizeOf249
 v64 := Tryz.zeroValue249 }
end Go.Proofs.YthjhofmjhmnddaaGreat
/-
 The program's Files of a disk: the map's keys, sorted.
-/
namespace Go.Proofs.YthjhofmjhmnddaaGreat
open Go.RowKit
open Go.Maps (Keyed)
open Go.Proofs Go.Shelf
namespace Dsk
theorem sortsI (m : Nat) : AnyZI.SortsIn Tryz.prog Sh.sortedI_ren Fence.wide m :=
 ⟨fun blk off cap ss W hH hblk hsz => callsIn_wide.2 (AnyM.slices_Sort_int Sh.sortI blk off cap ss W hH hblk hsz),
  fun p cap W => callsIn_wide.2 (AnyM.slices_Sort_int_none Sh.sortI p cap W)⟩
theorem keys_call (mb : Option Nat) (W : World) : Calls Tryz.prog 80 #[.map mb] W (fun e w' => e = .returned (.func (.func 109) #[] #[.pointer (some ⟨W.heap.size, 0, none⟩)]) ∧ w' = W.alloc (.cells #[.map mb] 78)) :=
 (callsIn_wide (n := 5)).1 (AnyZI.keys_in Sh.keysI Fence.wide 5 trivial rfl mb W)
theorem sorted_some (b nn : Nat) (D0 : DataW Value) (w : World) (hown : w.ownsMap Tryz.prog 3 elemR b nn D0) (hmax : Maps.size D0 ≤ maxLen) (hbytes : Maps.size D0 * 8 ≤ 140737488355328) :
  Calls Tryz.prog 79 #[.func (.func 109) #[] #[.pointer (some ⟨w.heap.size, 0, none⟩)]] (w.alloc (.cells #[.map (some b)] 78)) (fun e w' => ∃ (v : Value) (ss : List Int), e = .returned v ∧ ss.Perm (intKeys D0) ∧
   w'.ownsRow (w.alloc (.cells #[.map (some b)] 78)).heap.size 3 1 v ss.length ((ss.mergeSort (fun x y => decide (x ≤ y))).map encZ) ∧ (v = .slice none 0 0 ↔ ss = []) ∧ Below (w.alloc (.cells #[.map (some b)] 78)).heap.size (w.alloc (.cells #[.map (some b)] 78)) w') := by
 have hbl := hown.lt
 have hseq : SeqGives Fence.wide 2 Tryz.prog 109 #[.pointer (some ⟨w.heap.size, 0, none⟩)] encZ (fun ss => ss.Perm (intKeys D0)) (Maps.size D0) (w.alloc (.cells #[.map (some b)] 78)) :=
  AnyZI.keys_gives (ρ := Sh.keysI_ren) { Sh.keysI with } Fence.wide _ trivial rfl (by omega) w.heap.size b nn D0 _ (by simp) (by simp) (by
   obtain ⟨es, clock, hb, Ft, hs, hD⟩ := hown
   exact ⟨es, clock, (Below.heap_alloc _ _ b hbl).trans hb, Ft, hs, hD⟩)
 exact (callsIn_wide (n := 5)).1 (AnyZI.sorted_in Sh.sortedI Fence.wide 5 trivial trivial trivial trivial rfl (by omega) (sortsI _) (enters_of Tryz.func108 (by kernel_rfl) rfl) 109 #[.pointer (some ⟨w.heap.size, 0, none⟩)] trivial (enters_of Tryz.func109 (by kernel_rfl) rfl) _ _ hmax hbytes _ hseq)
theorem sorted_none (w : World) :
  Calls Tryz.prog 79 #[.func (.func 109) #[] #[.pointer (some ⟨w.heap.size, 0, none⟩)]] (w.alloc (.cells #[.map none] 78)) (fun e w' => e = .returned (.slice none 0 0) ∧ Below (w.alloc (.cells #[.map none] 78)).heap.size (w.alloc (.cells #[.map none] 78)) w') := by
 have hseq : SeqGives Fence.wide 2 Tryz.prog 109 #[.pointer (some ⟨w.heap.size, 0, none⟩)] encZ (fun ss : List Int => ss = []) 0 (w.alloc (.cells #[.map none] 78)) :=
  AnyZI.keys_gives_nil (ρ := Sh.keysI_ren) { Sh.keysI with } Fence.wide _ trivial rfl w.heap.size _ (by simp) (by simp)
 refine Calls.mono ((callsIn_wide (n := 5)).1 (AnyZI.sorted_in Sh.sortedI Fence.wide 5 trivial trivial trivial trivial rfl (by omega) (sortsI _) (enters_of Tryz.func108 (by kernel_rfl) rfl) 109 #[.pointer (some ⟨w.heap.size, 0, none⟩)] trivial (enters_of Tryz.func109 (by kernel_rfl) rfl) _ 0 (Nat.zero_le _) (by omega) _ hseq)) ?_
 rintro e w' ⟨v, ss, rfl, rfl, _, hnil, hb⟩
 exact ⟨by rw [hnil.2 rfl], hb⟩
def numVals (l : List Nat) : List Value := l.map (fun j : Nat => .int .i64 (j : Nat))
def FilesPost (F : Files) (w : World) (e : Ending) (w' : World) : Prop := ∃ A c, e = .returned (.slice A (filesF F).length c) ∧ OwnV 3 w.heap.size w' A (filesF F).length c (numVals (filesF F)) ∧ Below w.heap.size w w'
theorem filesPost_none {w w' : World} {F : Files} (h : F = noF) (hb : Below w.heap.size w w') : FilesPost F w (.returned (.slice none 0 0)) w' := by
 subst h
 exact ⟨none, 0, rfl, OwnV.none _ _ _, hb⟩
theorem filesPost_some {w w1 w' : World} {g b : Nat} {Q : Nat → Prop} {F : Files} {D : DataW Value} {V : Nat → Option Addr × Nat} (h : FilesIn w g b Q F D V) (hh : ∀ j, 64 ≤ j → F j = none) {v : Value} {ss : List Int} (hs : ss.Perm (intKeys D))
  (ho : w'.ownsRow w1.heap.size 3 1 v ss.length ((ss.mergeSort (fun x y => decide (x ≤ y))).map encZ)) (h1 : w.heap.size ≤ w1.heap.size) (hb : Below w.heap.size w w') : FilesPost F w (.returned v) w' := by
 have e1 : ss.length = (filesF F).length := by rw [hs.length_eq, ← (h.keys hh).length_eq, List.length_map]
 rw [h.keys_sorted hh hs, List.map_map, e1] at ho
 obtain ⟨hx, hr⟩ := ho
 obtain ⟨A, c, rfl, -⟩ := own_form (show w'.ownsRow w1.heap.size 3 1 v _ _ from ⟨hx, hr⟩)
 refine ⟨A, c, rfl, ⟨hx, ?_⟩, hb⟩
 rcases hr with hr | ⟨g', cap, cur, e, hg, r⟩
 ·exact .inl hr
 ·exact .inr ⟨g', cap, cur, e, by omega, r⟩
theorem files_any (g : Nat) (Q : Nat → Prop) (d : DiskD) (w : World) (h : Dk w g Q d) : Calls Tryz.prog 53 #[.pointer (some ⟨g, 0, none⟩)] w (FilesPost d.F w) := by
 rcases h.mem with ⟨h1, h2⟩ | ⟨b, D, V, h1, h2⟩
 ·obtain ⟨c0, c1, c2, c3, c4, -⟩ := dk_facts h1
  have H2 := hid_ h2
  clear h h1 h2
  go_enter Tryz.func53, Tryz.ntmps53
  go_wp2_with fail
  refine Calls.mono (keys_call none w) ?_
  rintro e w1 ⟨rfl, rfl⟩
  go_wp2_with fail
  refine Calls.mono (sorted_none w) ?_
  rintro e w2 ⟨rfl, hb2⟩
  have Hb := hid_ (((Below.refl w.heap.size w).alloc (Nat.le_refl _) (.cells #[.map none] 78)).trans (hb2.mono (by simp)))
  clear hb2
  go_wp2
  go_ret
  exact filesPost_none H2.out Hb.out
 ·obtain ⟨c0, c1, c2, c3, c4, -⟩ := dk_facts h1
  have H2 := hid_ h2
  have Hh := hid_ h.ok.high
  have Hs := hid_ (sorted_some b 64 D w (h2.owns h.ok.high) (by have := h2.size h.ok.high; unfold maxLen; omega) (by have := h2.size h.ok.high; omega))
  clear h h1 h2
  go_enter Tryz.func53, Tryz.ntmps53
  go_wp2_with fail
  refine Calls.mono (keys_call (some b) w) ?_
  rintro e w1 ⟨rfl, rfl⟩
  go_wp2_with fail
  refine Calls.mono Hs.out ?_
  rintro e w2 ⟨v, ss, rfl, hp, ho, -, hb2⟩
  have Hp := hid_ hp
  have Ho := hid_ ho
  have Hb := hid_ (((Below.refl w.heap.size w).alloc (Nat.le_refl _) (.cells #[.map (some b)] 78)).trans (hb2.mono (by simp)))
  clear hp ho hb2 Hs
  go_wp2
  go_ret
  exact filesPost_some H2.out Hh.out Hp.out Ho.out (by simp) Hb.out
end Dsk
end Go.Proofs.YthjhofmjhmnddaaGreat
/-
 The program's find of a file; Read, Sync, Remove, and a file's first bytes.
-/
namespace Go.Proofs.YthjhofmjhmnddaaGreat
open Go.RowKit
open Go.Maps (Keyed)
open Go.Proofs Go.Shelf
namespace Dsk
theorem up_whole (g : Nat) (m : Option Nat) (d : DiskD) (w : World) (hw : Whole w g 80 (cellsD m d)) : Calls Tryz.prog 87 #[.pointer (some ⟨g, 0, none⟩)] w (fun e w' => e = .returned (.int .i64 (if d.down then 10 else 0)) ∧ w = w') := by
 obtain ⟨c0, c1, c2, c3, c4, -⟩ := dk_facts hw
 clear hw
 rcases d with ⟨room, F, armed, left, _ | _⟩
 ·go_enter Tryz.func87, Tryz.ntmps87
  go_wp2
  go_ret
  exact ⟨rfl, rfl⟩
 ·go_enter Tryz.func87, Tryz.ntmps87
  go_wp2
  go_ret
  exact ⟨rfl, rfl⟩
set_option maxRecDepth 100000 in
theorem find_hit (g : Nat) (m : Option Nat) (d : DiskD) (w : World) (hw : Whole w g 80 (cellsD m d)) (hd : d.down = false) (x : Int) (A : Option Addr) (n cc : Nat) (f : Int)
  (hl : ∀ W, Below w.heap.size w W → (Instr.lookup 78 (.map m) (.int .i64 x) true).run Tryz.prog W = .ok (.tuple #[.agg #[.slice A n cc, .int .i64 f], .bool true]) W) :
  Calls Tryz.prog 85 #[.pointer (some ⟨g, 0, none⟩), .int .i64 x] w (fun e w' => e = .returned (.tuple #[.agg #[.slice A n cc, .int .i64 f], .int .i64 0]) ∧ Below w.heap.size w w') := by
 have hgl := hw.lt
 have Hu := hid_ (up_whole g m d _ (hw.alloc (.cells #[.slice none 0 0, .int .i64 0] 121)))
 obtain ⟨c0, c1, c2, c3, c4, -⟩ := dk_facts hw
 have hl' := hl (w.alloc (.cells #[.slice none 0 0, .int .i64 0] 121)) ((Below.refl _ _).alloc (Nat.le_refl _) _)
 rw [hd] at Hu c4
 clear hl hw hd
 go_enter Tryz.func85, Tryz.ntmps85
 go_wp2_with fail
 refine Calls.mono Hu.out ?_
 rintro e w1 ⟨rfl, rfl⟩
 go_wp2_with fail
 exact bodyPost_ret (v := .tuple #[.agg #[.slice A n cc, .int .i64 f], .int .i64 0]) (by simp [results, Tryz.results85, go_sem]) rfl ⟨rfl, (by repeat (first | exact Below.refl _ _ | refine Below.setCell ?_ (Nat.le_refl _) _ | refine Below.setCell ?_ (by simp) _ | refine Below.alloc ?_ (Nat.le_refl _) _ | refine Below.alloc ?_ (by simp) _))⟩
set_option maxRecDepth 100000 in
theorem find_gone (g : Nat) (m : Option Nat) (d : DiskD) (w : World) (hw : Whole w g 80 (cellsD m d)) (hd : d.down = false) (x : Int)
  (hl : ∀ W, Below w.heap.size w W → (Instr.lookup 78 (.map m) (.int .i64 x) true).run Tryz.prog W = .ok (.tuple #[.agg #[.slice none 0 0, .int .i64 0], .bool false]) W) :
  Calls Tryz.prog 85 #[.pointer (some ⟨g, 0, none⟩), .int .i64 x] w (fun e w' => e = .returned (.tuple #[.agg #[.slice none 0 0, .int .i64 0], .int .i64 11]) ∧ Below w.heap.size w w') := by
 have hgl := hw.lt
 have Hu := hid_ (up_whole g m d _ (hw.alloc (.cells #[.slice none 0 0, .int .i64 0] 121)))
 obtain ⟨c0, c1, c2, c3, c4, -⟩ := dk_facts hw
 have hl' := hl (w.alloc (.cells #[.slice none 0 0, .int .i64 0] 121)) ((Below.refl _ _).alloc (Nat.le_refl _) _)
 rw [hd] at Hu c4
 clear hl hw hd
 go_enter Tryz.func85, Tryz.ntmps85
 go_wp2_with fail
 refine Calls.mono Hu.out ?_
 rintro e w1 ⟨rfl, rfl⟩
 go_wp2_with fail
 exact bodyPost_ret (v := .tuple #[.agg #[.slice none 0 0, .int .i64 0], .int .i64 11]) (by simp [results, Tryz.results85, go_sem]) rfl ⟨rfl, (by repeat (first | exact Below.refl _ _ | refine Below.setCell ?_ (Nat.le_refl _) _ | refine Below.setCell ?_ (by simp) _ | refine Below.alloc ?_ (Nat.le_refl _) _ | refine Below.alloc ?_ (by simp) _))⟩
set_option maxRecDepth 100000 in
theorem find_down (g : Nat) (m : Option Nat) (d : DiskD) (w : World) (hw : Whole w g 80 (cellsD m d)) (hd : d.down = true) (x : Int) :
  Calls Tryz.prog 85 #[.pointer (some ⟨g, 0, none⟩), .int .i64 x] w (fun e w' => e = .returned (.tuple #[.agg #[.slice none 0 0, .int .i64 0], .int .i64 10]) ∧ Below w.heap.size w w') := by
 have hgl := hw.lt
 have Hu := hid_ (up_whole g m d _ (hw.alloc (.cells #[.slice none 0 0, .int .i64 0] 121)))
 rw [hd] at Hu
 clear hw hd
 go_enter Tryz.func85, Tryz.ntmps85
 go_wp2_with fail
 refine Calls.mono Hu.out ?_
 rintro e w1 ⟨rfl, rfl⟩
 go_wp2_with fail
 exact bodyPost_ret (v := .tuple #[.agg #[.slice none 0 0, .int .i64 0], .int .i64 10]) (by simp [results, Tryz.results85, go_sem]) rfl ⟨rfl, (by repeat (first | exact Below.refl _ _ | refine Below.setCell ?_ (Nat.le_refl _) _ | refine Below.setCell ?_ (by simp) _ | refine Below.alloc ?_ (Nat.le_refl _) _ | refine Below.alloc ?_ (by simp) _))⟩
theorem find_no (g : Nat) (Q : Nat → Prop) (d : DiskD) (w : World) (h : Dk w g Q d) (x : Int) (h1 : -9223372036854775808 ≤ x) (h2 : x ≤ 9223372036854775807) (hk : askK d x ≠ 0) :
  Calls Tryz.prog 85 #[.pointer (some ⟨g, 0, none⟩), .int .i64 x] w (fun e w' => e = .returned (.tuple #[.agg #[.slice none 0 0, .int .i64 0], .int .i64 (askK d x)]) ∧ Below w.heap.size w w') := by
 cases hd : d.down
 ·have hn : ¬ (0 ≤ x ∧ (d.F x.toNat).isSome = true) := by
   intro hc
   apply hk
   unfold askK
   rw [hd]
   simp [hc]
  have ek : askK d x = 11 := by
   unfold askK
   rw [hd]
   simp only [Bool.false_eq_true, if_false, if_neg hn]
  rw [ek]
  rcases h.mem with ⟨m1, m2⟩ | ⟨b, D, V, m1, m2⟩
  ·exact find_gone g none d w m1 hd x (fun W hb => look_none W x h1 h2 true)
  ·refine find_gone g (some b) d w m1 hd x (fun W hb => ?_)
   have h3 := (m2.stands (w' := W) (fun q hq _ => hb.block q (h.qlt q hq))).look x h1 h2 true
   rw [if_pos rfl, if_neg hn] at h3
   rw [h3]
   have : (decide (0 ≤ x) && (d.F x.toNat).isSome) = false := by
    by_cases h0 : 0 ≤ x
    ·cases hs : (d.F x.toNat).isSome
     ·simp
     ·exact absurd ⟨h0, hs⟩ hn
    ·simp [h0]
   rw [this]
   rfl
 ·have ek : askK d x = 10 := by
   unfold askK
   rw [hd]
   rfl
  rw [ek]
  rcases h.mem with ⟨m1, m2⟩ | ⟨b, D, V, m1, m2⟩
  ·exact find_down g none d w m1 hd x
  ·exact find_down g (some b) d w m1 hd x
theorem find_yes (g b : Nat) (Q : Nat → Prop) (d : DiskD) (D : DataW Value) (V : Nat → Option Addr × Nat) (w : World) (m1 : Whole w g 80 (cellsD (some b) d)) (m2 : FilesIn w g b Q d.F D V) (hq : ∀ q, Q q → q < w.heap.size) (hd : d.down = false) (j : Nat) (hj : j < 64) (f : FileD) (hf : d.F j = some f) :
  Calls Tryz.prog 85 #[.pointer (some ⟨g, 0, none⟩), .int .i64 (j : Nat)] w (fun e w' => e = .returned (.tuple #[.agg #[.slice (V j).1 f.all.length (V j).2, .int .i64 (f.fast : Nat)], .int .i64 0]) ∧ Below w.heap.size w w') := by
 refine find_hit g (some b) d w m1 hd _ _ _ _ _ (fun W hb => ?_)
 have h3 := (m2.stands (w' := W) (fun q hq2 _ => hb.block q (hq q hq2))).look (j : Nat) (by omega) (by omega) true
 rw [if_pos rfl, Int.toNat_natCast, if_pos ⟨by omega, by rw [hf]; rfl⟩, hf, fileAt_some hf] at h3
 rw [h3]
 simp [elemV]
end Dsk
end Go.Proofs.YthjhofmjhmnddaaGreat
/-
 The program's Read, Sync, Remove of a disk.
-/
namespace Go.Proofs.YthjhofmjhmnddaaGreat
open Go.RowKit
open Go.Maps (Keyed)
open Go.Proofs Go.Shelf
namespace Dsk
theorem clone_bytes (A : Option Addr) (n c : Nat) (l : List UInt8) (w : World) (h : Own 0 w A n c l) (hn : n ≤ 140737488355328) :
  Calls Tryz.prog 86 #[.slice A n c] w (fun e w' => ∃ A' c', e = .returned (.slice A' n c') ∧ Own w.heap.size w' A' n c' l ∧ Below w.heap.size w w') := by
 obtain ⟨i0, hi0, hz0, hz1, hz2⟩ := info_parts info_u8
 rcases A with _ | ⟨g, off, sp⟩
 ·refine Calls.mono (AnyE.slices_Clone_nil Sh.cloneBytes n c w) ?_
  rintro e w' ⟨rfl, rfl⟩
  obtain ⟨hx, ⟨e, rfl⟩ | ⟨g, cap, cur, e, _⟩⟩ := h
  ·obtain rfl : l = [] := List.eq_nil_of_length_eq_zero (by rw [← bytes_length, hx])
   exact ⟨none, 0, rfl, Own.none _ _, Below.refl _ _⟩
  ·cases e
 ·have hs := h.sl
  have e0 : off = 0 ∧ sp = none := by
   obtain ⟨hx, ⟨e, _⟩ | ⟨g, cap, cur, e, _⟩⟩ := h
   ·cases e
   ·cases e; exact ⟨rfl, rfl⟩
  obtain ⟨rfl, rfl⟩ := e0
  refine Calls.mono (AnyE.slices_Clone Sh.cloneBytes i0 _ 1 1 hi0 hz0 hz1 hz2 rfl (by omega) (fun w => by kernel_rfl) g 0 n c (bytes l) w (by rw [bytes_length, hs.len]; omega) (by unfold maxLen; omega) (by omega) (fun j u hu => ?_) (bytes_one l)) ?_
  ·obtain ⟨b, o, e, hc⟩ := hs.holds (by rintro hh; rw [hh] at hu; simp at hu)
   cases e
   exact hc j u hu
  ·rintro e w' ⟨v', rfl, ho, _, hb⟩
   obtain ⟨A', c', rfl, -⟩ := own_form ho
   exact ⟨A', c', rfl, ho, hb⟩
def RdKPost (w : World) (l : List UInt8) (k : Int) (e : Ending) (w' : World) : Prop := ∃ A c, e = .returned (.tuple #[.slice A l.length c, .int .i64 k]) ∧ Own w.heap.size w' A l.length c l ∧ Below w.heap.size w w'
theorem rdKPost_nil {w w' : World} {k k' : Int} (e : k = k') (hb : Below w.heap.size w w') : RdKPost w [] k' (.returned (.tuple #[.slice none 0 0, .int .i64 k])) w' := ⟨none, 0, by rw [e]; rfl, Own.none _ _, hb⟩
theorem rdKPost_mk {w w' : World} {l l' : List UInt8} {k k' : Int} {A : Option Addr} {c n : Nat} (e : k = k') (el : l = l') (en : n = l.length) (ho : Own w.heap.size w' A n c l) (hb : Below w.heap.size w w') : RdKPost w l' k' (.returned (.tuple #[.slice A n c, .int .i64 k])) w' := by
 subst e el en
 exact ⟨A, c, rfl, ho, hb⟩
theorem len_small {d : DiskD} (h : DOk d) {j : Nat} {f : FileD} (hj : j < 64) (hf : d.F j = some f) : f.all.length ≤ 1048576 := by
 have h1 := size_le_used d.F hj
 rw [size_some hf] at h1
 have := h.used
 have := h.room2
 omega
theorem files_some {d : DiskD} {j : Nat} {f : FileD} (hf : d.F j = some f) (e : d.F = noF) : False := by
 rw [e] at hf
 cases hf
theorem read_any (x : Int) (h1 : -9223372036854775808 ≤ x) (h2 : x ≤ 9223372036854775807) (g : Nat) (Q : Nat → Prop) (d : DiskD) (w : World) (h : Dk w g Q d) :
  Calls Tryz.prog 58 #[.pointer (some ⟨g, 0, none⟩), .int .i64 x] w (RdKPost w (readB d x) (askK d x)) := by
 rcases ask_cases d x h.ok with ⟨hk, hd, j, f, rfl, hj, hf⟩ | hk
 ·have HR := hid_ (show readB d (j : Nat) = f.all by unfold readB; rw [if_pos hk, Int.toNat_natCast, fileAt_some hf])
  have Hk := hid_ hk
  have hlen := len_small h.ok hj hf
  rcases h.mem with ⟨m1, m2⟩ | ⟨b, D, V, m1, m2⟩
  ·exact (files_some hf m2).elim
  have Hf := hid_ (find_yes g b Q d D V w m1 m2 h.qlt hd j hj f hf)
  have Ho := hid_ (fun (W : World) (hb : Below w.heap.size w W) => clone_bytes (V j).1 f.all.length (V j).2 f.all W ((m2.row j f hf).later hb) (by omega))
  clear h hk hd hf m1 m2
  generalize (V j).1 = A at *
  generalize (V j).2 = c at *
  generalize hfa : f.all = l at *
  clear hfa
  generalize hn : l.length = n at *
  have Hn := hid_ hn
  clear hn
  go_enter Tryz.func58, Tryz.ntmps58
  go_wp2_with fail
  refine Calls.mono Hf.out ?_
  rintro e w1 ⟨rfl, hb⟩
  have Hb := hid_ (hb.alloc hb.size (.cells #[.slice A n c, .int .i64 (f.fast : Nat)] 121))
  clear hb
  go_wp2_with fail
  refine Calls.mono (Ho.out _ Hb.out) ?_
  rintro e w2 ⟨A', c', rfl, ho, hb2⟩
  have Hb2 := hid_ (Hb.out.trans (hb2.mono Hb.out.size))
  have Ho2 := hid_ (Own.mono ho Hb.out.size)
  clear ho hb2
  go_wp2_with fail
  go_ret2
  exact rdKPost_mk Hk.out.symm HR.out.symm Hn.out.symm Ho2.out Hb2.out
 ·have HR := hid_ (show readB d x = [] by unfold readB; rw [if_neg hk])
  have Hf := hid_ (find_no g Q d w h x h1 h2 hk)
  have hk' : (askK d x == 0) = false := beq_eq_false_iff_ne.2 hk
  have hk2 : (askK d x != 0) = true := by simp [bne, hk']
  clear h hk
  generalize askK d x = k at *
  go_enter Tryz.func58, Tryz.ntmps58
  go_wp2_with fail
  refine Calls.mono Hf.out ?_
  rintro e w1 ⟨rfl, hb⟩
  have Hb := hid_ (hb.alloc hb.size (.cells #[.slice none 0 0, .int .i64 0] 121))
  clear hb
  go_wp2_with fail
  go_ret2
  rw [HR.out]
  exact rdKPost_nil rfl Hb.out
end Dsk
end Go.Proofs.YthjhofmjhmnddaaGreat
/-
 The program's Sync and Remove of a disk.
-/
namespace Go.Proofs.YthjhofmjhmnddaaGreat
open Go.RowKit
open Go.Maps (Keyed)
open Go.Proofs Go.Shelf
namespace Dsk
theorem dkPost_same {w w' : World} {g : Nat} {Q : Nat → Prop} {k k' : Int} {d d' : DiskD} (e : k = k') (h : Dk w g Q d) (ed : d' = d) (hb : Below w.heap.size w w') : DkPost w g Q (.int .i64 k') d' (.returned (.int .i64 k)) w' :=
 dkPost_mk (by rw [e]) (h.below hb) ed.symm (Tn.of_below hb) (fun _ hq => .inl hq)
set_option maxRecDepth 100000 in
theorem sync_any (x : Int) (h1 : -9223372036854775808 ≤ x) (h2 : x ≤ 9223372036854775807) (g : Nat) (Q : Nat → Prop) (d : DiskD) (w : World) (h : Dk w g Q d) :
  Calls Tryz.prog 64 #[.pointer (some ⟨g, 0, none⟩), .int .i64 x] w (DkPost w g Q (.int .i64 (askK d x)) (syncD d x)) := by
 rcases ask_cases d x h.ok with ⟨hk, hd, j, f, rfl, hj, hf⟩ | hk
 ·have HD := hid_ (show syncD d (j : Nat) = withF d (setF d.F j (some ⟨f.all, f.all.length⟩)) by unfold syncD; rw [if_pos hk, Int.toNat_natCast]; unfold syncF; rw [fileAt_some hf])
  have Hk := hid_ hk
  have HOk := hid_ (syncD_ok h.ok (j : Nat))
  rcases h.mem with ⟨m1, m2⟩ | ⟨b, D, V, m1, m2⟩
  ·exact (files_some hf m2).elim
  have Hf := hid_ (find_yes g b Q d D V w m1 m2 h.qlt hd j hj f hf)
  have hlen := len_small h.ok hj hf
  have hgl := m1.lt
  have Hown := hid_ (m2.owns h.ok.high)
  have Hend := hid_ (fun (w2 w' : World) (hb : Below w.heap.size w w2) (n' : Nat) (hm : w'.ownsMap Tryz.prog 3 elemR b n' (D.put (kx (j : Nat)) (.held (.agg #[.slice (V j).1 f.all.length (V j).2, .int .i64 (f.all.length : Nat)])))) (hg : w2.grownBy w' (some b)) =>
   show DkPost w g Q (.int .i64 (askK d (j : Nat))) (syncD d (j : Nat)) (.returned (.int .i64 0)) w' from by
    have hq : ∀ q, Q q → q ≠ b → w'.heap[q]? = w.heap[q]? := fun q hq hne => (hg.block q (Nat.lt_of_lt_of_le (h.qlt q hq) hb.size) (by intro e; injection e with e; exact hne e)).trans (hb.block q (h.qlt q hq))
    have hD := syncD_ok h.ok (j : Nat)
    rw [HD.out] at hD ⊢
    obtain ⟨Q', h1, h2⟩ := h.put m1 m2 j (V j).1 _ (V j).2 ⟨f.all, f.all.length⟩ rfl _ rfl (Nat.le_trans hb.size hg.size) ⟨_, hm⟩
     ((m2.row j f hf).stands (fun k e => by have h9 := m2.blk j k (by rw [hf]; rfl) e; exact hq k h9.1 h9.2.1)) (fun k e => .inl ⟨by rw [hf]; rfl, e⟩) (fun q hq1 hq2 _ => hq q hq1 hq2) hD
    exact dkPost_mk (by rw [hk]) h1 rfl ((Tn.of_below hb).grown hg (fun k e => by injection e with e; exact .inl (e ▸ m2.bq))) h2)
  obtain ⟨c0, c1, c2, c3, c4, -⟩ := dk_facts m1
  clear h hk hd hf m1 m2
  generalize (V j).1 = A at *
  generalize (V j).2 = c at *
  generalize f.all = l at *
  generalize f.fast = ff at *
  generalize hn : l.length = n at *
  clear hn
  go_enter Tryz.func64, Tryz.ntmps64
  go_wp2_with fail
  refine Calls.mono Hf.out ?_
  rintro e w1 ⟨rfl, hb⟩
  have hz := hb.size
  obtain ⟨wz, Hwz, z1, z2, z3, Hb⟩ : ∃ wz, wz = w1.alloc (.cells #[.slice A n c, .int .i64 (n : Nat)] 121) ∧ wz.cell? ⟨g, 1, none⟩ = some (.map (some b)) ∧ wz.cell? ⟨w1.heap.size, 0, none⟩ = some (.slice A n c) ∧ wz.cell? ⟨w1.heap.size, 1, none⟩ = some (.int .i64 (n : Nat)) ∧ Hid (Below w.heap.size w wz) := by
   refine ⟨_, rfl, ?_, ?_, ?_, hid_ (hb.alloc hb.size _)⟩
   ·rw [(hb.alloc hb.size _).cell (p := ⟨g, 1, none⟩) hgl]; exact c1
   ·exact (whole_new w1 _ _).cell 0 _ rfl
   ·exact (whole_new w1 _ _).cell 1 _ rfl
  have Hwz' := hid_ Hwz
  clear hb Hwz
  go_wp2_with fail
  rw [← Hwz'.out]
  clear Hwz'
  go_still_tail 6, (by kernel_rfl)
  have Hbd := hid_ Hb.out.drew
  have Hown2 := hid_ (World.ownsMap.kept Hown.out (grown_below Hbd.out (Nat.le_refl _) none) (by simp))
  go_wp2_with (first
   | (at_mapUpdate; refine wpList_mapUpdate_own _ rfl _ _ _ 78 rfl 3 121 keyLaw Tryz.underlying78 _ b 64 _ rfl Hown2.out (by unfold maxLen; omega) _ _ _ rfl rfl (kx_key h1 h2) (.held (.agg #[.slice A n c, .int .i64 (n : Nat)])) [] rfl ?_; intro w2 hm hg)
   | fail)
  go_ret
  exact Hend.out _ _ Hbd.out 65 hm hg
 ·have HD := hid_ (show syncD d x = d by unfold syncD; rw [if_neg hk])
  have Hf := hid_ (find_no g Q d w h x h1 h2 hk)
  have hk' : (askK d x == 0) = false := beq_eq_false_iff_ne.2 hk
  have hk2 : (askK d x != 0) = true := by simp [bne, hk']
  have H := hid_ h
  clear h hk
  generalize syncD d x = d' at *
  generalize askK d x = k at *
  go_enter Tryz.func64, Tryz.ntmps64
  go_wp2_with fail
  refine Calls.mono Hf.out ?_
  rintro e w1 ⟨rfl, hb⟩
  have Hb := hid_ (hb.alloc hb.size (.cells #[.slice none 0 0, .int .i64 0] 121))
  clear hb
  go_wp2_with fail
  go_ret
  exact dkPost_same rfl H.out HD.out Hb.out
set_option maxRecDepth 100000 in
theorem remove_any (x : Int) (h1 : -9223372036854775808 ≤ x) (h2 : x ≤ 9223372036854775807) (g : Nat) (Q : Nat → Prop) (d : DiskD) (w : World) (h : Dk w g Q d) :
  Calls Tryz.prog 77 #[.pointer (some ⟨g, 0, none⟩), .int .i64 x] w (DkPost w g Q (.int .i64 (askK d x)) (removeD d x)) := by
 rcases ask_cases d x h.ok with ⟨hk, hd, j, f, rfl, hj, hf⟩ | hk
 ·have HD := hid_ (show removeD d (j : Nat) = withF d (setF d.F j none) by unfold removeD; rw [if_pos hk, Int.toNat_natCast])
  rcases h.mem with ⟨m1, m2⟩ | ⟨b, D, V, m1, m2⟩
  ·exact (files_some hf m2).elim
  have Hf := hid_ (find_yes g b Q d D V w m1 m2 h.qlt hd j hj f hf)
  have hgl := m1.lt
  have Hown := hid_ (m2.owns h.ok.high)
  have Hend := hid_ (fun (w2 w' : World) (hb : Below w.heap.size w w2) (n' : Nat) (hm : w'.ownsMap Tryz.prog 3 elemR b n' (D.del (kx (j : Nat)))) (hg : w2.grownBy w' (some b)) =>
   show DkPost w g Q (.int .i64 (askK d (j : Nat))) (removeD d (j : Nat)) (.returned (.int .i64 0)) w' from by
    have hq : ∀ q, Q q → q ≠ b → w'.heap[q]? = w.heap[q]? := fun q hq hne => (hg.block q (Nat.lt_of_lt_of_le (h.qlt q hq) hb.size) (by intro e; injection e with e; exact hne e)).trans (hb.block q (h.qlt q hq))
    have hD := removeD_ok h.ok (j : Nat)
    rw [HD.out] at hD ⊢
    exact dkPost_mk (by rw [hk]) (Q' := Q) ⟨hD, h.qg, fun q hq2 => Nat.lt_of_lt_of_le (h.qlt q hq2) (Nat.le_trans hb.size hg.size), .inr ⟨b, _, _, (hq g h.qg (fun e => m2.bg e.symm)).trans m1, m2.del j ⟨_, hm⟩ (fun q hq1 _ hq3 => hq q hq1 hq3)⟩⟩ rfl
     ((Tn.of_below hb).grown hg (fun k e => by injection e with e; exact .inl (e ▸ m2.bq))) (fun q hq2 => .inl hq2))
  obtain ⟨c0, c1, c2, c3, c4, -⟩ := dk_facts m1
  clear h hk hd hf m1 m2
  generalize (V j).1 = A at *
  generalize (V j).2 = c at *
  generalize f.all.length = n at *
  generalize f.fast = ff at *
  go_enter Tryz.func77, Tryz.ntmps77
  go_wp2_with fail
  refine Calls.mono Hf.out ?_
  rintro e w1 ⟨rfl, hb⟩
  have hz := hb.size
  have hc : ∀ b o, b < w.heap.size → w1.cell? ⟨b, o, none⟩ = w.cell? ⟨b, o, none⟩ := fun b o h => hb.cell (p := ⟨b, o, none⟩) h
  have hgl1 : g < w1.heap.size := by omega
  have Hb := hid_ (hb.alloc hb.size (.cells #[.slice A n c, .int .i64 (ff : Nat)] 121))
  have Hown2 := hid_ (World.ownsMap.kept Hown.out (grown_below Hb.out (Nat.le_refl _) none) (by simp))
  clear hb
  go_wp2_with (first
   | (at_delete; refine wpList_delete_own _ rfl _ _ 78 3 rfl 121 keyLaw Tryz.underlying78 _ b 64 _ rfl Hown2.out _ _ rfl (kx_key h1 h2) ?_; intro w2 hm hg)
   | fail)
  go_ret
  exact Hend.out _ _ Hb.out 64 hm hg.grown
 ·have HD := hid_ (show removeD d x = d by unfold removeD; rw [if_neg hk])
  have Hf := hid_ (find_no g Q d w h x h1 h2 hk)
  have hk' : (askK d x == 0) = false := beq_eq_false_iff_ne.2 hk
  have hk2 : (askK d x != 0) = true := by simp [bne, hk']
  have H := hid_ h
  clear h hk
  generalize removeD d x = d' at *
  generalize askK d x = k at *
  go_enter Tryz.func77, Tryz.ntmps77
  go_wp2_with fail
  refine Calls.mono Hf.out ?_
  rintro e w1 ⟨rfl, hb⟩
  have Hb := hid_ (hb.alloc hb.size (.cells #[.slice none 0 0, .int .i64 0] 121))
  clear hb
  go_wp2_with fail
  go_ret
  exact dkPost_same rfl H.out HD.out Hb.out
end Dsk
end Go.Proofs.YthjhofmjhmnddaaGreat
