/-
  Contracts of the library's functions at this program: what the shelf's own theorems ask of it; laid by the guide's program.
-/
import Derived.Test.YtbinmaamebdneaaZGWA
import Derived.Test.YtbinmaamebdneaaZGWB
import Derived.Shelf.SlIterI.Nil
import Derived.Shelf.SortM.Plain
import Derived.Shelf.SortM.SortNone
import Derived.Shelf.SlicesE.Clone
import Derived.Test.YtbinmaamebdneaaProg
import Derived.StillTailTactics
import Derived.Deep.RegionHeld3
import Derived.Deep.RegionLaw
namespace Go.Proofs.Ytbinmaamebdneaa
set_option linter.unusedSimpArgs false
set_option linter.unusedVariables false
open Go.Shelf Go.Proofs
def Sh.cloneBytes_ren : Go.Shelf.Ren := ⟨fun | 41 => 59 | n => n, fun | 22 => 33 | 23 => 5 | 4 => 4 | n => n, fun | n => n⟩
theorem Sh.cloneBytes : Go.Proofs.SlLaysE0.n41 Try.prog Sh.cloneBytes_ren := {
  mixed := by kernel_rfl
  f41 := ⟨Try.f59.name, by decide, Try.func59.trans (congrArg some (by kernel_rfl))⟩
  t4 := Try.underlying4
  a4 := Try.isAgg4
  z4 := Try.sizeOf4
  v4 := Try.zeroValue4
  t22 := Try.underlying33
  a22 := Try.isAgg33
  z22 := Try.sizeOf33
  v22 := Try.zeroValue33 }
def Sh.keysI_ren : Go.Shelf.Ren := ⟨fun | 7 => 37 | 10 => 56 | n => n, fun | 23 => 46 | 26 => 3 | 3 => 61 | 28 => 76 | 0 => 0 | 27 => 75 | 33 => 91 | 4 => 4 | n => n, fun | n => n⟩
theorem Sh.keysI : Go.Proofs.SlLaysZI.n7 Try.prog Sh.keysI_ren := {
  mixed := by kernel_rfl
  f7 := ⟨Try.f37.name, by decide, Try.func37.trans (congrArg some (by kernel_rfl))⟩
  f10 := ⟨Try.f56.name, by decide, Try.func56.trans (congrArg some (by kernel_rfl))⟩
  t0 := Try.underlying0
  a0 := Try.isAgg0
  z0 := Try.sizeOf0
  v0 := Try.zeroValue0
  t4 := Try.underlying4
  a4 := Try.isAgg4
  z4 := Try.sizeOf4
  v4 := Try.zeroValue4
  t23 := Try.underlying46
  a23 := Try.isAgg46
  z23 := Try.sizeOf46
  v23 := Try.zeroValue46
  t26 := Try.underlying3
  a26 := Try.isAgg3
  z26 := Try.sizeOf3
  v26 := Try.zeroValue3
  t27 := Try.underlying75
  a27 := Try.isAgg75
  z27 := Try.sizeOf75
  v27 := Try.zeroValue75
  t28 := Try.underlying76
  a28 := Try.isAgg76
  z28 := Try.sizeOf76
  v28 := Try.zeroValue76
  t33 := Try.underlying91
  a33 := Try.isAgg91
  z33 := Try.sizeOf91
  v33 := Try.zeroValue91 }
def Sh.sortedI_ren : Go.Shelf.Ren := ⟨fun | 6 => 36 | 8 => 54 | 9 => 55 | 11 => 61 | 13 => 63 | 12 => 62 | 23 => 75 | 24 => 76 | 14 => 66 | 15 => 67 | 16 => 68 | 17 => 69 | 18 => 70 | 19 => 71 | 20 => 72 | 21 => 73 | 22 => 74 | 25 => 78 | 26 => 79 | 27 => 80 | 28 => 81 | 29 => 82 | 30 => 83 | 31 => 84 | n => n, fun | 26 => 3 | 28 => 76 | 24 => 34 | 0 => 0 | 3 => 3 | 37 => 88 | 48 => 86 | 50 => 54 | 4 => 4 | 40 => 106 | 39 => 105 | 45 => 111 | 5 => 5 | 9 => 9 | 51 => 115 | 55 => 118 | 57 => 120 | 58 => 121 | 33 => 91 | n => n, fun | n => n⟩
theorem Sh.sortedI : Go.Proofs.SlLaysZI.n6 Try.prog Sh.sortedI_ren := {
  mixed := by kernel_rfl
  f6 := ⟨Try.f36.name, by decide, Try.func36.trans (congrArg some (by kernel_rfl))⟩
  f8 := ⟨Try.f54.name, by decide, Try.func54.trans (congrArg some (by kernel_rfl))⟩
  f11 := ⟨Try.f61.name, by decide, Try.func61.trans (congrArg some (by kernel_rfl))⟩
  t0 := Try.underlying0
  a0 := Try.isAgg0
  z0 := Try.sizeOf0
  v0 := Try.zeroValue0
  t24 := Try.underlying34
  a24 := Try.isAgg34
  z24 := Try.sizeOf34
  v24 := Try.zeroValue34
  t26 := Try.underlying3
  a26 := Try.isAgg3
  z26 := Try.sizeOf3
  v26 := Try.zeroValue3
  t28 := Try.underlying76
  a28 := Try.isAgg76
  z28 := Try.sizeOf76
  v28 := Try.zeroValue76
  i26 := by kernel_rfl }
def Sh.sortI_ren : Go.Shelf.Ren := ⟨fun | 5 => 55 | 8 => 63 | 7 => 62 | 19 => 75 | 20 => 76 | 10 => 66 | 11 => 67 | 12 => 68 | 13 => 69 | 14 => 70 | 15 => 71 | 16 => 72 | 17 => 73 | 18 => 74 | 30 => 78 | 31 => 79 | 32 => 80 | 33 => 81 | 34 => 82 | 35 => 83 | 40 => 84 | n => n, fun | 23 => 34 | 25 => 3 | 3 => 3 | 32 => 88 | 22 => 34 | 0 => 0 | 44 => 86 | 46 => 54 | 4 => 4 | 36 => 106 | 35 => 105 | 41 => 111 | 5 => 5 | 9 => 9 | 53 => 115 | 57 => 118 | 63 => 120 | 64 => 121 | n => n, fun | n => n⟩
theorem Sh.sortI : Go.Proofs.SlLaysM.n5 Try.prog Sh.sortI_ren := {
  mixed := by kernel_rfl
  f5 := ⟨Try.f55.name, by decide, Try.func55.trans (congrArg some (by kernel_rfl))⟩
  f7 := ⟨Try.f62.name, by decide, Try.func62.trans (congrArg some (by kernel_rfl))⟩
  f8 := Try.func63.trans (congrArg some (by kernel_rfl))
  f10 := ⟨Try.f66.name, by decide, Try.func66.trans (congrArg some (by kernel_rfl))⟩
  f11 := ⟨Try.f67.name, by decide, Try.func67.trans (congrArg some (by kernel_rfl))⟩
  f12 := ⟨Try.f68.name, by decide, Try.func68.trans (congrArg some (by kernel_rfl))⟩
  f13 := ⟨Try.f69.name, by decide, Try.func69.trans (congrArg some (by kernel_rfl))⟩
  f14 := ⟨Try.f70.name, by decide, Try.func70.trans (congrArg some (by kernel_rfl))⟩
  f15 := ⟨Try.f71.name, by decide, Try.func71.trans (congrArg some (by kernel_rfl))⟩
  f16 := ⟨Try.f72.name, by decide, Try.func72.trans (congrArg some (by kernel_rfl))⟩
  f17 := ⟨Try.f73.name, by decide, Try.func73.trans (congrArg some (by kernel_rfl))⟩
  f18 := ⟨Try.f74.name, by decide, Try.func74.trans (congrArg some (by kernel_rfl))⟩
  f19 := Try.func75.trans (congrArg some (by kernel_rfl))
  f20 := Try.func76.trans (congrArg some (by kernel_rfl))
  f30 := ⟨Try.f78.name, by decide, Try.func78.trans (congrArg some (by kernel_rfl))⟩
  f31 := Try.func79.trans (congrArg some (by kernel_rfl))
  f32 := Try.func80.trans (congrArg some (by kernel_rfl))
  f33 := ⟨Try.f81.name, by decide, Try.func81.trans (congrArg some (by kernel_rfl))⟩
  f34 := ⟨Try.f82.name, by decide, Try.func82.trans (congrArg some (by kernel_rfl))⟩
  f35 := ⟨Try.f83.name, by decide, Try.func83.trans (congrArg some (by kernel_rfl))⟩
  f40 := ⟨Try.f84.name, by decide, Try.func84.trans (congrArg some (by kernel_rfl))⟩
  t0 := Try.underlying0
  a0 := Try.isAgg0
  z0 := Try.sizeOf0
  v0 := Try.zeroValue0
  t3 := Try.underlying3
  a3 := Try.isAgg3
  z3 := Try.sizeOf3
  v3 := Try.zeroValue3
  t4 := Try.underlying4
  a4 := Try.isAgg4
  z4 := Try.sizeOf4
  v4 := Try.zeroValue4
  t5 := Try.underlying5
  a5 := Try.isAgg5
  z5 := Try.sizeOf5
  v5 := Try.zeroValue5
  t9 := Try.underlying9
  a9 := Try.isAgg9
  z9 := Try.sizeOf9
  v9 := Try.zeroValue9
  t22 := Try.underlying34
  a22 := Try.isAgg34
  z22 := Try.sizeOf34
  v22 := Try.zeroValue34
  t23 := Try.underlying34
  a23 := Try.isAgg34
  z23 := Try.sizeOf34
  v23 := Try.zeroValue34
  t25 := Try.underlying3
  a25 := Try.isAgg3
  z25 := Try.sizeOf3
  v25 := Try.zeroValue3
  t32 := Try.underlying88
  a32 := Try.isAgg88
  z32 := Try.sizeOf88
  v32 := Try.zeroValue88
  t35 := Try.underlying105
  a35 := Try.isAgg105
  z35 := Try.sizeOf105
  v35 := Try.zeroValue105
  t36 := Try.underlying106
  a36 := Try.isAgg106
  z36 := Try.sizeOf106
  v36 := Try.zeroValue106
  t41 := Try.underlying111
  a41 := Try.isAgg111
  z41 := Try.sizeOf111
  v41 := Try.zeroValue111
  t44 := Try.underlying86
  a44 := Try.isAgg86
  z44 := Try.sizeOf86
  v44 := Try.zeroValue86
  t46 := Try.underlying54
  a46 := Try.isAgg54
  z46 := Try.sizeOf54
  v46 := Try.zeroValue54
  t53 := Try.underlying115
  a53 := Try.isAgg115
  z53 := Try.sizeOf115
  v53 := Try.zeroValue115
  t57 := Try.underlying118
  a57 := Try.isAgg118
  z57 := Try.sizeOf118
  v57 := Try.zeroValue118
  t63 := Try.underlying120
  a63 := Try.isAgg120
  z63 := Try.sizeOf120
  v63 := Try.zeroValue120
  t64 := Try.underlying121
  a64 := Try.isAgg121
  z64 := Try.sizeOf121
  v64 := Try.zeroValue121 }
end Go.Proofs.Ytbinmaamebdneaa

/-
  The program's Files of a disk: the map's keys, sorted.
-/
namespace Go.Proofs.Ytbinmaamebdneaa
set_option linter.unusedSimpArgs false
set_option linter.unusedVariables false
open Go.RowKit
open Go.Maps (Keyed)
open Go.Proofs Go.Shelf
namespace Dsk
set_option linter.unusedSimpArgs false
set_option linter.unusedVariables false
theorem sortsI (m : Nat) : AnyZI.SortsIn Try.prog Sh.sortedI_ren Fence.wide m :=
  ⟨fun blk off cap ss W hH hblk hsz => callsIn_wide.2 (AnyM.slices_Sort_int Sh.sortI blk off cap ss W hH hblk hsz),
   fun p cap W => callsIn_wide.2 (AnyM.slices_Sort_int_none Sh.sortI p cap W)⟩
theorem keys_call (mb : Option Nat) (W : World) : Calls Try.prog 37 #[.map mb] W (fun e w' => e = .returned (.func (.func 56) #[] #[.pointer (some ⟨W.heap.size, 0, none⟩)]) ∧ w' = W.alloc (.cells #[.map mb] 46)) :=
  (callsIn_wide (n := 5)).1 (AnyZI.keys_in Sh.keysI Fence.wide 5 trivial rfl mb W)
theorem sorted_some (b nn : Nat) (D0 : DataW Value) (w : World) (hown : w.ownsMap Try.prog 3 elemR b nn D0) (hmax : Maps.size D0 ≤ maxLen) (hbytes : Maps.size D0 * 8 ≤ 140737488355328) :
    Calls Try.prog 36 #[.func (.func 56) #[] #[.pointer (some ⟨w.heap.size, 0, none⟩)]] (w.alloc (.cells #[.map (some b)] 46)) (fun e w' => ∃ (v : Value) (ss : List Int), e = .returned v ∧ ss.Perm (intKeys D0) ∧
      w'.ownsRow (w.alloc (.cells #[.map (some b)] 46)).heap.size 3 1 v ss.length ((ss.mergeSort (fun x y => decide (x ≤ y))).map encZ) ∧ (v = .slice none 0 0 ↔ ss = []) ∧ Below (w.alloc (.cells #[.map (some b)] 46)).heap.size (w.alloc (.cells #[.map (some b)] 46)) w') := by
  have hbl := hown.lt
  have hseq : SeqGives Fence.wide 2 Try.prog 56 #[.pointer (some ⟨w.heap.size, 0, none⟩)] encZ (fun ss => ss.Perm (intKeys D0)) (Maps.size D0) (w.alloc (.cells #[.map (some b)] 46)) :=
    AnyZI.keys_gives (ρ := Sh.keysI_ren) { Sh.keysI with } Fence.wide _ trivial rfl (by omega) w.heap.size b nn D0 _ (by simp) (by simp) (by
      obtain ⟨es, clock, hb, Ft, hs, hD⟩ := hown
      exact ⟨es, clock, (Below.heap_alloc _ _ b hbl).trans hb, Ft, hs, hD⟩)
  exact (callsIn_wide (n := 5)).1 (AnyZI.sorted_in Sh.sortedI Fence.wide 5 trivial trivial trivial trivial rfl (by omega) (sortsI _) (enters_of Try.func55 (by kernel_rfl) rfl) 56 #[.pointer (some ⟨w.heap.size, 0, none⟩)] trivial (enters_of Try.func56 (by kernel_rfl) rfl) _ _ hmax hbytes _ hseq)
theorem sorted_none (w : World) :
    Calls Try.prog 36 #[.func (.func 56) #[] #[.pointer (some ⟨w.heap.size, 0, none⟩)]] (w.alloc (.cells #[.map none] 46)) (fun e w' => e = .returned (.slice none 0 0) ∧ Below (w.alloc (.cells #[.map none] 46)).heap.size (w.alloc (.cells #[.map none] 46)) w') := by
  have hseq : SeqGives Fence.wide 2 Try.prog 56 #[.pointer (some ⟨w.heap.size, 0, none⟩)] encZ (fun ss : List Int => ss = []) 0 (w.alloc (.cells #[.map none] 46)) :=
    AnyZI.keys_gives_nil (ρ := Sh.keysI_ren) { Sh.keysI with } Fence.wide _ trivial rfl w.heap.size _ (by simp) (by simp)
  refine Calls.mono ((callsIn_wide (n := 5)).1 (AnyZI.sorted_in Sh.sortedI Fence.wide 5 trivial trivial trivial trivial rfl (by omega) (sortsI _) (enters_of Try.func55 (by kernel_rfl) rfl) 56 #[.pointer (some ⟨w.heap.size, 0, none⟩)] trivial (enters_of Try.func56 (by kernel_rfl) rfl) _ 0 (Nat.zero_le _) (by omega) _ hseq)) ?_
  rintro e w' ⟨v, ss, rfl, rfl, _, hnil, hb⟩
  exact ⟨by rw [hnil.2 rfl], hb⟩
theorem files_nil (w : World) : Calls Try.prog 24 #[.pointer none] w (fun e w' => e = .returned (.slice none 0 0) ∧ w = w') := by
  go_enter Try.func24, Try.ntmps24
  go_wp2
  go_ret
  exact ⟨rfl, rfl⟩
def numVals (l : List Nat) : List Value := l.map (fun j : Nat => .int .i64 (j : Nat))
/-- What Files answers. -/
def FilesPost (F : Files) (w : World) (e : Ending) (w' : World) : Prop := ∃ A c, e = .returned (.slice A (filesF F).length c) ∧ OwnV 3 w.heap.size w' A (filesF F).length c (numVals (filesF F)) ∧ Below w.heap.size w w'
theorem filesPost_none {w w' : World} {F : Files} (h : F = noF) (hb : Below w.heap.size w w') : FilesPost F w (.returned (.slice none 0 0)) w' := by
  subst h
  exact ⟨none, 0, rfl, OwnV.none _ _ _, hb⟩
theorem filesPost_some {w w1 w' : World} {g b : Nat} {Q : Nat → Prop} {F : Files} {D : DataW Value} {V : Nat → Option Addr × Nat} (h : FilesIn w g b Q F D V) (hh : ∀ j, 64 ≤ j → F j = none) {v : Value} {ss : List Int} (hs : ss.Perm (intKeys D))
    (ho : w'.ownsRow w1.heap.size 3 1 v ss.length ((ss.mergeSort (fun x y => decide (x ≤ y))).map encZ)) (h1 : w.heap.size ≤ w1.heap.size) (hb : Below w.heap.size w w') : FilesPost F w (.returned v) w' := by
  have e1 : ss.length = (filesF F).length := by rw [hs.length_eq, ← (h.keys hh).length_eq, List.length_map]
  rw [h.keys_sorted hh hs, List.map_map, e1] at ho
  obtain ⟨hx, hr⟩ := ho
  obtain ⟨A, c, rfl, -⟩ := own_form (show w'.ownsRow w1.heap.size 3 1 v _ _ from ⟨hx, hr⟩)
  refine ⟨A, c, rfl, ⟨hx, ?_⟩, hb⟩
  rcases hr with hr | ⟨g', cap, cur, e, hg, r⟩
  · exact .inl hr
  · exact .inr ⟨g', cap, cur, e, by omega, r⟩
theorem files_any (g : Nat) (Q : Nat → Prop) (d : DiskD) (w : World) (h : Dk w g Q d) : Calls Try.prog 24 #[.pointer (some ⟨g, 0, none⟩)] w (FilesPost d.F w) := by
  rcases h.mem with ⟨h1, h2⟩ | ⟨b, D, V, h1, h2⟩
  · obtain ⟨c0, c1, c2, c3, c4, -⟩ := dk_facts h1
    have H2 := hid_ h2
    clear h h1 h2
    go_enter Try.func24, Try.ntmps24
    go_wp2_with fail
    refine Calls.mono (keys_call none w) ?_
    rintro e w1 ⟨rfl, rfl⟩
    go_wp2_with fail
    refine Calls.mono (sorted_none w) ?_
    rintro e w2 ⟨rfl, hb2⟩
    have Hb := hid_ (((Below.refl w.heap.size w).alloc (Nat.le_refl _) (.cells #[.map none] 46)).trans (hb2.mono (by simp)))
    clear hb2
    go_wp2
    go_ret
    exact filesPost_none H2.out Hb.out
  · obtain ⟨c0, c1, c2, c3, c4, -⟩ := dk_facts h1
    have H2 := hid_ h2
    have Hh := hid_ h.ok.high
    have Hs := hid_ (sorted_some b 64 D w (h2.owns h.ok.high) (by have := h2.size h.ok.high; unfold maxLen; omega) (by have := h2.size h.ok.high; omega))
    clear h h1 h2
    go_enter Try.func24, Try.ntmps24
    go_wp2_with fail
    refine Calls.mono (keys_call (some b) w) ?_
    rintro e w1 ⟨rfl, rfl⟩
    go_wp2_with fail
    refine Calls.mono Hs.out ?_
    rintro e w2 ⟨v, ss, rfl, hp, ho, -, hb2⟩
    have Hp := hid_ hp
    have Ho := hid_ ho
    have Hb := hid_ (((Below.refl w.heap.size w).alloc (Nat.le_refl _) (.cells #[.map (some b)] 46)).trans (hb2.mono (by simp)))
    clear hp ho hb2 Hs
    go_wp2
    go_ret
    exact filesPost_some H2.out Hh.out Hp.out Ho.out (by simp) Hb.out
end Dsk
end Go.Proofs.Ytbinmaamebdneaa

/-
  The program's find of a file; Read, Sync, Remove, and a file's first bytes.
-/
namespace Go.Proofs.Ytbinmaamebdneaa
set_option linter.unusedSimpArgs false
set_option linter.unusedVariables false
open Go.RowKit
open Go.Maps (Keyed)
open Go.Proofs Go.Shelf
namespace Dsk
set_option linter.unusedSimpArgs false
set_option linter.unusedVariables false
theorem up_whole (g : Nat) (m : Option Nat) (d : DiskD) (w : World) (hw : Whole w g 48 (cellsD m d)) : Calls Try.prog 50 #[.pointer (some ⟨g, 0, none⟩)] w (fun e w' => e = .returned (.int .i64 (if d.down then 10 else 0)) ∧ w = w') := by
  obtain ⟨c0, c1, c2, c3, c4, -⟩ := dk_facts hw
  clear hw
  rcases d with ⟨room, F, armed, left, _ | _⟩
  · go_enter Try.func50, Try.ntmps50
    go_wp2
    go_ret
    exact ⟨rfl, rfl⟩
  · go_enter Try.func50, Try.ntmps50
    go_wp2
    go_ret
    exact ⟨rfl, rfl⟩
theorem find_nil (x : Int) (w : World) : Calls Try.prog 38 #[.pointer none, .int .i64 x] w (fun e w' => e = .returned (.tuple #[.agg #[.slice none 0 0, .int .i64 0], .int .i64 13]) ∧ Below w.heap.size w w') := by
  go_enter Try.func38, Try.ntmps38
  go_wp2_with fail
  refine Calls.mono (up_nil _) ?_
  rintro e w1 ⟨rfl, rfl⟩
  go_wp2_with fail
  exact bodyPost_ret (v := .tuple #[.agg #[.slice none 0 0, .int .i64 0], .int .i64 13]) (by simp [results, Try.results38, go_sem]) rfl ⟨rfl, (Below.refl _ _).alloc (Nat.le_refl _) _⟩
set_option maxRecDepth 100000 in
theorem find_hit (g : Nat) (m : Option Nat) (d : DiskD) (w : World) (hw : Whole w g 48 (cellsD m d)) (hd : d.down = false) (x : Int) (A : Option Addr) (n cc : Nat) (f : Int)
    (hl : ∀ W, Below w.heap.size w W → (Instr.lookup 46 (.map m) (.int .i64 x) true).run Try.prog W = .ok (.tuple #[.agg #[.slice A n cc, .int .i64 f], .bool true]) W) :
    Calls Try.prog 38 #[.pointer (some ⟨g, 0, none⟩), .int .i64 x] w (fun e w' => e = .returned (.tuple #[.agg #[.slice A n cc, .int .i64 f], .int .i64 0]) ∧ Below w.heap.size w w') := by
  have hgl := hw.lt
  have Hu := hid_ (up_whole g m d _ (hw.alloc (.cells #[.slice none 0 0, .int .i64 0] 61)))
  obtain ⟨c0, c1, c2, c3, c4, -⟩ := dk_facts hw
  have hl' := hl (w.alloc (.cells #[.slice none 0 0, .int .i64 0] 61)) ((Below.refl _ _).alloc (Nat.le_refl _) _)
  rw [hd] at Hu c4
  clear hl hw hd
  go_enter Try.func38, Try.ntmps38
  go_wp2_with fail
  refine Calls.mono Hu.out ?_
  rintro e w1 ⟨rfl, rfl⟩
  go_wp2_with fail
  exact bodyPost_ret (v := .tuple #[.agg #[.slice A n cc, .int .i64 f], .int .i64 0]) (by simp [results, Try.results38, go_sem]) rfl ⟨rfl, (by repeat (first | exact Below.refl _ _ | refine Below.setCell ?_ (Nat.le_refl _) _ | refine Below.setCell ?_ (by simp) _ | refine Below.alloc ?_ (Nat.le_refl _) _ | refine Below.alloc ?_ (by simp) _))⟩
set_option maxRecDepth 100000 in
theorem find_gone (g : Nat) (m : Option Nat) (d : DiskD) (w : World) (hw : Whole w g 48 (cellsD m d)) (hd : d.down = false) (x : Int)
    (hl : ∀ W, Below w.heap.size w W → (Instr.lookup 46 (.map m) (.int .i64 x) true).run Try.prog W = .ok (.tuple #[.agg #[.slice none 0 0, .int .i64 0], .bool false]) W) :
    Calls Try.prog 38 #[.pointer (some ⟨g, 0, none⟩), .int .i64 x] w (fun e w' => e = .returned (.tuple #[.agg #[.slice none 0 0, .int .i64 0], .int .i64 11]) ∧ Below w.heap.size w w') := by
  have hgl := hw.lt
  have Hu := hid_ (up_whole g m d _ (hw.alloc (.cells #[.slice none 0 0, .int .i64 0] 61)))
  obtain ⟨c0, c1, c2, c3, c4, -⟩ := dk_facts hw
  have hl' := hl (w.alloc (.cells #[.slice none 0 0, .int .i64 0] 61)) ((Below.refl _ _).alloc (Nat.le_refl _) _)
  rw [hd] at Hu c4
  clear hl hw hd
  go_enter Try.func38, Try.ntmps38
  go_wp2_with fail
  refine Calls.mono Hu.out ?_
  rintro e w1 ⟨rfl, rfl⟩
  go_wp2_with fail
  exact bodyPost_ret (v := .tuple #[.agg #[.slice none 0 0, .int .i64 0], .int .i64 11]) (by simp [results, Try.results38, go_sem]) rfl ⟨rfl, (by repeat (first | exact Below.refl _ _ | refine Below.setCell ?_ (Nat.le_refl _) _ | refine Below.setCell ?_ (by simp) _ | refine Below.alloc ?_ (Nat.le_refl _) _ | refine Below.alloc ?_ (by simp) _))⟩
set_option maxRecDepth 100000 in
theorem find_down (g : Nat) (m : Option Nat) (d : DiskD) (w : World) (hw : Whole w g 48 (cellsD m d)) (hd : d.down = true) (x : Int) :
    Calls Try.prog 38 #[.pointer (some ⟨g, 0, none⟩), .int .i64 x] w (fun e w' => e = .returned (.tuple #[.agg #[.slice none 0 0, .int .i64 0], .int .i64 10]) ∧ Below w.heap.size w w') := by
  have hgl := hw.lt
  have Hu := hid_ (up_whole g m d _ (hw.alloc (.cells #[.slice none 0 0, .int .i64 0] 61)))
  rw [hd] at Hu
  clear hw hd
  go_enter Try.func38, Try.ntmps38
  go_wp2_with fail
  refine Calls.mono Hu.out ?_
  rintro e w1 ⟨rfl, rfl⟩
  go_wp2_with fail
  exact bodyPost_ret (v := .tuple #[.agg #[.slice none 0 0, .int .i64 0], .int .i64 10]) (by simp [results, Try.results38, go_sem]) rfl ⟨rfl, (by repeat (first | exact Below.refl _ _ | refine Below.setCell ?_ (Nat.le_refl _) _ | refine Below.setCell ?_ (by simp) _ | refine Below.alloc ?_ (Nat.le_refl _) _ | refine Below.alloc ?_ (by simp) _))⟩
/-- Of a disk that is down, or a file that is not there. -/
theorem find_no (g : Nat) (Q : Nat → Prop) (d : DiskD) (w : World) (h : Dk w g Q d) (x : Int) (h1 : -9223372036854775808 ≤ x) (h2 : x ≤ 9223372036854775807) (hk : askK d x ≠ 0) :
    Calls Try.prog 38 #[.pointer (some ⟨g, 0, none⟩), .int .i64 x] w (fun e w' => e = .returned (.tuple #[.agg #[.slice none 0 0, .int .i64 0], .int .i64 (askK d x)]) ∧ Below w.heap.size w w') := by
  cases hd : d.down
  · have hn : ¬ (0 ≤ x ∧ (d.F x.toNat).isSome = true) := by
      intro hc
      apply hk
      unfold askK
      rw [hd]
      simp [hc]
    have ek : askK d x = 11 := by
      unfold askK
      rw [hd]
      simp only [Bool.false_eq_true, if_false, if_neg hn]
    rw [ek]
    rcases h.mem with ⟨m1, m2⟩ | ⟨b, D, V, m1, m2⟩
    · exact find_gone g none d w m1 hd x (fun W hb => look_none W x h1 h2 true)
    · refine find_gone g (some b) d w m1 hd x (fun W hb => ?_)
      have h3 := (m2.stands (w' := W) (fun q hq _ => hb.block q (h.qlt q hq))).look x h1 h2 true
      rw [if_pos rfl, if_neg hn] at h3
      rw [h3]
      have : (decide (0 ≤ x) && (d.F x.toNat).isSome) = false := by
        by_cases h0 : 0 ≤ x
        · cases hs : (d.F x.toNat).isSome
          · simp
          · exact absurd ⟨h0, hs⟩ hn
        · simp [h0]
      rw [this]
      rfl
  · have ek : askK d x = 10 := by
      unfold askK
      rw [hd]
      rfl
    rw [ek]
    rcases h.mem with ⟨m1, m2⟩ | ⟨b, D, V, m1, m2⟩
    · exact find_down g none d w m1 hd x
    · exact find_down g (some b) d w m1 hd x
/-- Of a file that is there. -/
theorem find_yes (g b : Nat) (Q : Nat → Prop) (d : DiskD) (D : DataW Value) (V : Nat → Option Addr × Nat) (w : World) (m1 : Whole w g 48 (cellsD (some b) d)) (m2 : FilesIn w g b Q d.F D V) (hq : ∀ q, Q q → q < w.heap.size) (hd : d.down = false) (j : Nat) (hj : j < 64) (f : FileD) (hf : d.F j = some f) :
    Calls Try.prog 38 #[.pointer (some ⟨g, 0, none⟩), .int .i64 (j : Nat)] w (fun e w' => e = .returned (.tuple #[.agg #[.slice (V j).1 f.all.length (V j).2, .int .i64 (f.fast : Nat)], .int .i64 0]) ∧ Below w.heap.size w w') := by
  refine find_hit g (some b) d w m1 hd _ _ _ _ _ (fun W hb => ?_)
  have h3 := (m2.stands (w' := W) (fun q hq2 _ => hb.block q (hq q hq2))).look (j : Nat) (by omega) (by omega) true
  rw [if_pos rfl, Int.toNat_natCast, if_pos ⟨by omega, by rw [hf]; rfl⟩, hf, fileAt_some hf] at h3
  rw [h3]
  simp [elemV]
end Dsk
end Go.Proofs.Ytbinmaamebdneaa

/-
  The program's Read, Sync, Remove of a disk.
-/
namespace Go.Proofs.Ytbinmaamebdneaa
set_option linter.unusedSimpArgs false
set_option linter.unusedVariables false
open Go.RowKit
open Go.Maps (Keyed)
open Go.Proofs Go.Shelf
namespace Dsk
set_option linter.unusedSimpArgs false
set_option linter.unusedVariables false
theorem clone_bytes (A : Option Addr) (n c : Nat) (l : List UInt8) (w : World) (h : Own 0 w A n c l) (hn : n ≤ 140737488355328) :
    Calls Try.prog 59 #[.slice A n c] w (fun e w' => ∃ A' c', e = .returned (.slice A' n c') ∧ Own w.heap.size w' A' n c' l ∧ Below w.heap.size w w') := by
  obtain ⟨i0, hi0, hz0, hz1, hz2⟩ := info_parts info_u8
  rcases A with _ | ⟨g, off, sp⟩
  · refine Calls.mono (AnyE.slices_Clone_nil Sh.cloneBytes n c w) ?_
    rintro e w' ⟨rfl, rfl⟩
    obtain ⟨hx, ⟨e, rfl⟩ | ⟨g, cap, cur, e, _⟩⟩ := h
    · obtain rfl : l = [] := List.eq_nil_of_length_eq_zero (by rw [← bytes_length, hx])
      exact ⟨none, 0, rfl, Own.none _ _, Below.refl _ _⟩
    · cases e
  · have hs := h.sl
    have e0 : off = 0 ∧ sp = none := by
      obtain ⟨hx, ⟨e, _⟩ | ⟨g, cap, cur, e, _⟩⟩ := h
      · cases e
      · cases e; exact ⟨rfl, rfl⟩
    obtain ⟨rfl, rfl⟩ := e0
    refine Calls.mono (AnyE.slices_Clone Sh.cloneBytes i0 _ 1 1 hi0 hz0 hz1 hz2 rfl (by omega) (fun w => by kernel_rfl) g 0 n c (bytes l) w (by rw [bytes_length, hs.len]; omega) (by unfold maxLen; omega) (by omega) (fun j u hu => ?_) (bytes_one l)) ?_
    · obtain ⟨b, o, e, hc⟩ := hs.holds (by rintro hh; rw [hh] at hu; simp at hu)
      cases e
      exact hc j u hu
    · rintro e w' ⟨v', rfl, ho, _, hb⟩
      obtain ⟨A', c', rfl, -⟩ := own_form ho
      exact ⟨A', c', rfl, ho, hb⟩
/-- What Read answers. -/
def RdKPost (w : World) (l : List UInt8) (k : Int) (e : Ending) (w' : World) : Prop := ∃ A c, e = .returned (.tuple #[.slice A l.length c, .int .i64 k]) ∧ Own w.heap.size w' A l.length c l ∧ Below w.heap.size w w'
theorem rdKPost_nil {w w' : World} {k k' : Int} (e : k = k') (hb : Below w.heap.size w w') : RdKPost w [] k' (.returned (.tuple #[.slice none 0 0, .int .i64 k])) w' := ⟨none, 0, by rw [e]; rfl, Own.none _ _, hb⟩
theorem rdKPost_mk {w w' : World} {l l' : List UInt8} {k k' : Int} {A : Option Addr} {c n : Nat} (e : k = k') (el : l = l') (en : n = l.length) (ho : Own w.heap.size w' A n c l) (hb : Below w.heap.size w w') : RdKPost w l' k' (.returned (.tuple #[.slice A n c, .int .i64 k])) w' := by
  subst e el en
  exact ⟨A, c, rfl, ho, hb⟩
theorem read_nil (x : Int) (w : World) : Calls Try.prog 45 #[.pointer none, .int .i64 x] w (RdKPost w [] 13) := by
  go_enter Try.func45, Try.ntmps45
  go_wp2_with fail
  refine Calls.mono (find_nil x w) ?_
  rintro e w1 ⟨rfl, hb⟩
  have Hb := hid_ (hb.alloc hb.size (.cells #[.slice none 0 0, .int .i64 0] 61))
  clear hb
  go_wp2_with fail
  go_ret2
  exact rdKPost_nil rfl Hb.out
theorem len_small {d : DiskD} (h : DOk d) {j : Nat} {f : FileD} (hj : j < 64) (hf : d.F j = some f) : f.all.length ≤ 1048576 := by
  have h1 := size_le_used d.F hj
  rw [size_some hf] at h1
  have := h.used
  have := h.room2
  omega
theorem files_some {d : DiskD} {j : Nat} {f : FileD} (hf : d.F j = some f) (e : d.F = noF) : False := by
  rw [e] at hf
  cases hf
theorem read_any (x : Int) (h1 : -9223372036854775808 ≤ x) (h2 : x ≤ 9223372036854775807) (g : Nat) (Q : Nat → Prop) (d : DiskD) (w : World) (h : Dk w g Q d) :
    Calls Try.prog 45 #[.pointer (some ⟨g, 0, none⟩), .int .i64 x] w (RdKPost w (readB d x) (askK d x)) := by
  rcases ask_cases d x h.ok with ⟨hk, hd, j, f, rfl, hj, hf⟩ | hk
  · have HR := hid_ (show readB d (j : Nat) = f.all by unfold readB; rw [if_pos hk, Int.toNat_natCast, fileAt_some hf])
    have Hk := hid_ hk
    have hlen := len_small h.ok hj hf
    rcases h.mem with ⟨m1, m2⟩ | ⟨b, D, V, m1, m2⟩
    · exact (files_some hf m2).elim
    have Hf := hid_ (find_yes g b Q d D V w m1 m2 h.qlt hd j hj f hf)
    have Ho := hid_ (fun (W : World) (hb : Below w.heap.size w W) => clone_bytes (V j).1 f.all.length (V j).2 f.all W ((m2.row j f hf).later hb) (by omega))
    clear h hk hd hf m1 m2
    generalize (V j).1 = A at *
    generalize (V j).2 = c at *
    generalize hfa : f.all = l at *
    clear hfa
    generalize hn : l.length = n at *
    have Hn := hid_ hn
    clear hn
    go_enter Try.func45, Try.ntmps45
    go_wp2_with fail
    refine Calls.mono Hf.out ?_
    rintro e w1 ⟨rfl, hb⟩
    have Hb := hid_ (hb.alloc hb.size (.cells #[.slice A n c, .int .i64 (f.fast : Nat)] 61))
    clear hb
    go_wp2_with fail
    refine Calls.mono (Ho.out _ Hb.out) ?_
    rintro e w2 ⟨A', c', rfl, ho, hb2⟩
    have Hb2 := hid_ (Hb.out.trans (hb2.mono Hb.out.size))
    have Ho2 := hid_ (Own.mono ho Hb.out.size)
    clear ho hb2
    go_wp2_with fail
    go_ret2
    exact rdKPost_mk Hk.out.symm HR.out.symm Hn.out.symm Ho2.out Hb2.out
  · have HR := hid_ (show readB d x = [] by unfold readB; rw [if_neg hk])
    have Hf := hid_ (find_no g Q d w h x h1 h2 hk)
    have hk' : (askK d x == 0) = false := beq_eq_false_iff_ne.2 hk
    have hk2 : (askK d x != 0) = true := by simp [bne, hk']
    clear h hk
    generalize askK d x = k at *
    go_enter Try.func45, Try.ntmps45
    go_wp2_with fail
    refine Calls.mono Hf.out ?_
    rintro e w1 ⟨rfl, hb⟩
    have Hb := hid_ (hb.alloc hb.size (.cells #[.slice none 0 0, .int .i64 0] 61))
    clear hb
    go_wp2_with fail
    go_ret2
    rw [HR.out]
    exact rdKPost_nil rfl Hb.out
end Dsk
end Go.Proofs.Ytbinmaamebdneaa

/-
  The program's Sync and Remove of a disk.
-/
namespace Go.Proofs.Ytbinmaamebdneaa
set_option linter.unusedSimpArgs false
set_option linter.unusedVariables false
open Go.RowKit
open Go.Maps (Keyed)
open Go.Proofs Go.Shelf
namespace Dsk
set_option linter.unusedSimpArgs false
set_option linter.unusedVariables false
theorem sync_nil (x : Int) (w : World) : Calls Try.prog 25 #[.pointer none, .int .i64 x] w (fun e w' => e = .returned (.int .i64 13) ∧ Below w.heap.size w w') := by
  go_enter Try.func25, Try.ntmps25
  go_wp2_with fail
  refine Calls.mono (find_nil x w) ?_
  rintro e w1 ⟨rfl, hb⟩
  have Hb := hid_ (hb.alloc hb.size (.cells #[.slice none 0 0, .int .i64 0] 61))
  clear hb
  go_wp2_with fail
  go_ret
  exact ⟨rfl, Hb.out⟩
theorem remove_nil (x : Int) (w : World) : Calls Try.prog 43 #[.pointer none, .int .i64 x] w (fun e w' => e = .returned (.int .i64 13) ∧ Below w.heap.size w w') := by
  go_enter Try.func43, Try.ntmps43
  go_wp2_with fail
  refine Calls.mono (find_nil x w) ?_
  rintro e w1 ⟨rfl, hb⟩
  have Hb := hid_ (hb.alloc hb.size (.cells #[.slice none 0 0, .int .i64 0] 61))
  clear hb
  go_wp2_with fail
  go_ret
  exact ⟨rfl, Hb.out⟩
theorem dkPost_same {w w' : World} {g : Nat} {Q : Nat → Prop} {k k' : Int} {d d' : DiskD} (e : k = k') (h : Dk w g Q d) (ed : d' = d) (hb : Below w.heap.size w w') : DkPost w g Q (.int .i64 k') d' (.returned (.int .i64 k)) w' :=
  dkPost_mk (by rw [e]) (h.below hb) ed.symm (Tn.of_below hb) (fun _ hq => .inl hq)
theorem grown_of {w w' : World} {row : Option Nat} (h : w.grownBy w' row) (B : Nat) (hr : ∀ j, row = some j → B ≤ j) (hB : B ≤ w.heap.size) : Below B w w' :=
  ⟨h.os, h.tape, h.output, h.size, fun i hi => h.block i (by omega) (fun e => by have := hr i e.symm; omega)⟩
set_option maxRecDepth 100000 in
theorem sync_any (x : Int) (h1 : -9223372036854775808 ≤ x) (h2 : x ≤ 9223372036854775807) (g : Nat) (Q : Nat → Prop) (d : DiskD) (w : World) (h : Dk w g Q d) :
    Calls Try.prog 25 #[.pointer (some ⟨g, 0, none⟩), .int .i64 x] w (DkPost w g Q (.int .i64 (askK d x)) (syncD d x)) := by
  rcases ask_cases d x h.ok with ⟨hk, hd, j, f, rfl, hj, hf⟩ | hk
  · have HD := hid_ (show syncD d (j : Nat) = withF d (setF d.F j (some ⟨f.all, f.all.length⟩)) by unfold syncD; rw [if_pos hk, Int.toNat_natCast]; unfold syncF; rw [fileAt_some hf])
    have Hk := hid_ hk
    have HOk := hid_ (syncD_ok h.ok (j : Nat))
    rcases h.mem with ⟨m1, m2⟩ | ⟨b, D, V, m1, m2⟩
    · exact (files_some hf m2).elim
    have Hf := hid_ (find_yes g b Q d D V w m1 m2 h.qlt hd j hj f hf)
    have hlen := len_small h.ok hj hf
    have hgl := m1.lt
    have Hown := hid_ (m2.owns h.ok.high)
    have Hend := hid_ (fun (w2 w' : World) (hb : Below w.heap.size w w2) (n' : Nat) (hm : w'.ownsMap Try.prog 3 elemR b n' (D.put (kx (j : Nat)) (.held (.agg #[.slice (V j).1 f.all.length (V j).2, .int .i64 (f.all.length : Nat)])))) (hg : w2.grownBy w' (some b)) =>
      show DkPost w g Q (.int .i64 (askK d (j : Nat))) (syncD d (j : Nat)) (.returned (.int .i64 0)) w' from by
        have hq : ∀ q, Q q → q ≠ b → w'.heap[q]? = w.heap[q]? := fun q hq hne => (hg.block q (Nat.lt_of_lt_of_le (h.qlt q hq) hb.size) (by intro e; injection e with e; exact hne e)).trans (hb.block q (h.qlt q hq))
        have hD := syncD_ok h.ok (j : Nat)
        rw [HD.out] at hD ⊢
        obtain ⟨Q', h1, h2⟩ := h.put m1 m2 j (V j).1 _ (V j).2 ⟨f.all, f.all.length⟩ rfl _ rfl (Nat.le_trans hb.size hg.size) ⟨_, hm⟩
          ((m2.row j f hf).stands (fun k e => by have h9 := m2.blk j k (by rw [hf]; rfl) e; exact hq k h9.1 h9.2.1)) (fun k e => .inl ⟨by rw [hf]; rfl, e⟩) (fun q hq1 hq2 _ => hq q hq1 hq2) hD
        exact dkPost_mk (by rw [hk]) h1 rfl ((Tn.of_below hb).grown hg (fun k e => by injection e with e; exact .inl (e ▸ m2.bq))) h2)
    obtain ⟨c0, c1, c2, c3, c4, -⟩ := dk_facts m1
    clear h hk hd hf m1 m2
    generalize (V j).1 = A at *
    generalize (V j).2 = c at *
    generalize f.all = l at *
    generalize f.fast = ff at *
    generalize hn : l.length = n at *
    clear hn
    go_enter Try.func25, Try.ntmps25
    go_wp2_with fail
    refine Calls.mono Hf.out ?_
    rintro e w1 ⟨rfl, hb⟩
    have hz := hb.size
    obtain ⟨wz, Hwz, z1, z2, z3, Hb⟩ : ∃ wz, wz = w1.alloc (.cells #[.slice A n c, .int .i64 (n : Nat)] 61) ∧ wz.cell? ⟨g, 1, none⟩ = some (.map (some b)) ∧ wz.cell? ⟨w1.heap.size, 0, none⟩ = some (.slice A n c) ∧ wz.cell? ⟨w1.heap.size, 1, none⟩ = some (.int .i64 (n : Nat)) ∧ Hid (Below w.heap.size w wz) := by
      refine ⟨_, rfl, ?_, ?_, ?_, hid_ (hb.alloc hb.size _)⟩
      · rw [(hb.alloc hb.size _).cell (p := ⟨g, 1, none⟩) hgl]; exact c1
      · exact (whole_new w1 _ _).cell 0 _ rfl
      · exact (whole_new w1 _ _).cell 1 _ rfl
    have Hwz' := hid_ Hwz
    clear hb Hwz
    go_wp2_with fail
    rw [← Hwz'.out]
    clear Hwz'
    go_still_tail 6, (by kernel_rfl)
    have Hbd := hid_ Hb.out.drew
    have Hown2 := hid_ (World.ownsMap.kept Hown.out (grown_below Hbd.out (Nat.le_refl _) none) (by simp))
    go_wp2_with (first
      | (at_mapUpdate; refine wpList_mapUpdate_own _ rfl _ _ _ 46 rfl 3 61 keyLaw Try.underlying46 _ b 64 _ rfl Hown2.out (by unfold maxLen; omega) _ _ _ rfl rfl (kx_key h1 h2) (.held (.agg #[.slice A n c, .int .i64 (n : Nat)])) [] rfl ?_; intro w2 hm hg)
      | fail)
    go_ret
    exact Hend.out _ _ Hbd.out 65 hm hg
  · have HD := hid_ (show syncD d x = d by unfold syncD; rw [if_neg hk])
    have Hf := hid_ (find_no g Q d w h x h1 h2 hk)
    have hk' : (askK d x == 0) = false := beq_eq_false_iff_ne.2 hk
    have hk2 : (askK d x != 0) = true := by simp [bne, hk']
    have H := hid_ h
    clear h hk
    generalize syncD d x = d' at *
    generalize askK d x = k at *
    go_enter Try.func25, Try.ntmps25
    go_wp2_with fail
    refine Calls.mono Hf.out ?_
    rintro e w1 ⟨rfl, hb⟩
    have Hb := hid_ (hb.alloc hb.size (.cells #[.slice none 0 0, .int .i64 0] 61))
    clear hb
    go_wp2_with fail
    go_ret
    exact dkPost_same rfl H.out HD.out Hb.out
set_option maxRecDepth 100000 in
theorem remove_any (x : Int) (h1 : -9223372036854775808 ≤ x) (h2 : x ≤ 9223372036854775807) (g : Nat) (Q : Nat → Prop) (d : DiskD) (w : World) (h : Dk w g Q d) :
    Calls Try.prog 43 #[.pointer (some ⟨g, 0, none⟩), .int .i64 x] w (DkPost w g Q (.int .i64 (askK d x)) (removeD d x)) := by
  rcases ask_cases d x h.ok with ⟨hk, hd, j, f, rfl, hj, hf⟩ | hk
  · have HD := hid_ (show removeD d (j : Nat) = withF d (setF d.F j none) by unfold removeD; rw [if_pos hk, Int.toNat_natCast])
    rcases h.mem with ⟨m1, m2⟩ | ⟨b, D, V, m1, m2⟩
    · exact (files_some hf m2).elim
    have Hf := hid_ (find_yes g b Q d D V w m1 m2 h.qlt hd j hj f hf)
    have hgl := m1.lt
    have Hown := hid_ (m2.owns h.ok.high)
    have Hend := hid_ (fun (w2 w' : World) (hb : Below w.heap.size w w2) (n' : Nat) (hm : w'.ownsMap Try.prog 3 elemR b n' (D.del (kx (j : Nat)))) (hg : w2.grownBy w' (some b)) =>
      show DkPost w g Q (.int .i64 (askK d (j : Nat))) (removeD d (j : Nat)) (.returned (.int .i64 0)) w' from by
        have hq : ∀ q, Q q → q ≠ b → w'.heap[q]? = w.heap[q]? := fun q hq hne => (hg.block q (Nat.lt_of_lt_of_le (h.qlt q hq) hb.size) (by intro e; injection e with e; exact hne e)).trans (hb.block q (h.qlt q hq))
        have hD := removeD_ok h.ok (j : Nat)
        rw [HD.out] at hD ⊢
        exact dkPost_mk (by rw [hk]) (Q' := Q) ⟨hD, h.qg, fun q hq2 => Nat.lt_of_lt_of_le (h.qlt q hq2) (Nat.le_trans hb.size hg.size), .inr ⟨b, _, _, (hq g h.qg (fun e => m2.bg e.symm)).trans m1, m2.del j ⟨_, hm⟩ (fun q hq1 _ hq3 => hq q hq1 hq3)⟩⟩ rfl
          ((Tn.of_below hb).grown hg (fun k e => by injection e with e; exact .inl (e ▸ m2.bq))) (fun q hq2 => .inl hq2))
    obtain ⟨c0, c1, c2, c3, c4, -⟩ := dk_facts m1
    clear h hk hd hf m1 m2
    generalize (V j).1 = A at *
    generalize (V j).2 = c at *
    generalize f.all.length = n at *
    generalize f.fast = ff at *
    go_enter Try.func43, Try.ntmps43
    go_wp2_with fail
    refine Calls.mono Hf.out ?_
    rintro e w1 ⟨rfl, hb⟩
    have hz := hb.size
    have hc : ∀ b o, b < w.heap.size → w1.cell? ⟨b, o, none⟩ = w.cell? ⟨b, o, none⟩ := fun b o h => hb.cell (p := ⟨b, o, none⟩) h
    have hgl1 : g < w1.heap.size := by omega
    have Hb := hid_ (hb.alloc hb.size (.cells #[.slice A n c, .int .i64 (ff : Nat)] 61))
    have Hown2 := hid_ (World.ownsMap.kept Hown.out (grown_below Hb.out (Nat.le_refl _) none) (by simp))
    clear hb
    go_wp2_with (first
      | (at_delete; refine wpList_delete_own _ rfl _ _ 46 3 rfl 61 keyLaw Try.underlying46 _ b 64 _ rfl Hown2.out _ _ rfl (kx_key h1 h2) ?_; intro w2 hm hg)
      | fail)
    go_ret
    exact Hend.out _ _ Hb.out 64 hm hg.grown
  · have HD := hid_ (show removeD d x = d by unfold removeD; rw [if_neg hk])
    have Hf := hid_ (find_no g Q d w h x h1 h2 hk)
    have hk' : (askK d x == 0) = false := beq_eq_false_iff_ne.2 hk
    have hk2 : (askK d x != 0) = true := by simp [bne, hk']
    have H := hid_ h
    clear h hk
    generalize removeD d x = d' at *
    generalize askK d x = k at *
    go_enter Try.func43, Try.ntmps43
    go_wp2_with fail
    refine Calls.mono Hf.out ?_
    rintro e w1 ⟨rfl, hb⟩
    have Hb := hid_ (hb.alloc hb.size (.cells #[.slice none 0 0, .int .i64 0] 61))
    clear hb
    go_wp2_with fail
    go_ret
    exact dkPost_same rfl H.out HD.out Hb.out
end Dsk
end Go.Proofs.Ytbinmaamebdneaa

/-
  The program's first of a file's contents, Cut and lay.
-/
namespace Go.Proofs.Ytbinmaamebdneaa
set_option linter.unusedSimpArgs false
set_option linter.unusedVariables false
open Go.RowKit
open Go.Maps (Keyed)
open Go.Proofs Go.Shelf
namespace Dsk
set_option linter.unusedSimpArgs false
set_option linter.unusedVariables false
set_option maxRecDepth 100000 in
theorem first_any (A : Option Addr) (n c : Nat) (l : List UInt8) (ff m : Nat) (w : World) (h : Own 0 w A n c l) (hm : m ≤ n) (hn : n ≤ 1048576) :
    Calls Try.prog 26 #[.agg #[.slice A n c, .int .i64 (ff : Nat)], .int .i64 (m : Nat)] w (fun e w' => ∃ A' c', e = .returned (.agg #[.slice A' m c', .int .i64 (m : Nat)]) ∧ Own w.heap.size w' A' m c' (l.take m) ∧ Below w.heap.size w w') := by
  have hs := h.sl
  have hc := hs.cap
  have hcm := hs.max
  have Hs := hid_ ((hs.upto m hm).below ((((Below.refl w.heap.size w).alloc (Nat.le_refl _) (.cells #[.slice A n c, .int .i64 (ff : Nat)] 61))).alloc (by simp) (.cells #[.slice none 0 0, .int .i64 0] 61)))
  have HR := hid_ (whole_at ((w.alloc (.cells #[.slice A n c, .int .i64 (ff : Nat)] 61))) (w.heap.size + 1) 61 #[.slice none 0 0, .int .i64 0] (by simp))
  have Hb0 := hid_ ((((Below.refl w.heap.size w).alloc (Nat.le_refl _) (.cells #[.slice A n c, .int .i64 (ff : Nat)] 61))).alloc (by simp) (.cells #[.slice none 0 0, .int .i64 0] 61))
  have y1 : (0 : Int) ≤ (m : Int) := by omega
  have y2 : (m : Int) ≤ (c : Int) := by omega
  clear h hs
  go_enter Try.func26, Try.ntmps26
  go_wp2_with (first
    | (at_builtin; refine wpList_bytes rfl (.const (.slice none 0 0)) (.tmp 8) rfl (w.heap.size + 1 + 1) none 0 0 [] rfl (Own.none _ _) A m c (l.take m) rfl Hs.out m (l.take m) (by omega) (by simp) (by omega) (by simp) ?_; intro A1 c1 w1 ho hb; have Ho := hid_ ho; have R1 := hid_ (HR.out.below hb (by omega)); have Hb1 := hid_ (Hb0.out.trans (hb.mono (by omega))); have r0 := R1.out.cell 0 _ rfl; have r1 := R1.out.cell 1 _ rfl; have f0 := R1.out.free 0; have f1 := R1.out.free 1; clear ho hb)
    | fail)
  exact bodyPost_ret (v := .agg #[.slice A1 m c1, .int .i64 (m : Nat)]) (by simp [results, Try.results26, go_sem, r0, r1]) rfl ⟨A1, c1, rfl, (Ho.out.stands (fun k hk => by
    have h9 := World.ownsRow.lt Ho.out k (by rw [own_blockOf]; exact hk)
    rw [Below.heap_setCell _ _ _ k (by show k ≠ w.heap.size + 1; omega), Below.heap_setCell _ _ _ k (by show k ≠ w.heap.size + 1; omega)])).mono (by omega), (Hb1.out.setCell (p := ⟨w.heap.size + 1, 0, none⟩) (by simp) _).setCell (p := ⟨w.heap.size + 1, 1, none⟩) (by simp) _⟩
/-- m[k] = v, run. -/
theorem put_run {w : World} {b n : Nat} {D : DataW Value} (hown : w.ownsMap Try.prog 3 elemR b n D) (hn : n < maxLen) {k : Int} (hk : keyOf Try.prog 3 (.int .i64 k) = some (kx k)) (val : Value) :
    ∃ w', (Instr.mapUpdate 46 (.map (some b)) (.int .i64 k) val).run Try.prog w = .ok () w' ∧ w'.ownsMap Try.prog 3 elemR b (n + 1) (D.put (kx k) (.held val)) ∧ w.grownBy w' (some b) :=
  hown.update (t := 46) keyLaw Try.underlying46 hn hk (d := .held val) (ps := []) rfl
set_option maxRecDepth 100000 in
set_option maxHeartbeats 4000000 in
theorem cut_any (x size : Int) (h1 : -9223372036854775808 ≤ x) (h2 : x ≤ 9223372036854775807) (g : Nat) (Q : Nat → Prop) (d : DiskD) (w : World) (h : Dk w g Q d) :
    Calls Try.prog 44 #[.pointer (some ⟨g, 0, none⟩), .int .i64 x, .int .i64 size] w (DkPost w g Q (.int .i64 (cutK d x size)) (cutD d x size)) := by
  rcases ask_cases d x h.ok with ⟨hk, hd, j, f, rfl, hj, hf⟩ | hk
  · rcases h.mem with ⟨m1, m2⟩ | ⟨b, D, V, m1, m2⟩
    · exact (files_some hf m2).elim
    have Hf := hid_ (find_yes g b Q d D V w m1 m2 h.qlt hd j hj f hf)
    have hlen := len_small h.ok hj hf
    have hgl := m1.lt
    by_cases hbad : size < 0 ∨ (f.all.length : Int) < size
    · have Hk := hid_ (show cutK d (j : Nat) size = 1 by unfold cutK; rw [if_pos hk, Int.toNat_natCast, fileAt_some hf, if_pos hbad])
      have HD := hid_ (show cutD d (j : Nat) size = d by unfold cutD; rw [Hk.out]; rfl)
      have H := hid_ h
      clear h hk hd hf m1 m2
      generalize (V j).1 = A at *
      generalize (V j).2 = c at *
      generalize f.all.length = n at *
      generalize f.fast = ff at *
      generalize cutD d (j : Nat) size = d' at *
      generalize cutK d (j : Nat) size = k' at *
      rcases hbad with hbad | hbad
      · have e1 : decide (size < 0) = true := decide_eq_true hbad
        go_enter Try.func44, Try.ntmps44
        go_wp2_with fail
        refine Calls.mono Hf.out ?_
        rintro e w1 ⟨rfl, hb⟩
        have Hb := hid_ (hb.alloc hb.size (.cells #[.slice A n c, .int .i64 (ff : Nat)] 61))
        clear hb
        go_wp2_with fail
        go_ret
        exact dkPost_same Hk.out.symm H.out HD.out Hb.out
      · have e1 : decide (size < 0) = false := decide_eq_false (by omega)
        have e2 : decide (size > (n : Int)) = true := decide_eq_true hbad
        have e3 : decide ((n : Int) < size) = true := decide_eq_true hbad
        go_enter Try.func44, Try.ntmps44
        go_wp2_with fail
        refine Calls.mono Hf.out ?_
        rintro e w1 ⟨rfl, hb⟩
        have Hb := hid_ (hb.alloc hb.size (.cells #[.slice A n c, .int .i64 (ff : Nat)] 61))
        clear hb
        go_wp2_with fail
        go_ret
        exact dkPost_same Hk.out.symm H.out HD.out Hb.out
    · obtain ⟨m, rfl⟩ := Int.eq_ofNat_of_zero_le (show 0 ≤ size by omega)
      have hmn : m ≤ f.all.length := by omega
      have Hk := hid_ (show cutK d (j : Nat) (m : Nat) = 0 by unfold cutK; rw [if_pos hk, Int.toNat_natCast, fileAt_some hf, if_neg hbad])
      have HD := hid_ (show cutD d (j : Nat) (m : Nat) = withF d (setF d.F j (some ⟨f.all.take m, m⟩)) by unfold cutD; rw [if_pos ⟨Hk.out, hk⟩, Int.toNat_natCast, Int.toNat_natCast]; unfold firstF; rw [fileAt_some hf])
      have Hown := hid_ (m2.owns h.ok.high)
      have Hend := hid_ (fun (wa w' : World) (A' : Option Addr) (c' n' : Nat) (hb : Below w.heap.size w wa) (ho : Own w.heap.size wa A' m c' (f.all.take m)) (hm : w'.ownsMap Try.prog 3 elemR b n' (D.put (kx (j : Nat)) (.held (.agg #[.slice A' m c', .int .i64 (m : Nat)])))) (hg : wa.grownBy w' (some b)) =>
        show DkPost w g Q (.int .i64 (cutK d (j : Nat) (m : Nat))) (cutD d (j : Nat) (m : Nat)) (.returned (.int .i64 0)) w' from by
          have hbl := h.qlt b m2.bq
          have hq : ∀ q, Q q → q ≠ b → w'.heap[q]? = w.heap[q]? := fun q hq hne => (hg.block q (Nat.lt_of_lt_of_le (h.qlt q hq) hb.size) (by intro e; injection e with e; exact hne e)).trans (hb.block q (h.qlt q hq))
          have hD := cutD_ok h.ok (j : Nat) (m : Nat)
          have hlm : m = (f.all.take m).length := by rw [List.length_take]; omega
          have hge : ∀ k, blockOf A' = some k → w.heap.size ≤ k := fun k e => (World.ownsRow.lt ho k (by rw [own_blockOf]; exact e)).1
          rw [HD.out] at hD ⊢
          obtain ⟨Q', h1, h2⟩ := h.put m1 m2 j A' m c' ⟨f.all.take m, m⟩ hlm _ rfl (Nat.le_trans hb.size hg.size) ⟨_, hm⟩
            (((ho.stands (fun k e => hg.block k (ho.blk_lt k e) (by intro e2; injection e2 with e2; have := hge k e; omega))).mono (Nat.zero_le _)).at_ rfl rfl) (fun k e => .inr (hge k e)) (fun q hq1 hq2 _ => hq q hq1 hq2) hD
          exact dkPost_mk (by rw [Hk.out]) h1 rfl ((Tn.of_below hb).grown hg (fun k e => by injection e with e; exact .inl (e ▸ m2.bq))) h2)
      have Hfi := hid_ (fun (W : World) (hb : Below w.heap.size w W) => first_any (V j).1 f.all.length (V j).2 f.all f.fast m W ((m2.row j f hf).later hb) hmn hlen)
      obtain ⟨c0, c1, c2, c3, c4, -⟩ := dk_facts m1
      clear h hk hd hf m1 m2 hbad
      generalize (V j).1 = A at *
      generalize (V j).2 = c at *
      generalize f.all.take m = lm at *
      generalize f.all.length = n at *
      generalize f.fast = ff at *
      have e1 : decide ((m : Int) < 0) = false := decide_eq_false (by omega)
      have e2 : decide (n < m) = false := decide_eq_false (by omega)
      go_enter Try.func44, Try.ntmps44
      go_wp2_with fail
      refine Calls.mono Hf.out ?_
      rintro e w1 ⟨rfl, hb⟩
      have hz := hb.size
      obtain ⟨wz, Hwz, z1, z2, z3, Hb⟩ : ∃ wz, wz = w1.alloc (.cells #[.slice A n c, .int .i64 (ff : Nat)] 61) ∧ wz.cell? ⟨g, 1, none⟩ = some (.map (some b)) ∧ wz.cell? ⟨w1.heap.size, 0, none⟩ = some (.slice A n c) ∧ wz.cell? ⟨w1.heap.size, 1, none⟩ = some (.int .i64 (ff : Nat)) ∧ Hid (Below w.heap.size w wz) := by
        refine ⟨_, rfl, ?_, ?_, ?_, hid_ (hb.alloc hb.size _)⟩
        · rw [(hb.alloc hb.size _).cell (p := ⟨g, 1, none⟩) hgl]; exact c1
        · exact (whole_new w1 _ _).cell 0 _ rfl
        · exact (whole_new w1 _ _).cell 1 _ rfl
      have Hwz' := hid_ Hwz
      have hlt1 := lt_of_cell z1
      have hlt2 := lt_of_cell z2
      clear hb Hwz
      go_wp2_with fail
      rw [← Hwz'.out]
      clear Hwz'
      have Hbd := hid_ Hb.out.drew
      have z1d : wz.drew.cell? ⟨g, 1, none⟩ = some (.map (some b)) := z1
      have z2d : wz.drew.cell? ⟨w1.heap.size, 0, none⟩ = some (.slice A n c) := z2
      have z3d : wz.drew.cell? ⟨w1.heap.size, 1, none⟩ = some (.int .i64 (ff : Nat)) := z3
      go_region_law (first
        | (go_simp; go_at_call 26; (with_reducible refine Calls.mono (Hfi.out _ Hbd.out) ?_); rintro e w2 ⟨A', c', rfl, ho2, hb2⟩; have Ho2 := hid_ (Own.mono ho2 Hbd.out.size); have Hb2 := hid_ (Hbd.out.trans (hb2.mono Hbd.out.size)); have z1e : w2.cell? ⟨g, 1, none⟩ = some (.map (some b)) := (hb2.cell (p := ⟨g, 1, none⟩) hlt1).trans z1; obtain ⟨w3, hrun3, hm3, hg3⟩ := put_run (World.ownsMap.kept Hown.out (grown_below Hb2.out (Nat.le_refl _) none) (by simp)) (by unfold maxLen; omega) (kx_key h1 h2) (.agg #[.slice A' m c', .int .i64 (m : Nat)]); have Hm3 := hid_ hm3; have Hg3 := hid_ hg3; clear ho2 hb2 hm3 hg3)
        | fail)
      all_goals
        go_wp2_with fail
        go_ret
        exact Hend.out w2 w3 A' c' _ Hb2.out Ho2.out Hm3.out Hg3.out
  · have Hk := hid_ (show cutK d x size = askK d x by unfold cutK; rw [if_neg hk])
    have HD := hid_ (show cutD d x size = d by unfold cutD; rw [if_neg (fun hc => hk hc.2)])
    have Hf := hid_ (find_no g Q d w h x h1 h2 hk)
    have hk' : (askK d x == 0) = false := beq_eq_false_iff_ne.2 hk
    have hk2 : (askK d x != 0) = true := by simp [bne, hk']
    have H := hid_ h
    clear h hk
    generalize cutD d x size = d' at *
    generalize cutK d x size = k' at *
    generalize askK d x = k at *
    go_enter Try.func44, Try.ntmps44
    go_wp2_with fail
    refine Calls.mono Hf.out ?_
    rintro e w1 ⟨rfl, hb⟩
    have Hb := hid_ (hb.alloc hb.size (.cells #[.slice none 0 0, .int .i64 0] 61))
    clear hb
    go_wp2_with fail
    go_ret
    exact dkPost_same Hk.out.symm H.out HD.out Hb.out
end Dsk
end Go.Proofs.Ytbinmaamebdneaa

/-
  The program's lay of bytes behind a file.
-/
namespace Go.Proofs.Ytbinmaamebdneaa
set_option linter.unusedSimpArgs false
set_option linter.unusedVariables false
open Go.RowKit
open Go.Maps (Keyed)
open Go.Proofs Go.Shelf
namespace Dsk
set_option linter.unusedSimpArgs false
set_option linter.unusedVariables false
theorem layD_ok {d : DiskD} (h : DOk d) {j : Nat} (hj : j < 64) {b : List UInt8} (hb : usedF d.F + b.length ≤ d.room) : DOk (withF d (layF d.F j b)) := by
  refine ⟨h.room1, h.room2, ?_, lay_fast h.fast j _, ?_, h.left⟩
  · show usedF (layF d.F j _) ≤ d.room
    rw [used_lay _ _ hj]
    omega
  · intro i hi
    show layF d.F j _ i = none
    rw [layF, setF_other _ _ (by omega)]
    exact h.high i hi
/-- Where a file's bytes lie, or none of a file that is not there. -/
theorem FilesIn.slot {w : World} {g b : Nat} {Q : Nat → Prop} {F : Files} {D : DataW Value} {V : Nat → Option Addr × Nat} (h : FilesIn w g b Q F D V) (j : Nat) (hj : j < 64) :
    ∃ A c, (Instr.lookup 46 (.map (some b)) (.int .i64 (j : Nat)) false).run Try.prog w = .ok (.agg #[.slice A (fileAt F j).all.length c, .int .i64 ((fileAt F j).fast : Nat)]) w ∧
      Own 0 w A (fileAt F j).all.length c (fileAt F j).all ∧ ∀ k, blockOf A = some k → (F j).isSome = true ∧ blockOf (V j).1 = some k := by
  have h3 := h.look (j : Nat) (by omega) (by omega) false
  rw [if_neg (by decide), Int.toNat_natCast] at h3
  cases hf : F j with
  | none =>
    rw [hf, if_neg (by simp)] at h3
    have e : fileAt F j = ⟨[], 0⟩ := by simp [fileAt, hf]
    rw [e]
    exact ⟨none, 0, h3, Own.none _ _, fun k e => by cases e⟩
  | some f =>
    rw [hf, if_pos ⟨by omega, rfl⟩, fileAt_some hf] at h3
    rw [fileAt_some hf]
    exact ⟨(V j).1, (V j).2, h3, h.row j f hf, fun k e => ⟨rfl, e⟩⟩
theorem map_eql (b : Nat) (W : World) : Sem.run Try.prog (binOp BinOp.eql 46 (.map (some b)) (.map none)) W = .ok (.bool false) W := by kernel_rfl
theorem map_eql_nil (W : World) : Sem.run Try.prog (binOp BinOp.eql 46 (.map none) (.map none)) W = .ok (.bool true) W := by kernel_rfl
set_option maxRecDepth 100000 in
set_option maxHeartbeats 4000000 in
theorem lay_some (j : Nat) (hj : j < 64) (Ab : Option Addr) (nb cb : Nat) (bs : List UInt8) (g b : Nat) (Q : Nat → Prop) (d : DiskD) (D : DataW Value) (V : Nat → Option Addr × Nat) (w : World) (h : Dk w g Q d) (m1 : Whole w g 48 (cellsD (some b) d)) (m2 : FilesIn w g b Q d.F D V)
    (hb : Sl w Ab nb cb bs) (hroom : usedF d.F + bs.length ≤ d.room) :
    Calls Try.prog 53 #[.pointer (some ⟨g, 0, none⟩), .int .i64 (j : Nat), .slice Ab nb cb] w (DkPost w g Q (.tuple #[]) (withF d (layF d.F j bs))) := by
  obtain ⟨A, c, hlook, hown, hblk⟩ := m2.slot j hj
  have hgl := m1.lt
  have hlen : (fileAt d.F j).all.length + bs.length ≤ 1048576 := by
    have := size_le_used d.F hj
    rw [size_fileAt] at this
    have := h.ok.room2
    omega
  have Hown := hid_ (m2.owns h.ok.high)
  have hgA : blockOf A ≠ some g := fun e => (m2.blk j g (hblk g e).1 (hblk g e).2).2.2 rfl
  have hbA : blockOf A ≠ some b := fun e => (m2.blk j b (hblk b e).1 (hblk b e).2).2.1 rfl
  have hlA : ∀ k, blockOf A = some k → k < w.heap.size := hown.blk_lt
  have hnb : nb = bs.length := hb.len.symm
  have Hend := hid_ (fun (w1 w2 w' : World) (A' : Option Addr) (N c' n' : Nat) (hN : N = (fileAt d.F j).all.length + nb) (ho : Own 0 w1 A' N c' ((fileAt d.F j).all ++ bs)) (hg1 : (w.alloc (.cells #[.slice A (fileAt d.F j).all.length c, .int .i64 ((fileAt d.F j).fast : Nat)] 61)).grownBy w1 (blockOf A)) (hat : blockOf A' = blockOf A ∨ blockOf A' = some (w.heap.size + 1))
      (hg2 : w1.grownBy w2 (some w.heap.size)) (hm : w'.ownsMap Try.prog 3 elemR b n' (D.put (kx (j : Nat)) (.held (.agg #[.slice A' N c', .int .i64 ((fileAt d.F j).fast : Nat)])))) (hg3 : w2.grownBy w' (some b)) =>
    show DkPost w g Q (.tuple #[]) (withF d (layF d.F j bs)) (.returned (.tuple #[])) w' from by
      have hbl := h.qlt b m2.bq
      have hs1 : w.heap.size + 1 ≤ w1.heap.size := by have := hg1.size; simpa using this
      have hs2 : w1.heap.size ≤ w2.heap.size := hg2.size
      have hs3 : w2.heap.size ≤ w'.heap.size := hg3.size
      have hq : ∀ q, q < w.heap.size → q ≠ b → blockOf A ≠ some q → w'.heap[q]? = w.heap[q]? := fun q hq hne hnA =>
        (hg3.block q (by omega) (by intro e; injection e with e; exact hne e)).trans ((hg2.block q (by omega) (by intro e; injection e with e; omega)).trans ((hg1.block q (by simp; omega) (fun e => hnA e.symm)).trans (Below.heap_alloc _ _ q hq)))
      have hA' : ∀ k, blockOf A' = some k → ((d.F j).isSome = true ∧ blockOf (V j).1 = some k) ∨ w.heap.size ≤ k := by
        intro k e
        rcases hat with e2 | e2
        · rw [e2] at e; exact .inl (hblk k e)
        · rw [e2] at e; injection e with e; exact .inr (by omega)
      have hw1 : ∀ k, blockOf A' = some k → k ≠ b ∧ k ≠ w.heap.size ∧ k < w1.heap.size := by
        intro k e
        refine ⟨?_, ?_, ho.blk_lt k e⟩
        · rcases hA' k e with ⟨h1, h2⟩ | h1
          · exact (m2.blk j k h1 h2).2.1
          · omega
        · rcases hat with e2 | e2
          · rw [e2] at e; have := hlA k e; omega
          · rw [e2] at e; injection e with e; omega
      have hD := layD_ok h.ok hj hroom
      obtain ⟨Q', h1, h2⟩ := h.put m1 m2 j A' N c' ⟨(fileAt d.F j).all ++ bs, (fileAt d.F j).fast⟩ (show N = ((fileAt d.F j).all ++ bs).length by rw [List.length_append]; omega) _ rfl (by omega) ⟨_, hm⟩
        (ho.stands (fun k e => (hg3.block k (by have := (hw1 k e).2.2; omega) (by intro e2; injection e2 with e2; exact (hw1 k e).1 e2)).trans (hg2.block k (hw1 k e).2.2 (by intro e2; injection e2 with e2; exact (hw1 k e).2.1 e2))))
        hA' (fun q hq1 hq2 hq3 => hq q (h.qlt q hq1) hq2 (fun e => hq3 (hblk q e).1 (hblk q e).2)) hD
      refine dkPost_mk rfl h1 rfl ?_ h2
      refine ((((Tn.refl Q w).alloc _).grown hg1 (fun k e => ?_)).grown hg2 (fun k e => ?_)).grown hg3 (fun k e => ?_)
      · exact .inl (m2.blk j k (hblk k e).1 (hblk k e).2).1
      · injection e with e; exact .inr (by omega)
      · injection e with e; exact .inl (e ▸ m2.bq))
  obtain ⟨c0, c1, c2, c3, c4, -⟩ := dk_facts m1
  have HownA := hid_ (hown.alloc (.cells #[.slice A (fileAt d.F j).all.length c, .int .i64 ((fileAt d.F j).fast : Nat)] 61))
  have HslB := hid_ (hb.below ((Below.refl _ _).alloc (Nat.le_refl _) (.cells #[.slice A (fileAt d.F j).all.length c, .int .i64 ((fileAt d.F j).fast : Nat)] 61)))
  have HB := hid_ (whole_new w 61 #[.slice A (fileAt d.F j).all.length c, .int .i64 ((fileAt d.F j).fast : Nat)])
  have HG := hid_ (m1.alloc (.cells #[.slice A (fileAt d.F j).all.length c, .int .i64 ((fileAt d.F j).fast : Nat)] 61))
  have HownM := hid_ (World.ownsMap.alloc Hown.out (.cells #[.slice A (fileAt d.F j).all.length c, .int .i64 ((fileAt d.F j).fast : Nat)] 61))
  have HbA := hid_ hbA
  have HgA := hid_ hgA
  have HlA := hid_ hlA
  clear h m1 m2 hb hown hblk hgA hbA hlA hroom
  generalize withF d (layF d.F j bs) = d' at *
  generalize (fileAt d.F j).all = l at *
  generalize (fileAt d.F j).fast = ff at *
  have Hnb := hid_ hnb
  obtain ⟨n, hn⟩ : ∃ n, n = l.length := ⟨_, rfl⟩
  have hnn : n + nb ≤ 1048576 := by omega
  simp only [← hn] at *
  clear hn hnb hlen
  have heq := map_eql b
  go_enter Try.func53, Try.ntmps53
  go_wp2_with (first
    | (at_builtin; refine wpList_bytesG rfl (.tmp 23) (.tmp 24) rfl 0 A n c l rfl HownA.out Ab nb cb bs rfl HslB.out (n + nb) (l ++ bs) rfl rfl (by omega) (Nat.zero_le _) ?_; intro A' c' w1 ho hb hg hat; rw [own_blockOf] at hg hat; rw [own_blockOf] at hat; have Ho := hid_ ho; have Hg := hid_ hg; have Hat := hid_ hat; have B1 := hid_ (whole_grown HB.out hg (fun e => by have := HlA.out _ e; omega)); have G1 := hid_ (whole_grown HG.out hg HgA.out); have M1 := hid_ (World.ownsMap.kept HownM.out hg (fun e => HbA.out e.symm)); have b0 := B1.out.cell 0 _ rfl; have bf := B1.out.free 0; have hz1 : w.heap.size + 1 ≤ w1.heap.size := (by have := hg.size; simpa using this); clear ho hb hg hat)
    | fail)
  have B2 := hid_ (B1.out.store 0 (.slice A' (n + nb) c'))
  have hgne : g ≠ w.heap.size := by omega
  have G2 := hid_ (G1.out.far (p := ⟨w.heap.size, 0, none⟩) hgne (.slice A' (n + nb) c'))
  have hbl : b < w.heap.size := Hown.out.lt
  have hbne : b ≠ w.heap.size := by omega
  have M2 := hid_ (World.ownsMap.setCell M1.out (a := ⟨w.heap.size, 0, none⟩) hbne (.slice A' (n + nb) c'))
  have Hg2 := hid_ (grown_set w1 w.heap.size 0 (.slice A' (n + nb) c'))
  clear b0 bf
  generalize hwz : w1.setCell ⟨w.heap.size, 0, none⟩ (.slice A' (n + nb) c') = wz at *
  clear hwz
  have z1 := G2.out.cell 1 _ rfl
  have z2 := B2.out.cell 0 _ rfl
  have z3 := B2.out.cell 1 _ rfl
  go_still_tail 6, (by kernel_rfl)
  have M3 := hid_ M2.out.drew
  have Hg3 := hid_ (grown_drew Hg2.out)
  go_wp2_with (first
    | (at_mapUpdate; refine wpList_mapUpdate_own _ rfl _ _ _ 46 rfl 3 61 keyLaw Try.underlying46 _ b 64 _ rfl M3.out (by unfold maxLen; omega) _ _ _ rfl rfl (kx_key (by omega) (by omega)) (.held (.agg #[.slice A' (n + nb) c', .int .i64 (ff : Nat)])) [] rfl ?_; intro w2 hm hg)
    | fail)
  go_end0
  exact Hend.out w1 _ w2 A' (n + nb) c' 65 (by rw [Hnb.out]) Ho.out Hg.out (by simpa using Hat.out) Hg3.out hm hg
end Dsk
end Go.Proofs.Ytbinmaamebdneaa

/-
  The program's lay of bytes behind a file, where there is no map yet.
-/
namespace Go.Proofs.Ytbinmaamebdneaa
set_option linter.unusedSimpArgs false
set_option linter.unusedVariables false
open Go.RowKit
open Go.Maps (Keyed)
open Go.Proofs Go.Shelf
namespace Dsk
set_option linter.unusedSimpArgs false
set_option linter.unusedVariables false
theorem dkPost_from {w wA w' : World} {g : Nat} {Q QA : Nat → Prop} {v : Value} {d : DiskD} {e : Ending} (h0 : Tn Q w wA) (hq : ∀ q, QA q → Q q ∨ w.heap.size ≤ q) (hs : w.heap.size ≤ wA.heap.size) (h : DkPost wA g QA v d e w') : DkPost w g Q v d e w' := by
  obtain ⟨he, Q', h1, h2, h3⟩ := h
  refine ⟨he, Q', h1, h0.trans h2 hq, fun q hq2 => ?_⟩
  rcases h3 q hq2 with h4 | h4
  · exact hq q h4
  · exact .inr (by omega)
set_option maxRecDepth 100000 in
set_option maxHeartbeats 4000000 in
theorem lay_none (j : Nat) (hj : j < 64) (Ab : Option Addr) (nb cb : Nat) (bs : List UInt8) (g : Nat) (Q : Nat → Prop) (d : DiskD) (w : World) (h0 : Dk w g Q d) (m0 : Whole w g 48 (cellsD none d)) (hF : d.F = noF)
    (hb0 : Sl w Ab nb cb bs) (hQb : ∀ a, Ab = some a → bs ≠ [] → a.block ≠ g) (hroom : usedF d.F + bs.length ≤ d.room) :
    Calls Try.prog 53 #[.pointer (some ⟨g, 0, none⟩), .int .i64 (j : Nat), .slice Ab nb cb] w (DkPost w g Q (.tuple #[]) (withF d (layF d.F j bs))) := by
  have hgl0 := m0.lt
  obtain ⟨c00, c10, c20, c30, c40, cf0⟩ := dk_facts m0
  have cf1 := cf0 1
  obtain ⟨wA, HwA, m1, m2, h, hb, H0, HqA, hszA⟩ : ∃ wA, (w.alloc (.map #[] 0)).setCell ⟨g, 1, none⟩ (.map (some w.heap.size)) = wA ∧ Whole wA g 48 (cellsD (some w.heap.size) d) ∧ FilesIn wA g w.heap.size (fun q => Q q ∨ q = w.heap.size) d.F (.map []) (fun _ => (none, 0)) ∧ Dk wA g (fun q => Q q ∨ q = w.heap.size) d ∧ Sl wA Ab nb cb bs ∧ Hid (Tn Q w wA) ∧ Hid (∀ q, (Q q ∨ q = w.heap.size) → Q q ∨ w.heap.size ≤ q) ∧ w.heap.size ≤ wA.heap.size := by
    have e1 : Whole ((w.alloc (.map #[] 0)).setCell ⟨g, 1, none⟩ (.map (some w.heap.size))) g 48 (cellsD (some w.heap.size) d) := (m0.alloc (.map #[] 0)).store 1 _
    have e2 : FilesIn ((w.alloc (.map #[] 0)).setCell ⟨g, 1, none⟩ (.map (some w.heap.size))) g w.heap.size (fun q => Q q ∨ q = w.heap.size) d.F (.map []) (fun _ => (none, 0)) := by
      rw [hF]
      exact (files_made w g w.heap.size rfl (by omega) _ (.inr rfl)).stands (fun q hq hne => Below.heap_setCell _ _ _ q hne)
    refine ⟨_, rfl, e1, e2, ⟨h0.ok, .inl h0.qg, ?_, .inr ⟨_, _, _, e1, e2⟩⟩, ?_, hid_ (((Tn.refl Q w).alloc _).set (.inl h0.qg) 1 _), hid_ (fun q hq => ?_), by simp⟩
    · rintro q (hq | rfl)
      · have := h0.qlt q hq; simp; omega
      · simp
    · exact sl_farg (hb0.below ((Below.refl _ _).alloc (Nat.le_refl _) _)) hQb 1 _
    · rcases hq with hq | hq
      · exact .inl hq
      · exact .inr (by omega)
  clear h0 m0 hb0 hF hQb
  obtain ⟨A, c, hlook, hown, hblk⟩ := m2.slot j hj
  have hgl := m1.lt
  have hlen : (fileAt d.F j).all.length + bs.length ≤ 1048576 := by
    have := size_le_used d.F hj
    rw [size_fileAt] at this
    have := h.ok.room2
    omega
  have Hown := hid_ (m2.owns h.ok.high)
  have hgA : blockOf A ≠ some g := fun e => (m2.blk j g (hblk g e).1 (hblk g e).2).2.2 rfl
  have hbA : blockOf A ≠ some w.heap.size := fun e => (m2.blk j w.heap.size (hblk w.heap.size e).1 (hblk w.heap.size e).2).2.1 rfl
  have hlA : ∀ k, blockOf A = some k → k < wA.heap.size := hown.blk_lt
  have hnb : nb = bs.length := hb.len.symm
  have Hend := hid_ (fun (w1 w2 w' : World) (A' : Option Addr) (N c' n' : Nat) (hN : N = (fileAt d.F j).all.length + nb) (ho : Own 0 w1 A' N c' ((fileAt d.F j).all ++ bs)) (hg1 : (wA.alloc (.cells #[.slice A (fileAt d.F j).all.length c, .int .i64 ((fileAt d.F j).fast : Nat)] 61)).grownBy w1 (blockOf A)) (hat : blockOf A' = blockOf A ∨ blockOf A' = some (wA.heap.size + 1))
      (hg2 : w1.grownBy w2 (some wA.heap.size)) (hm : w'.ownsMap Try.prog 3 elemR w.heap.size n' ((DataW.map [] : DataW Value).put (kx (j : Nat)) (.held (.agg #[.slice A' N c', .int .i64 ((fileAt d.F j).fast : Nat)])))) (hg3 : w2.grownBy w' (some w.heap.size)) =>
    show DkPost wA g (fun q => Q q ∨ q = w.heap.size) (.tuple #[]) (withF d (layF d.F j bs)) (.returned (.tuple #[])) w' from by
      have hbl := h.qlt w.heap.size m2.bq
      have hs1 : wA.heap.size + 1 ≤ w1.heap.size := by have := hg1.size; simpa using this
      have hs2 : w1.heap.size ≤ w2.heap.size := hg2.size
      have hs3 : w2.heap.size ≤ w'.heap.size := hg3.size
      have hq : ∀ q, q < wA.heap.size → q ≠ w.heap.size → blockOf A ≠ some q → w'.heap[q]? = wA.heap[q]? := fun q hq hne hnA =>
        (hg3.block q (by omega) (by intro e; injection e with e; exact hne e)).trans ((hg2.block q (by omega) (by intro e; injection e with e; omega)).trans ((hg1.block q (by simp; omega) (fun e => hnA e.symm)).trans (Below.heap_alloc _ _ q hq)))
      have hA' : ∀ k, blockOf A' = some k → ((d.F j).isSome = true ∧ blockOf ((fun _ : Nat => ((none : Option Addr), 0)) j).1 = some k) ∨ wA.heap.size ≤ k := by
        intro k e
        rcases hat with e2 | e2
        · rw [e2] at e; exact .inl (hblk k e)
        · rw [e2] at e; injection e with e; exact .inr (by omega)
      have hw1 : ∀ k, blockOf A' = some k → k ≠ w.heap.size ∧ k ≠ wA.heap.size ∧ k < w1.heap.size := by
        intro k e
        refine ⟨?_, ?_, ho.blk_lt k e⟩
        · rcases hA' k e with ⟨h1, h2⟩ | h1
          · exact (m2.blk j k h1 h2).2.1
          · omega
        · rcases hat with e2 | e2
          · rw [e2] at e; have := hlA k e; omega
          · rw [e2] at e; injection e with e; omega
      have hD := layD_ok h.ok hj hroom
      obtain ⟨Q', h1, h2⟩ := h.put m1 m2 j A' N c' ⟨(fileAt d.F j).all ++ bs, (fileAt d.F j).fast⟩ (show N = ((fileAt d.F j).all ++ bs).length by rw [List.length_append]; omega) _ rfl (by omega) ⟨_, hm⟩
        (ho.stands (fun k e => (hg3.block k (by have := (hw1 k e).2.2; omega) (by intro e2; injection e2 with e2; exact (hw1 k e).1 e2)).trans (hg2.block k (hw1 k e).2.2 (by intro e2; injection e2 with e2; exact (hw1 k e).2.1 e2))))
        hA' (fun q hq1 hq2 hq3 => hq q (h.qlt q hq1) hq2 (fun e => hq3 (hblk q e).1 (hblk q e).2)) hD
      refine dkPost_mk rfl h1 rfl ?_ h2
      refine ((((Tn.refl _ wA).alloc _).grown hg1 (fun k e => ?_)).grown hg2 (fun k e => ?_)).grown hg3 (fun k e => ?_)
      · exact .inl (m2.blk j k (hblk k e).1 (hblk k e).2).1
      · injection e with e; exact .inr (by omega)
      · injection e with e; exact .inl (e ▸ m2.bq))
  obtain ⟨c0, c1, c2, c3, c4, -⟩ := dk_facts m1
  have HownA := hid_ (hown.alloc (.cells #[.slice A (fileAt d.F j).all.length c, .int .i64 ((fileAt d.F j).fast : Nat)] 61))
  have HslB := hid_ (hb.below ((Below.refl _ _).alloc (Nat.le_refl _) (.cells #[.slice A (fileAt d.F j).all.length c, .int .i64 ((fileAt d.F j).fast : Nat)] 61)))
  have HB := hid_ (whole_new wA 61 #[.slice A (fileAt d.F j).all.length c, .int .i64 ((fileAt d.F j).fast : Nat)])
  have HG := hid_ (m1.alloc (.cells #[.slice A (fileAt d.F j).all.length c, .int .i64 ((fileAt d.F j).fast : Nat)] 61))
  have HownM := hid_ (World.ownsMap.alloc Hown.out (.cells #[.slice A (fileAt d.F j).all.length c, .int .i64 ((fileAt d.F j).fast : Nat)] 61))
  have HbA := hid_ hbA
  have HgA := hid_ hgA
  have HlA := hid_ hlA
  clear h m1 m2 hb hown hblk hgA hbA hlA hroom
  generalize withF d (layF d.F j bs) = d' at *
  generalize (fileAt d.F j).all = l at *
  generalize (fileAt d.F j).fast = ff at *
  have Hnb := hid_ hnb
  obtain ⟨n, hn⟩ : ∃ n, n = l.length := ⟨_, rfl⟩
  have hnn : n + nb ≤ 1048576 := by omega
  simp only [← hn] at *
  clear hn hnb hlen
  have heq := map_eql_nil
  have hmm := @run_makeMap Try.prog
  go_enter Try.func53, Try.ntmps53
  go_wp2_with (first
    | (at_builtin; refine wpList_bytesG rfl (.tmp 23) (.tmp 24) rfl 0 A n c l rfl HownA.out Ab nb cb bs rfl HslB.out (n + nb) (l ++ bs) rfl rfl (by omega) (Nat.zero_le _) ?_; intro A' c' w1 ho hb hg hat; rw [own_blockOf] at hg hat; rw [own_blockOf] at hat; have Ho := hid_ ho; have Hg := hid_ hg; have Hat := hid_ hat; have B1 := hid_ (whole_grown HB.out hg (fun e => by have := HlA.out _ e; omega)); have G1 := hid_ (whole_grown HG.out hg HgA.out); have M1 := hid_ (World.ownsMap.kept HownM.out hg (fun e => HbA.out e.symm)); have b0 := B1.out.cell 0 _ rfl; have bf := B1.out.free 0; have hz1 : wA.heap.size + 1 ≤ w1.heap.size := (by have := hg.size; simpa using this); clear ho hb hg hat)
    | fail)
  have B2 := hid_ (B1.out.store 0 (.slice A' (n + nb) c'))
  have hgne : g ≠ wA.heap.size := by omega
  have G2 := hid_ (G1.out.far (p := ⟨wA.heap.size, 0, none⟩) hgne (.slice A' (n + nb) c'))
  have hbl : w.heap.size < wA.heap.size := Hown.out.lt
  have hbne : w.heap.size ≠ wA.heap.size := by omega
  have M2 := hid_ (World.ownsMap.setCell M1.out (a := ⟨wA.heap.size, 0, none⟩) hbne (.slice A' (n + nb) c'))
  have Hg2 := hid_ (grown_set w1 wA.heap.size 0 (.slice A' (n + nb) c'))
  clear b0 bf
  generalize hwz : w1.setCell ⟨wA.heap.size, 0, none⟩ (.slice A' (n + nb) c') = wz at *
  clear hwz
  have z1 := G2.out.cell 1 _ rfl
  have z2 := B2.out.cell 0 _ rfl
  have z3 := B2.out.cell 1 _ rfl
  go_still_tail 6, (by kernel_rfl)
  have M3 := hid_ M2.out.drew
  have Hg3 := hid_ (grown_drew Hg2.out)
  go_wp2_with (first
    | (at_mapUpdate; refine wpList_mapUpdate_own _ rfl _ _ _ 46 rfl 3 61 keyLaw Try.underlying46 _ w.heap.size 64 _ rfl M3.out (by unfold maxLen; omega) _ _ _ rfl rfl (kx_key (by omega) (by omega)) (.held (.agg #[.slice A' (n + nb) c', .int .i64 (ff : Nat)])) [] rfl ?_; intro w2 hm hg)
    | fail)
  go_end0
  exact dkPost_from H0.out HqA.out hszA (Hend.out w1 _ w2 A' (n + nb) c' 65 (by rw [Hnb.out]) Ho.out Hg.out (by simpa using Hat.out) Hg3.out hm hg)
end Dsk
end Go.Proofs.Ytbinmaamebdneaa
