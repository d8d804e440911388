/-
  strings.SplitSeq at the separator of one byte, the new line: what its rounds are handed.
-/
import Derived.Test.YtlkpofhfkhdheaaGreatDoorRuleRow
import Derived.Test.YtlkpofhfkhdheaaGreatDoorCutStr
import Derived.RangeFuncNested
import Derived.RangeFuncBound
import Derived.RangeFuncCalls
import Derived.RangeFuncLeaves
import Derived.Shelf.Abstract
import Derived.Shelf.RegionOpen
import Derived.WalkKit
import Derived.OwnWalkIn
import Derived.TacticsInMore
import Derived.LoopNIn
import Derived.LoopIn
namespace Go.Proofs.YtlkpofhfkhdheaaGreatDoor
open Go.RowKit Ru
attribute [local go_sem] Oper.semAt_some

/-- Lines, and a new line between each two. -/
def joinS : List ByteArray → ByteArray
  | [] => ⟨#[]⟩
  | [x] => x
  | x :: y :: r => x ++ (⟨#[10]⟩ ++ joinS (y :: r))
theorem joinS_parted {x y : ByteArray} {r : List ByteArray} (h : (10 : UInt8) ∉ x.data.toList) : Parted (joinS (x :: y :: r)) x 10 (joinS (y :: r)) := by
  refine ⟨?_, h⟩
  show (x ++ (⟨#[10]⟩ ++ joinS (y :: r))).data.toList = _
  rw [ByteArray.data_append, ByteArray.data_append]
  simp
theorem index_any (s : ByteArray) (w : World) : Calls Tryz.prog 46 #[.string s, .string ⟨#[10]⟩] w fun e w' => e = .returned (.int .i64 (Lib.indexByte s.data.toList 10)) ∧ w = w' :=
  (Sh.strings_Index_one s 10 w).mono fun _ _ ⟨h1, h2⟩ => ⟨h1, h2.symm⟩

set_option maxRecDepth 100000 in
set_option maxHeartbeats 4000000 in
theorem split_in (n l Bs Bp Bv : Nat) (hn : 1 ≤ n) (ls : List ByteArray) (hne : ls ≠ []) (h10 : ∀ x ∈ ls, (10 : UInt8) ∉ x.data.toList) (hsz : (joinS ls).size ≤ 1000000)
    (hsp : Bs ≠ Bp) (hsv : Bs ≠ Bv) (J : List ByteArray → World → Prop) (hset : ∀ pre W v, J pre W → J pre (W.setCell ⟨Bs, 0, none⟩ v))
    (hY : ∀ pre x rest W, ls = pre ++ x :: rest → J pre W → YieldAt Fence.wide (n - 1) Tryz.prog l #[.string x] W fun e W' =>
      e = .returned (.bool true) ∧ J (pre ++ [x]) W' ∧ W'.heap[Bs]? = W.heap[Bs]? ∧ W'.heap[Bp]? = W.heap[Bp]? ∧ W'.heap[Bv]? = W.heap[Bv]?)
    (W : World) (hs : Whole W Bs 9 #[.string (joinS ls)]) (hp : Whole W Bp 9 #[.string ⟨#[10]⟩]) (hv : Whole W Bv 3 #[.int .i64 0]) (h0 : J [] W) :
    CallsIn Fence.wide n Tryz.prog 67 #[.func (.yield l) #[] #[], .pointer (some ⟨Bp, 0, none⟩), .pointer (some ⟨Bs, 0, none⟩), .pointer (some ⟨Bv, 0, none⟩)] W fun e W' => (∃ v, e = .returned v) ∧ J ls W' := by
  have HY := hid_ hY
  have Hset := hid_ hset
  have H10 := hid_ h10
  have Hs := hid_ hs
  have Hp := hid_ hp
  have Hv := hid_ hv
  have Hsz := hid_ hsz
  have Hne := hid_ hne
  have cp := hp.cell 0 _ rfl
  clear hY hset h10 hs hp hv hsz hne
  refine callsIn_of_wp Tryz.func67 rfl trivial ?_ rfl
  simp only [Tryz.ntmps67, List.size_toArray, List.length_cons, List.length_nil, Nat.reduceAdd, Nat.reduceSub, Array.replicate_succ, Array.replicate_zero, List.push_toArray, List.append_toArray, List.nil_append, List.cons_append]
  gi_wp2
  clear cp
  gi_loopw [] (fun wr => ∃ pre rest, rest ≠ [] ∧ Hid (ls = pre ++ rest) ∧ Hid (Whole wr Bs 9 #[.string (joinS rest)]) ∧ Hid (Whole wr Bp 9 #[.string ⟨#[10]⟩]) ∧ Hid (Whole wr Bv 3 #[.int .i64 0]) ∧ J pre wr ∧ (joinS rest).size ≤ 1000000)
    (fun wr => match wr.cell? ⟨Bs, 0, none⟩ with | some (.string t) => t.size | _ => 0)
  case atStart => exact ⟨[], ls, Hne.out, hid_ rfl, Hs, Hp, Hv, h0, Hsz.out⟩
  case round =>
    obtain ⟨pre, rest, hrne, Hls, Hs1, Hp1, Hv1, hJ, hle⟩ := hrel
    cases rest with
    | nil => exact absurd rfl hrne
    | cons x r =>
      have hx10 : (10 : UInt8) ∉ x.data.toList := H10.out x (by rw [Hls.out]; simp)
      obtain ⟨fn, tmps, assign, body, hy, hR⟩ := HY.out pre x r wr Hls.out hJ
      have cs := Hs1.out.cell 0 _ rfl
      have cp := Hp1.out.cell 0 _ rfl
      have cv := Hv1.out.cell 0 _ rfl
      have Hi := hid_ (fun W => index_any (joinS (x :: r)) W)
      cases r with
      | nil =>
        have Hx := hid_ (show Lib.indexByte (joinS [x]).data.toList 10 = -1 from index_not hx10)
        rw [Hx.out] at Hi
        have e0 : joinS [x] = x := rfl
        rw [e0] at cs Hi
        clear hrne hx10 e0
        gi_wp2_with (refine ⟨trivial, ?_⟩; gi_at_call 46; refine (callsIn_wide.2 (Hi.out _)).mono ?_; rintro e w' ⟨rfl, rfl⟩)
        refine hR.mono ?_
        rintro e W3 ⟨rfl, hJ3, _, _, _⟩
        gi_wp2
        go_end0
        exact ⟨⟨_, rfl⟩, by rw [Hls.out]; exact hJ3⟩
      | cons y r =>
        have hpt := joinS_parted (y := y) (r := r) hx10
        have Hx := hid_ (show Lib.indexByte (joinS (x :: y :: r)).data.toList 10 = (x.size : Int) by rw [hpt.1, index_at hpt.2]; simp)
        have hz := parted_size hpt
        have hl := parted_left hpt
        have hr := parted_right hpt
        rw [Hx.out] at Hi
        have Hset2 := hid_ (fun W v => Hset.out (pre ++ [x]) W v)
        have hne2 : y :: r ≠ [] := by simp
        clear hpt hx10 hrne Hx
        generalize hgs : joinS (x :: y :: r) = s0 at *
        generalize hgr : joinS (y :: r) = s1 at *
        have Hgr := hid_ hgr
        clear hgs hgr
        have c1 : (0 : Int) ≤ (x.size : Int) := by omega
        have c2 : (x.size : Int) ≤ (s0.size : Int) := by omega
        have c3 : (0 : Int) ≤ (x.size : Int) + 1 := by omega
        have c4 : (x.size : Int) + 1 ≤ (s0.size : Int) := by omega
        have Hz := hid_ hz
        clear hz
        gi_wp2_with (refine ⟨trivial, ?_⟩; gi_at_call 46; refine (callsIn_wide.2 (Hi.out _)).mono ?_; rintro e w' ⟨rfl, rfl⟩)
        refine hR.mono ?_
        rintro e W3 ⟨rfl, hJ3, e1, e2, e3⟩
        have Hs3 : Hid (Whole W3 Bs 9 #[.string s0]) := hid_ (e1.trans Hs1.out)
        have Hp3 : Hid (Whole W3 Bp 9 #[.string ⟨#[10]⟩]) := hid_ (e2.trans Hp1.out)
        have Hv3 : Hid (Whole W3 Bv 3 #[.int .i64 0]) := hid_ (e3.trans Hv1.out)
        have HJ3 := hid_ (Hset2.out W3 (.string s1) hJ3)
        have Hs4 : Hid (Whole (W3.setCell ⟨Bs, 0, none⟩ (.string s1)) Bs 9 #[.string s1]) := hid_ (Hs3.out.store 0 (.string s1))
        have Hp4 := hid_ (Hp3.out.far (p := ⟨Bs, 0, none⟩) (Ne.symm hsp) (.string s1))
        have Hv4 := hid_ (Hv3.out.far (p := ⟨Bs, 0, none⟩) (Ne.symm hsv) (.string s1))
        clear cs cp cv e1 e2 e3 hJ3
        have cs := Hs3.out.cell 0 _ rfl
        have cp := Hp3.out.cell 0 _ rfl
        have fs := Hs3.out.free 0
        gi_wp2
        go_roundw
        case rel => exact ⟨pre ++ [x], y :: r, hne2, hid_ (by rw [Hls.out]; simp), by rw [Hgr.out]; exact Hs4, Hp4, Hv4, HJ3.out, by rw [Hgr.out]; have := Hz.out; omega⟩
        case measure =>
          have h1 := Hs4.out.cell 0 _ rfl
          have h2 := Hs1.out.cell 0 _ rfl
          rw [h1, h2]
          show s1.size < s0.size
          have := Hz.out
          omega
end Go.Proofs.YtlkpofhfkhdheaaGreatDoor
