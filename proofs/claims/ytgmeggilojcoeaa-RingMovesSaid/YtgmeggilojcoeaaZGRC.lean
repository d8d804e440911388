/-
  What the library's SortFunc does with a row of points.
-/
import Derived.Test.YtgmeggilojcoeaaZGRB
import Derived.Test.YtgmeggilojcoeaaZShSort
import Derived.Shelf.SlSortCmp.NoneTotal
import Derived.Shelf.GgClosure.Gives
namespace Go.Proofs.Ytgmeggilojcoeaa
set_option linter.unusedSimpArgs false
set_option linter.unusedVariables false
open Go.RowKit
namespace Rg
set_option linter.unusedSimpArgs false
set_option linter.unusedVariables false
abbrev OwnPt := ptE.Own 107
theorem holdsK_of {w : World} {g : Nat} {n c : Nat} {ss : List PtD} (h : ptE.Row w (some ⟨g, 0, none⟩) n c ss) (hf : ∀ o, w.frozen? ⟨g, o, none⟩ = false) : Go.Sort.HoldsK cfP 2 w g 0 ss.toArray := by
  intro j hj
  rw [Go.Sort.size_flatK] at hj
  have hj' : j < ss.length * 2 := by simpa using hj
  refine ⟨?_, hf _⟩
  rw [Go.Sort.get_flatK _ _ _ _ hj]
  have hk : j / 2 < ss.length := by omega
  obtain ⟨b, off, e, hb, hc⟩ := h.at_ hk
  injection e with e
  injection e with e1 e2
  subst e1 e2
  have hg : (cfP ss[j / 2])[j % 2]? = some ((cfP (ss.toArray[j / 2]!))[j % 2]!) := by
    have e1 : ss.toArray[j / 2]! = ss[j / 2] := by simp [getElem!_pos, hk]
    rw [e1]
    have hl : j % 2 < (cfP ss[j / 2]).length := by show _ < 2; omega
    rw [List.getElem?_eq_getElem hl, getElem!_pos (cfP ss[j / 2]) (j % 2) hl]
  have := hc (j % 2) _ hg
  rwa [show 0 + j / 2 * ptE.K + j % 2 = 0 + j by show 0 + j / 2 * 2 + j % 2 = 0 + j; omega] at this
theorem rowOf_holdsK {w : World} {g : Nat} {n c : Nat} {ss : List PtD} (h : Go.Sort.HoldsK cfP 2 w g 0 ss.toArray) (h1 : ss.length = n) (h2 : n ≤ c) (h3 : c ≤ 9223372036854775807) : ptE.Row w (some ⟨g, 0, none⟩) n c ss := by
  refine ⟨fun _ => ⟨g, 0, rfl, fun k u hu => ?_⟩, h1, h2, h3, fun e => by cases e⟩
  have hk : k < ss.length * 2 := by
    have := (List.getElem?_eq_some_iff.1 hu).1
    rwa [ptE.all_length] at this
  have hk2 : k / 2 < ss.length := by omega
  have hm := ptE.all_get ss hk2 (k % 2) (by show _ < 2; omega)
  rw [show k / 2 * ptE.K + k % 2 = k by show k / 2 * 2 + k % 2 = k; omega, hu] at hm
  have := (h.cell (i := k / 2) (c := k % 2) (by simpa using hk2) (by omega)).1
  rw [show 0 + k / 2 * 2 + k % 2 = 0 + k by omega] at this
  rw [this]
  have e1 : ss.toArray[k / 2]! = ss[k / 2] := by simp [getElem!_pos, hk2]
  have hl : k % 2 < (cfP ss[k / 2]).length := by show _ < 2; omega
  rw [e1, getElem!_pos (cfP ss[k / 2]) (k % 2) hl]
  exact (List.getElem?_eq_getElem hl).symm.trans hm.symm
theorem below_sort {B : Nat} {w : World} {g m : Nat} {d : Array PtD} {os : Array Obj} (hg : B ≤ g) (hB : B ≤ w.heap.size) : Below B w (sortWorldK cfP 2 w g 0 m d os) := by
  unfold sortWorldK Go.Sort.putRowK
  have h1 : Below B w (Go.Sort.putRow id (Go.Sort.ahead w m) g 0 (Go.Sort.flatK cfP 2 d)) := Lib.below_putRow (Below.refl B w) hg
  have h2 := (below_grown (Go.Sort.putRow id (Go.Sort.ahead w m) g 0 (Go.Sort.flatK cfP 2 d)) 0 os)
  rw [Go.Sort.ahead_zero] at h2
  exact h1.trans (h2.mono (Nat.le_trans hB h1.size))
def SortPost (B : Nat) (w : World) (A : Option Addr) (n c : Nat) (ss : List PtD) (e : Ending) (w' : World) : Prop := e = .returned (.tuple #[]) ∧ ∃ ss', ss'.Perm ss ∧ Sorted ss' ∧ ptE.Row w' A n c ss' ∧ Below B w w'
set_option maxHeartbeats 2000000 in
theorem sortpts_any (B : Nat) (A : Option Addr) (n c : Nat) (ss : List PtD) (w : World) (ho : OwnPt B w A n c ss) (hB : B ≤ w.heap.size) (hm : n ≤ 1000000) :
    Calls Try.prog 78 #[.slice A n c, .func (.func 79) #[] #[]] w (SortPost B w A n c ss) := by
  have hrow := ho.row
  have hl := ho.len
  rcases Nat.eq_zero_or_pos n with h0 | hpos
  · subst h0
    have hcon := AnyF.slices_SortFunc_none Sh.sortPts A c (.func (.func 79) #[] #[]) w
    refine Calls.mono hcon ?_
    rintro e w' ⟨rfl, rfl⟩
    exact ⟨rfl, ss, List.Perm.refl _, by rw [List.eq_nil_of_length_eq_zero hl]; exact List.Pairwise.nil, hrow, Below.refl _ _⟩
  · obtain ⟨g, rfl, hg, hlt⟩ : ∃ g, A = some ⟨g, 0, none⟩ ∧ B ≤ g ∧ g < w.heap.size := by
      obtain ⟨hx, ⟨e', _⟩ | ⟨g, cap, cur, e', hg, hh, _⟩⟩ := ho
      · injection e' with a b c
        omega
      · injection e' with a b c
        exact ⟨g, a, hg, (Array.getElem?_eq_some_iff.1 hh).1⟩
    have hH := holdsK_of hrow (fun o => World.ownsRow.frozenAt ho o)
    have hcon := AnyQ.slices_SortFunc Sh.sortPts 2 Try.isAgg107 Try.sizeOf107 cfP (fun _ => rfl) (fun x v hv => ptE.one x v hv) cfPt swoPt 79 #[] g 0 c ss.toArray w
      (enters_of Try.func79 (by kernel_rfl) rfl) (fun _ _ _ _ x y => less_any x y _) hH hlt (by simp; omega)
    have hsz : ss.toArray.size = n := by simpa using hl
    rw [hsz] at hcon
    refine Calls.mono hcon ?_
    rintro e w' ⟨rfl, d', m, os, hp, hs, rfl⟩
    have hd : d'.size = n := by rw [hp.1, hsz]
    refine ⟨rfl, d'.toList, ?_, ?_, ?_, below_sort hg hB⟩
    · have h3 := hp.2.2
      rw [show d'.extract 0 n = d' by rw [← hd]; simp, show ss.toArray.extract 0 n = ss.toArray by rw [← hsz]; simp] at h3
      simpa using h3
    · refine List.pairwise_iff_getElem.2 fun i j hi hj hij => ?_
      have hj' : j < d'.size := by simpa using hj
      have h4 := hs i j (Nat.zero_le _) hij (by omega)
      rw [ltPt] at h4
      have e1 : d'[j]! = d'[j] := getElem!_pos d' j hj'
      have e2 : d'[i]! = d'[i]'(by omega) := getElem!_pos d' i (by omega)
      rw [e1, e2] at h4
      have h5 := of_decide_eq_false h4
      simp only [Array.getElem_toList]
      exact Decidable.not_not.1 h5
    · have h5 := holdsK_sortWorldK_c cfP 2 w g 0 ss.toArray d' m os hH hlt (by rw [hd, hsz])
      have h6 : Go.Sort.HoldsK cfP 2 (sortWorldK cfP 2 w g 0 m d' os) g 0 d'.toList.toArray := by simpa using h5
      exact rowOf_holdsK h6 (by simpa using hd) hrow.cap hrow.max
end Rg
end Go.Proofs.Ytgmeggilojcoeaa

/-
  What Make makes: the ring of the members.
-/
namespace Go.Proofs.Ytgmeggilojcoeaa
set_option linter.unusedSimpArgs false
set_option linter.unusedVariables false
open Go.RowKit
namespace Rg
set_option linter.unusedSimpArgs false
set_option linter.unusedVariables false
theorem num_at {w : World} {A : Option Addr} {n c : Nat} {ids : List Nat} (h : numE.Row w A n c ids) {k : Nat} (hk : k < ids.length) : ∃ b off, A = some ⟨b, off, none⟩ ∧ b < w.heap.size ∧ w.cell? ⟨b, off + k, none⟩ = some (.int .u64 (ids[k] : Nat)) := by
  obtain ⟨b, off, e, hb, hc⟩ := h.at_ hk
  refine ⟨b, off, e, hb, ?_⟩
  have := hc 0 _ rfl
  simpa [numE] using this
theorem pt_at {w : World} {A : Option Addr} {n c : Nat} {r : List PtD} (h : ptE.Row w A n c r) {k : Nat} (hk : k < r.length) : ∃ b off, A = some ⟨b, off, none⟩ ∧ b < w.heap.size ∧ w.cell? ⟨b, off + k * 2, none⟩ = some (.int .u64 (r[k].pos : Nat)) ∧ w.cell? ⟨b, off + k * 2 + 1, none⟩ = some (.int .u64 (r[k].id : Nat)) := by
  obtain ⟨b, off, e, hb, hc⟩ := h.at_ hk
  exact ⟨b, off, e, hb, hc 0 _ rfl, hc 1 _ rfl⟩
theorem rise_step {ids : List Nat} {k : Nat} (hk : k < ids.length) (l : Nat) : riseF l (ids.drop k) = (decide (l < ids[k]) && riseF ids[k] (ids.drop (k + 1))) := by
  rw [List.drop_eq_getElem_cons hk]
  rfl
set_option maxHeartbeats 2000000 in
theorem rise_any (A : Option Addr) (n c : Nat) (ids : List Nat) (w : World) (h : numE.Row w A n c ids) :
    Calls Try.prog 76 #[.slice A n c] w (RetV w (.bool (riseF 0 ids))) := by
  have hle := h.le
  have hl := h.len
  have Hr := hid_ (show riseF 0 ids = riseF 0 (ids.drop 0) from rfl)
  generalize riseF 0 ids = r at *
  go_enter Try.func76, Try.ntmps76
  go_wp2
  go_loop [3, 8] (fun l i => ∃ k m : Nat, k ≤ n ∧ i = .int .i64 k ∧ l = .int .u64 m ∧ Hid (r = riseF m (ids.drop k))) (fun _ i => n - (intOf i).toNat)
  case atStart => exact ⟨0, 0, by omega, rfl, rfl, Hr⟩
  case round =>
    obtain ⟨k, m, hk, rfl, rfl, HR⟩ := hrel
    by_cases hlt : k < n
    · have hkl : k < ids.length := by rw [hl]; exact hlt
      obtain ⟨b, off, rfl, _, hc⟩ := num_at h hkl
      have hst := rise_step hkl m
      generalize ids[k] = x at *
      have HS := hid_ hst
      have HL := hid_ hl
      clear hst hl
      by_cases hxm : x ≤ m
      · have e1 : decide (x ≤ m) = true := decide_eq_true hxm
        have HX := hid_ hxm
        clear hxm
        go_wp2
        go_ret
        have hr0 : r = false := by rw [HR.out, HS.out, decide_eq_false (by have := HX.out; omega)]; rfl
        exact retV_mk (by rw [hr0]; rfl)
      · have e1 : decide (x ≤ m) = false := decide_eq_false hxm
        have HX := hid_ hxm
        clear hxm
        go_wp2
        go_round
        case rel => exact ⟨k + 1, x, by omega, by go_num, rfl, hid_ (by rw [HR.out, HS.out, decide_eq_true (by have := HX.out; omega)]; rfl)⟩
        case measure => simp [intOf]; omega
    · obtain rfl : k = n := by omega
      have hr1 := hid_ (show r = true by rw [HR.out, List.drop_eq_nil_of_le (by omega)]; rfl)
      clear HR Hr
      go_wp2
      go_ret
      exact retV_mk (by rw [hr1.out]; rfl)
theorem info_pt : (Try.prog.info? 107).map (fun i => (i.zero, i.size, i.bytes)) = some (some (.agg #[.int .u64 0, .int .u64 0]), ptE.K, 16) := by kernel_rfl
theorem pt_new (w : World) (pos id : Nat) (T : TypeId) : ptE.Row (w.alloc (.cells #[.int .u64 (pos : Nat), .int .u64 (id : Nat)] T)) (some ⟨w.heap.size, 0, none⟩) 1 1 [⟨pos, id⟩] := Enc.row_new (E := ptE) w ⟨pos, id⟩ _ rfl T
/-- The points of one member, the first i of them. -/
def memPts (id i : Nat) : List PtD := (List.range i).map fun j => ⟨atN id j, id⟩
theorem memPts_snoc (id i : Nat) : memPts id (i + 1) = memPts id i ++ [⟨atN id i, id⟩] := by simp [memPts, List.range_succ]
theorem memPts_length (id i : Nat) : (memPts id i).length = i := by simp [memPts]
theorem pts_snoc {ids : List Nat} {k : Nat} (hk : k < ids.length) (p : Nat) : ptsOf atN (ids.take (k + 1)) p = ptsOf atN (ids.take k) p ++ memPts ids[k] p := by
  rw [List.take_succ_eq_append_getElem hk, pts_append]
  simp [ptsOf, memPts]
def MakeBad (B : Nat) (w : World) (k : Int) (e : Ending) (w' : World) : Prop := e = .returned (.tuple #[.slice none 0 0, .int .i64 k]) ∧ w = w'
set_option maxHeartbeats 2000000 in
theorem make_bad (A : Option Addr) (n c : Nat) (ids : List Nat) (p : Int) (w : World) (h : numE.Row w A n c ids) (hb : riseF 0 ids = false ∨ p < 1 ∨ 64 < p) :
    Calls Try.prog 59 #[.slice A n c, .int .i64 p] w (RetV w (.tuple #[.slice none 0 0, .int .i64 1])) := by
  have Hr := hid_ (rise_any A n c ids w h)
  cases hr : riseF 0 ids
  · rw [hr] at Hr
    clear hb hr h
    go_enter Try.func59, Try.ntmps59
    go_wp2_with fail
    refine Calls.mono Hr.out ?_
    rintro e w' ⟨rfl, rfl⟩
    go_wp2_with fail
    go_ret2
    exact retV_mk rfl
  · rw [hr] at Hr
    rw [hr] at hb
    by_cases h1 : p < 1
    · have e1 : decide (p < 1) = true := decide_eq_true h1
      clear hb hr h
      go_enter Try.func59, Try.ntmps59
      go_wp2_with fail
      refine Calls.mono Hr.out ?_
      rintro e w' ⟨rfl, rfl⟩
      go_wp2_with fail
      go_ret2
      exact retV_mk rfl
    · have h2 : 64 < p := by
        rcases hb with hb | hb | hb
        · cases hb
        · omega
        · exact hb
      have e1 : decide (p < 1) = false := decide_eq_false h1
      have e2 : decide (p > 64) = true := decide_eq_true h2
      have e3 : decide (64 < p) = true := decide_eq_true h2
      clear hb hr h
      go_enter Try.func59, Try.ntmps59
      go_wp2_with fail
      refine Calls.mono Hr.out ?_
      rintro e w' ⟨rfl, rfl⟩
      go_wp2_with fail
      go_ret2
      exact retV_mk rfl
set_option maxHeartbeats 2000000 in
theorem make_large (A : Option Addr) (n c : Nat) (ids : List Nat) (p : Int) (w : World) (h : numE.Row w A n c ids) (hb : riseF 0 ids = true) (h1 : 1 ≤ p) (h2 : p ≤ 64) (hn : 16 < n) :
    Calls Try.prog 59 #[.slice A n c, .int .i64 p] w (RetV w (.tuple #[.slice none 0 0, .int .i64 4])) := by
  have Hr := hid_ (rise_any A n c ids w h)
  rw [hb] at Hr
  have e1 : decide (p < 1) = false := decide_eq_false (by omega)
  have e2 : decide (p > 64) = false := decide_eq_false (by omega)
  have e3 : decide (64 < p) = false := decide_eq_false (by omega)
  have e4 : decide ((n : Int) > 16) = true := decide_eq_true (by omega)
  have e5 : decide ((16 : Int) < (n : Int)) = true := decide_eq_true (by omega)
  clear hb h
  go_enter Try.func59, Try.ntmps59
  go_wp2_with fail
  refine Calls.mono Hr.out ?_
  rintro e w' ⟨rfl, rfl⟩
  go_wp2_with fail
  go_ret2
  exact retV_mk rfl
/-- The ring: sorted, the members' points, a row of the call's own. -/
def MakePost (B : Nat) (w : World) (ids : List Nat) (p : Nat) (e : Ending) (w' : World) : Prop :=
  ∃ A' N c' r, e = .returned (.tuple #[.slice A' N c', .int .i64 0]) ∧ ptE.Row w' A' N c' r ∧ Sorted r ∧ r.Perm (ptsOf atN ids p) ∧ Below B w w'
set_option maxHeartbeats 4000000 in
theorem make_any (A : Option Addr) (n c : Nat) (ids : List Nat) (p : Nat) (w : World) (h : numE.Row w A n c ids) (hb : riseF 0 ids = true) (h1 : 1 ≤ p) (h2 : p ≤ 64) (hn : n ≤ 16) :
    Calls Try.prog 59 #[.slice A n c, .int .i64 p] w (MakePost w.heap.size w ids p) := by
  have Hr := hid_ (rise_any A n c ids w h)
  rw [hb] at Hr
  have hl := h.len
  have e1 : decide (p < 1) = false := decide_eq_false (by omega)
  have e2 : decide ((p : Int) > 64) = false := decide_eq_false (by omega)
  have e3 : decide ((64 : Int) < (p : Int)) = false := decide_eq_false (by omega)
  have e4 : decide ((n : Int) > 16) = false := decide_eq_false (by omega)
  have e5 : decide ((16 : Int) < (n : Int)) = false := decide_eq_false (by omega)
  have e6 : decide ((p : Int) < 1) = false := decide_eq_false (by omega)
  clear hb
  go_enter Try.func59, Try.ntmps59
  go_wp2_with fail
  refine Calls.mono Hr.out ?_
  rintro e w' ⟨rfl, rfl⟩
  go_wp2_with fail
  have hle := h.le
  have HB := hid_ h1
  go_loopw [6, 26] (fun v6 v26 wr => ∃ (k m : Nat) (A' : Option Addr) (c' : Nat), k ≤ n ∧ v26 = .int .i64 k ∧ v6 = .slice A' m c' ∧ OwnPt w.heap.size wr A' m c' (ptsOf atN (ids.take k) p) ∧ Below w.heap.size w wr) (fun _ v26 _ => n - (intOf v26).toNat)
  case atStart => exact ⟨0, 0, none, 0, by omega, rfl, rfl, Enc.Own.none _ _, Below.refl _ _⟩
  case round =>
    obtain ⟨k, m, A', c', hk, rfl, rfl, ho, hbw⟩ := hrel
    have HO := hid_ ho
    have HBW := hid_ hbw
    have hsz := hbw.size
    clear ho hbw
    by_cases hlt : k < n
    · have hkl : k < ids.length := by rw [hl]; exact hlt
      obtain ⟨b, off, rfl, hblk, hc⟩ := num_at (h.below HBW.out) hkl
      have HPS := hid_ (pts_snoc hkl p)
      generalize ids[k] = x at *
      go_wp2_with fail
      obtain ⟨wo, hwo⟩ : ∃ wo : World, wo = wr := ⟨_, rfl⟩
      subst hwo
      go_loopw [6, 31] (fun v6 v31 wi => ∃ (i m' : Nat) (A'' : Option Addr) (c'' : Nat), i ≤ p ∧ v31 = .int .i64 i ∧ v6 = .slice A'' m' c'' ∧ OwnPt w.heap.size wi A'' m' c'' (ptsOf atN (ids.take k) p ++ memPts x i) ∧ Below w.heap.size w wi) (fun _ v31 _ => p - (intOf v31).toNat)
      case atStart => exact ⟨0, m, A', c', by omega, rfl, rfl, HO.out.at_ rfl (by simp [memPts]), HBW.out⟩
      case round =>
        obtain ⟨i, m', A'', c'', hi, rfl, rfl, ho2, hb2⟩ := hrel
        have hm' : m' ≤ 1024 := by
          rw [← ho2.len, List.length_append, pts_length, memPts_length, List.length_take]
          have : min k ids.length * p ≤ 15 * 64 := Nat.mul_le_mul (by omega) (by omega)
          omega
        have HO2 := hid_ ho2
        have HB2 := hid_ hb2
        have hsz2 := hb2.size
        clear ho2 hb2
        by_cases hip : i < p
        · go_wp2_with (first | (go_at_call 77; (with_reducible refine Calls.mono (at_any x i (by omega) _) ?_); rintro e w' ⟨rfl, rfl⟩) | (at_builtin; refine Enc.wpList_rows (E := ptE) (e := 107) rfl (.tmp 34) (.tmp 40) 56 rfl _ 16 Try.underlying56 info_pt rfl w.heap.size A'' m' c'' _ rfl (HO2.out.later ((Below.refl _ _).alloc (Nat.le_refl _) _)) (some ⟨wr.heap.size, 0, none⟩) 1 1 [⟨atN x i, x⟩] rfl (pt_new _ _ _ _) (m' + 1) _ rfl rfl (by omega) (by omega) (by simp only [World.size_alloc]; omega) ?_; intro A3 c3 w3 ho3 hb3 _ _; have HO3 := hid_ ho3; have HB3 := hid_ ((HB2.out.alloc hsz2 _).trans hb3); clear ho3 hb3) | fail)
          go_roundw
          case rel => exact ⟨i + 1, m' + 1, A3, c3, by omega, by go_num, rfl, HO3.out.at_ rfl (by rw [memPts_snoc, List.append_assoc]), HB3.out⟩
          case measure => simp [intOf]; omega
        · obtain rfl : i = p := by omega
          go_wp2_with fail
          go_roundw
          case rel => exact ⟨k + 1, m', A'', c'', by omega, by go_num, rfl, HO2.out.at_ rfl HPS.out.symm, HB2.out⟩
          case measure => simp [intOf]; omega
    · obtain rfl : k = n := by omega
      go_wp2_with fail
      have HT := hid_ (show ids.take k = ids from List.take_of_length_le (by omega))
      have hm : m ≤ 1024 := by
        rw [← HO.out.len, pts_length, List.length_take]
        have : min k ids.length * p ≤ 16 * 64 := Nat.mul_le_mul (by omega) (by omega)
        omega
      refine Calls.mono (sortpts_any w.heap.size A' m c' _ wr HO.out hsz (by omega)) ?_
      rintro e w2 ⟨rfl, r, hperm, hsorted, hrow, hb2⟩
      rw [HT.out] at hperm
      have Hend := hid_ (show MakePost w.heap.size w ids p (.returned (.tuple #[.slice A' m c', .int .i64 0])) w2 from ⟨A', m, c', r, rfl, hrow, hsorted, hperm, HBW.out.trans hb2⟩)
      clear hperm hsorted hrow hb2 HBW HO HT
      go_wp2_with fail
      go_ret2
      exact Hend.out
end Rg
end Go.Proofs.Ytgmeggilojcoeaa
