/-
  What Show answers of rules.
-/
import Derived.Test.YtlkpofhfkhdheaaGreatDoorRightAll
import Derived.Test.YtlkpofhfkhdheaaGreatDoorParseAll
import Derived.Test.YtlkpofhfkhdheaaGreatDoorCells
namespace Go.Proofs.YtlkpofhfkhdheaaGreatDoor
open Go.RowKit Ru

theorem join_lib : ∀ ls : List ByteArray, (joinS ls).data.toList = Lib.join (ls.map (·.data.toList)) [10]
  | [] => rfl
  | [x] => (Lib.join_one _ _).symm
  | x :: y :: r => by
    have ih := join_lib (y :: r)
    show (x ++ (⟨#[10]⟩ ++ joinS (y :: r))).data.toList = _
    rw [ba_append, ba_append, ih, List.map_cons, List.map_cons, Lib.join_cons, Lib.join_cons]
    simp [Lib.joinTail]
theorem line_size {r : RuleD} (h1 : r.what.size ≤ 200) (h2 : r.text.size ≤ 200) (h3 : r.num < 18446744073709551616) : (lineS r).size ≤ 500 := by
  have hd := digits_size r.num h3
  have hv : (verbS r.keep).size = 5 := by unfold verbS; split <;> rfl
  unfold lineS lineN
  split
  · simp only [ByteArray.size_append, hv]
    have : (⟨#[32]⟩ : ByteArray).size = 1 := rfl
    omega
  · split
    · simp only [ByteArray.size_append, hv]
      have : (⟨#[32]⟩ : ByteArray).size = 1 := rfl
      omega
    · simp only [ByteArray.size_append, hv]
      omega
theorem join_size : ∀ ls : List ByteArray, (∀ x ∈ ls, x.size ≤ 500) → (joinS ls).size ≤ ls.length * 501
  | [], _ => Nat.le_refl _
  | [x], h => by
    have := h x (by simp)
    show x.size ≤ 1 * 501
    omega
  | x :: y :: r, h => by
    have ih := join_size (y :: r) fun z hz => h z (by simp [hz])
    have := h x (by simp)
    show (x ++ (⟨#[10]⟩ ++ joinS (y :: r))).size ≤ _
    simp only [ByteArray.size_append]
    have h1 : (⟨#[10]⟩ : ByteArray).size = 1 := rfl
    simp only [List.length_cons] at ih ⊢
    omega
/-- Show's kind, and its text. -/
def showK (rs : List RuleD) : Int := if rightK rs = 0 then if 2048 < (textS rs).size then 4 else 0 else rightK rs
def showT (rs : List RuleD) : ByteArray := if rightK rs = 0 then if 2048 < (textS rs).size then ⟨#[]⟩ else textS rs else ⟨#[]⟩
def ShowPost (w : World) (rs : List RuleD) (e : Ending) (w' : World) : Prop := e = .returned (.tuple #[.string (showT rs), .int .i64 (showK rs)]) ∧ Below w.heap.size w w'
theorem showPost_mk {w w' : World} {rs : List RuleD} {s : ByteArray} {k : Int} (h1 : showT rs = s) (h2 : showK rs = k) (hb : Below w.heap.size w w') : ShowPost w rs (.returned (.tuple #[.string s, .int .i64 k])) w' := ⟨by rw [h1, h2], hb⟩
theorem show_bad {rs : List RuleD} (h : rightK rs ≠ 0) : showT rs = ⟨#[]⟩ ∧ showK rs = rightK rs := by
  unfold showT showK
  rw [if_neg h, if_neg h]
  exact ⟨rfl, rfl⟩
theorem show_long {rs : List RuleD} (h : rightK rs = 0) (h2 : 2048 < (textS rs).size) : showT rs = ⟨#[]⟩ ∧ showK rs = 4 := by
  unfold showT showK
  rw [if_pos h, if_pos h, if_pos h2, if_pos h2]
  exact ⟨rfl, rfl⟩
theorem show_good {rs : List RuleD} (h : rightK rs = 0) (h2 : ¬ 2048 < (textS rs).size) : showT rs = textS rs ∧ showK rs = 0 := by
  unfold showT showK
  rw [if_pos h, if_pos h, if_neg h2, if_neg h2]
  exact ⟨rfl, rfl⟩
theorem right_len {rs : List RuleD} (h : rightK rs = 0) : rs.length ≤ 16 ∧ rs.all ruleOk = true := by
  unfold rightK at h
  split at h
  · simp at h
  · split at h
    · exact ⟨by omega, by assumption⟩
    · simp at h
/-- The lines as values. -/
def lineVals (rs : List RuleD) : List Value := rs.map fun r => .string (lineS r)
theorem info_str : (Tryz.prog.info? 9).map (fun i => (i.zero, i.size, i.bytes)) = some (some (.string ⟨#[]⟩), 1, 16) := by kernel_rfl

set_option maxRecDepth 20000 in
set_option maxHeartbeats 4000000 in
theorem polshow_any (A : Option Addr) (n c : Nat) (rs : List RuleD) (w : World) (hs : RuleRow w A n c rs) (hwf : ∀ r ∈ rs, r.Wf) (hsm : ∀ r ∈ rs, r.text.size ≤ 200 ∧ r.what.size ≤ 200) (htab : PowsB w) :
    Calls Tryz.prog 7 #[.slice A n c] w (ShowPost w rs) := by
  have Hr := hid_ (polright_any A n c rs w hs hwf)
  obtain rfl := hs.len
  have hle := hs.cap
  have hmx := hs.max
  by_cases hk : rightK rs = 0
  · have Hlong := hid_ (show_long hk)
    have Hgood := hid_ (show_good hk)
    obtain ⟨h16, -⟩ := right_len hk
    have hjs := join_size (rs.map lineS) (fun x hx => by
      obtain ⟨r, hr, rfl⟩ := List.mem_map.1 hx
      exact line_size (hsm r hr).2 (hsm r hr).1 (hwf r hr).num)
    rw [List.length_map] at hjs
    have htx : (textS rs).size ≤ 16 * 501 := by
      have : (textS rs).size = (joinS (rs.map lineS)).size := rfl
      omega
    have Hs := hid_ hs
    have Hc := hid_ (fun (W : World) (hb : Below w.heap.size w W) r (h : r ∈ rs) => show_any r W (hwf r h) (by have := (hsm r h).2; omega) (by have := (hsm r h).1; omega) (htab.later hb))
    have Hjn := hid_ (fun (bk o c : Nat) (W : World) hc hb hcap => Sh.strings_Join bk o c (rs.map lineS) ⟨#[10]⟩ W hc hb (by rw [List.length_map]; omega) hcap (by
      have e := join_lib (rs.map lineS)
      show (Lib.join ((rs.map lineS).map (·.data.toList)) [10]).length ≤ _
      rw [← e]
      have : (joinS (rs.map lineS)).data.toList.length = (joinS (rs.map lineS)).size := by simp
      omega))
    rw [show (⟨(Lib.join ((rs.map lineS).map (·.data.toList)) (⟨#[10]⟩ : ByteArray).data.toList).toArray⟩ : ByteArray) = textS rs from ba_ext (join_lib (rs.map lineS)).symm, List.length_map] at Hjn
    rw [hk] at Hr
    clear hs hwf hsm htab hjs hk
    go_enter Tryz.func7, Tryz.ntmps7
    go_wp2_with fail
    refine Calls.mono Hr.out ?_
    rintro e w1 ⟨rfl, hb1⟩
    have Hb1 := hid_ hb1
    clear hb1
    go_wp2_with fail
    go_loopw [5, 16] (fun vo vi wr => ∃ (k : Nat) (A : Option Addr) (c : Nat), k ≤ rs.length ∧ vo = .slice A k c ∧ vi = .int .i64 (k : Nat) ∧ Hid (OwnV 9 w.heap.size wr A k c (lineVals (rs.take k))) ∧ Hid (Below w.heap.size w wr)) (fun _ vi _ => rs.length - (intOf vi).toNat)
    case atStart => exact ⟨0, none, 0, Nat.zero_le _, rfl, rfl, hid_ (OwnV.none _ _ _), Hb1⟩
    case round =>
      obtain ⟨k, A, c, hk, rfl, rfl, Ho, Hw⟩ := hrel
      by_cases hlt : k < rs.length
      · obtain ⟨b, off, rfl, hc⟩ := (Hs.out.below Hw.out).at_ hlt
        obtain ⟨c0, c1, c2, c3⟩ := hc
        have hbl : b < wr.heap.size := lt_of_cell c0
        have Htk := hid_ (show lineVals (rs.take k) ++ [.string (lineS rs[k])] = lineVals (rs.take (k + 1)) by
          rw [List.take_succ_eq_append_getElem hlt]
          unfold lineVals
          rw [List.map_append]
          rfl)
        have Hck := hid_ (fun W hb => Hc.out W hb rs[k] (List.getElem_mem hlt))
        generalize hr : rs[k] = r at *
        clear hr
        have x1 : (k : Int) < (rs.length : Int) := by omega
        have x2 : (0 : Int) ≤ (k : Int) := by omega
        go_wp2_with fail
        refine Calls.mono (Hck.out _ (Hw.out.alloc Hw.out.size _)) ?_
        rintro e w2 ⟨rfl, hb2⟩
        have Hw2 := hid_ (show Below w.heap.size w w2 from (Hw.out.alloc Hw.out.size _).trans (hb2.mono (Hw.out.alloc Hw.out.size _).size))
        have Ho2 := hid_ ((Ho.out.later ((Below.refl _ _).alloc (Nat.le_refl _) _)).later hb2)
        clear hb2 c0 c1 c2 c3
        go_wp2_with (at_builtin; refine wpList_one rfl (.tmp 20) (.tmp 23) 48 9 rfl (.string ⟨#[]⟩) 16 Tryz.underlying48 info_str rfl w.heap.size A k c _ rfl (Ho2.out.later ((Below.refl _ _).alloc (Nat.le_refl _) _)) w2.heap.size _ rfl (at_new _ _ _) rfl (k + 1) _ rfl Htk.out (by omega) (by omega) (by have := Hw2.out.size; simp; omega) ?_; intro A4 c4 w4 ho' hb' hg' hat'; have Ho4 := hid_ ho'; have Hb4 := hid_ ((Hw2.out.alloc Hw2.out.size _).trans hb'); clear ho' hb' hg' hat')
        go_roundw
        case rel => exact ⟨k + 1, A4, c4, by omega, rfl, by go_num, Ho4, Hb4⟩
        case measure => simp [intOf] <;> omega
      · obtain rfl : k = rs.length := by omega
        have ho := Ho.out
        rw [List.take_length] at ho
        have hcA := ho.row.cap
        have hcM := ho.row.max
        by_cases h0 : rs.length = 0
        · have hnil : rs = [] := List.length_eq_zero_iff.1 h0
          have Ht := hid_ (Hgood.out (by rw [hnil]; decide))
          have Htx := hid_ (show textS rs = ⟨#[]⟩ by rw [hnil]; rfl)
          clear ho Hgood Hlong htx hnil
          generalize hL : rs.length = L at *
          subst h0
          go_wp2_with fail
          refine Calls.mono (Sh.strings_Join_none A c ⟨#[10]⟩ _) ?_
          rintro e w2 ⟨rfl, rfl⟩
          go_wp2_with fail
          go_ret2
          exact showPost_mk (by rw [Ht.out.1, Htx.out]) Ht.out.2 Hw.out
        · obtain ⟨g, eA, hg1, hg2⟩ : ∃ g, A = some ⟨g, 0, .none⟩ ∧ w.heap.size ≤ g ∧ g < wr.heap.size := by
            obtain ⟨hx, ⟨e', _⟩ | ⟨g, cap, cur, e', hg, hh, _⟩⟩ := ho
            · injection e' with a b c
              omega
            · injection e' with a b c
              exact ⟨g, a, hg, (Array.getElem?_eq_some_iff.1 hh).1⟩
          subst eA
          have hcells : ∀ (j : Nat) (x : ByteArray), (rs.map lineS)[j]? = some x → wr.cell? ⟨g, 0 + j, .none⟩ = some (.string x) := by
            intro j x hx
            obtain ⟨b, off, e, hc⟩ := ho.row.holds (fun e => h0 (by have h := congrArg List.length e; unfold lineVals at h; rw [List.length_map] at h; exact h))
            injection e with e
            injection e with e1 e2
            subst e1 e2
            refine hc j _ ?_
            simp only [lineVals, List.getElem?_map] at hx ⊢
            cases hr : rs[j]? with
            | none => rw [hr] at hx; cases hx
            | some r => rw [hr] at hx; cases hx; rfl
          have Hj := hid_ (Hjn.out g 0 c wr hcells hg2 hcA)
          clear ho hcells Hjn
          by_cases hlg : 2048 < (textS rs).size
          · have Hk := hid_ (Hlong.out hlg)
            have e1 : decide ((2048 : Int) < ((textS rs).size : Int)) = true := decide_eq_true (by omega)
            generalize textS rs = tx at *
            go_wp2_with fail
            refine Calls.mono Hj.out ?_
            rintro e w2 ⟨rfl, hb2⟩
            have Hw2 := hid_ (Hw.out.trans (hb2.mono Hw.out.size))
            clear hb2
            go_wp2_with fail
            go_ret2
            exact showPost_mk Hk.out.1 Hk.out.2 Hw2.out
          · have Hk := hid_ (Hgood.out hlg)
            have e1 : decide ((2048 : Int) < ((textS rs).size : Int)) = false := decide_eq_false (by omega)
            generalize textS rs = tx at *
            go_wp2_with fail
            refine Calls.mono Hj.out ?_
            rintro e w2 ⟨rfl, hb2⟩
            have Hw2 := hid_ (Hw.out.trans (hb2.mono Hw.out.size))
            clear hb2
            go_wp2_with fail
            go_ret2
            exact showPost_mk Hk.out.1 Hk.out.2 Hw2.out
  · have Hk := hid_ (show_bad hk)
    have hkb : (rightK rs != 0) = true := by rw [bne_iff_ne]; exact hk
    generalize rightK rs = kk at *
    clear hs hwf hsm htab hk
    go_enter Tryz.func7, Tryz.ntmps7
    go_wp2_with fail
    refine Calls.mono Hr.out ?_
    rintro e w1 ⟨rfl, hb1⟩
    have Hb1 := hid_ hb1
    clear hb1
    go_wp2_with fail
    go_ret2
    exact showPost_mk Hk.out.1 Hk.out.2 Hb1.out
end Go.Proofs.YtlkpofhfkhdheaaGreatDoor
