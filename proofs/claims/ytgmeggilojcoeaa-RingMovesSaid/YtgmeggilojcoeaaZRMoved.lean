/-
  The arcs that move between two rings.
-/
import Derived.Test.YtgmeggilojcoeaaZGRD
import Derived.Test.YtgmeggilojcoeaaZRJoin
namespace Go.Proofs.Ytgmeggilojcoeaa
set_option linter.unusedSimpArgs false
set_option linter.unusedVariables false
open Go.RowKit
namespace Rg
set_option linter.unusedSimpArgs false
set_option linter.unusedVariables false
/-- Where the piece begins that ends at place k. -/
def fromF (M : Nat) (l : List Nat) (k : Nat) : Nat := if k = 0 then 0 else (l[k - 1]! + 1) % M
theorem moved_step {M : Nat} {oa ob : Nat → Nat} {l : List Nat} {k : Nat} (hk : k < l.length) (acc : List ArcD) :
    movedF M oa ob (fromF M l k) (l.drop k) acc = movedF M oa ob (fromF M l (k + 1)) (l.drop (k + 1)) (if oa l[k] = ob l[k] then acc else joinF M acc ⟨fromF M l k, l[k], oa l[k], ob l[k]⟩) := by
  have e : fromF M l (k + 1) = (l[k] + 1) % M := by
    unfold fromF
    rw [if_neg (by omega), Nat.add_sub_cancel, getElem!_pos l k hk]
  rw [List.drop_eq_getElem_cons hk, e]
  rfl
theorem joinF_length (M : Nat) (l : List ArcD) (x : ArcD) : (joinF M l x).length ≤ l.length + 1 := by
  rcases joinF_cases M l x with e | ⟨l0, y, e0, _, e⟩
  · rw [e]; simp
  · rw [e, e0]; simp
theorem joinF_ne (M : Nat) (l : List ArcD) (x : ArcD) : joinF M l x ≠ [] := by
  rcases joinF_cases M l x with e | ⟨l0, y, e0, _, e⟩ <;> rw [e] <;> simp
/-- What Moved answers. -/
def MovedPost (w : World) (a b : List PtD) (e : Ending) (w' : World) : Prop :=
  ∃ (l : List Nat) (r : List ArcD) (A : Option Addr) (n c : Nat), e = .returned (.slice A n c) ∧ arcE.Row w' A n c r ∧ Below w.heap.size w w' ∧ Ends 18446744073709551616 a b l ∧ movedF 18446744073709551616 (ownF a) (ownF b) 0 l [] = r ∧ (r = [] → A = none ∧ n = 0 ∧ c = 0)
theorem movedPost_mk {w w' : World} {a b : List PtD} {l : List Nat} {r : List ArcD} {A : Option Addr} {n c : Nat} (hr : arcE.Row w' A n c r) (hb : Below w.heap.size w w') (hl : Ends 18446744073709551616 a b l) (h : movedF 18446744073709551616 (ownF a) (ownF b) 0 l [] = r) (hz : r = [] → A = none ∧ c = 0) :
    MovedPost w a b (.returned (.slice A n c)) w' := ⟨l, r, A, n, c, rfl, hr, hb, hl, h, fun e => ⟨(hz e).1, by rw [← hr.len, e]; rfl, (hz e).2⟩⟩
set_option maxRecDepth 20000 in
set_option maxHeartbeats 4000000 in
theorem moved_any (A A' : Option Addr) (n n' c c' : Nat) (a b : List PtD) (w : World) (h1 : ptE.Row w A n c a) (h2 : ptE.Row w A' n' c' b) (hn : n ≤ 1000) (hn' : n' ≤ 1000) (sa : Sorted a) (sb : Sorted b) :
    Calls Try.prog 31 #[.slice A n c, .slice A' n' c'] w (MovedPost w a b) := by
  have Hp := hid_ (pieces_any A A' n n' c c' a b w h1 h2 hn hn')
  have Hoa := hid_ (fun (W : World) (hb : Below w.heap.size w W) (t : Nat) => owner_any A n c a t W (h1.below hb) sa (by omega))
  have Hob := hid_ (fun (W : World) (hb : Below w.heap.size w W) (t : Nat) => owner_any A' n' c' b t W (h2.below hb) sb (by omega))
  clear h1 h2 sa sb
  go_enter Try.func31, Try.ntmps31
  go_wp2_with fail
  refine Calls.mono Hp.out ?_
  rintro e w1 ⟨l, Al, m, cl, rfl, hrow, hb, hE, hm⟩
  have HRow := hid_ hrow
  have HB1 := hid_ hb
  have HE := hid_ hE
  have HLm := hid_ hrow.len
  have hle := hrow.le
  have Hfin := hid_ (fun (w' : World) (r : List ArcD) (A : Option Addr) (n c : Nat) => movedPost_mk (w := w) (w' := w') (a := a) (b := b) (l := l) (r := r) (A := A) (n := n) (c := c))
  have hsz1 := hb.size
  clear hrow hb hE Hp
  generalize ownF a = oa at *
  generalize ownF b = ob at *
  obtain ⟨M, hM⟩ : ∃ M, M = 18446744073709551616 := ⟨_, rfl⟩
  have Hjoin := hid_ (fun (Aj : Option Addr) (nj cj : Nat) (acc : List ArcD) (x1 x2 x3 x4 : Nat) (W : World) (h : OwnA w1.heap.size W Aj nj cj acc) (hB : w1.heap.size ≤ W.heap.size) (hnj : nj ≤ 10000) =>
    show Calls Try.prog 63 #[.slice Aj nj cj, .agg #[.int .u64 (x1 : Nat), .int .u64 (x2 : Nat), .int .u64 (x3 : Nat), .int .u64 (x4 : Nat)]] W (JoinPost w1.heap.size W (joinF M acc ⟨x1, x2, x3, x4⟩)) by rw [hM]; exact join_any w1.heap.size Aj nj cj acc ⟨x1, x2, x3, x4⟩ W h hB hnj)
  have Hwn := hid_ (fun x : Nat => show IntKind.u64.wrap ((x : Int) + 1) = (((x + 1) % M : Nat) : Int) by rw [hM]; exact wrap_next x)
  have HR0 := hid_ (show movedF M oa ob (fromF M l 0) (l.drop 0) [] = movedF M oa ob 0 l [] from rfl)
  rw [← hM] at Hfin HE
  obtain ⟨R, hR⟩ : ∃ R, R = movedF M oa ob 0 l [] := ⟨_, rfl⟩
  rw [← hR] at HR0 Hfin
  clear hR hM
  go_wp2_with fail
  go_loopw [5, 17] (fun vo vi wr => ∃ (k m5 : Nat) (A5 : Option Addr) (c5 : Nat) (acc : List ArcD), k ≤ m ∧ vi = .int .i64 (k : Nat) ∧ vo = .slice A5 m5 c5 ∧ m5 ≤ k ∧ Hid (OwnA w1.heap.size wr A5 m5 c5 acc) ∧ Hid (Below w1.heap.size w1 wr) ∧ Hid (movedF M oa ob (fromF M l k) (l.drop k) acc = R) ∧ Hid (acc = [] → A5 = none ∧ c5 = 0)) (fun _ vi _ => m - (intOf vi).toNat)
  case atStart => exact ⟨0, 0, none, 0, [], Nat.zero_le _, rfl, rfl, Nat.le_refl _, hid_ (Enc.Own.none _ _), hid_ (Below.refl _ _), HR0, hid_ (fun _ => ⟨rfl, rfl⟩)⟩
  case round =>
    obtain ⟨k, m5, A5, c5, acc, hk, rfl, rfl, hmk, HO, HB, HR, HZ⟩ := hrel
    have hszr := HB.out.size
    by_cases hlt : k < m
    · have hkl : k < l.length := by rw [HLm.out]; exact hlt
      obtain ⟨bq, off, rfl, hbl, hc⟩ := num_at (HRow.out.below HB.out) hkl
      have HS := hid_ (moved_step (M := M) (oa := oa) (ob := ob) hkl acc)
      have hx1 : (k : Int) < (m : Int) := by omega
      have hx2 : (0 : Int) ≤ (k : Int) := by omega
      have HK := hid_ hlt
      generalize ht : l[k] = t at *
      rcases Nat.eq_zero_or_pos k with hk0 | hkp
      · subst hk0
        have e0 : decide ((0 : Int) > 0) = false := by decide
        have e0' : decide ((0 : Int) < 0) = false := by decide
        have hf0 : fromF M l 0 = 0 := rfl
        rw [hf0] at HS HR
        rw [Nat.add_zero] at hc
        have k4 : ((0 : Nat) : Int) = 0 := rfl
        simp only [k4] at *
        clear hlt ht hkl
        go_wp2_with fail
        refine Calls.mono (Hoa.out wr (HB1.out.trans (HB.out.mono hsz1)) t) ?_
        rintro e w3 ⟨rfl, hb3⟩
        have HB3 := hid_ (HB.out.trans (hb3.mono hszr))
        have HO3 := hid_ (HO.out.later hb3)
        have hsz3 := HB3.out.size
        clear hb3
        go_wp2_with fail
        refine Calls.mono (Hob.out w3 (HB1.out.trans (HB3.out.mono hsz1)) t) ?_
        rintro e w4 ⟨rfl, hb4⟩
        have HB4 := hid_ (HB3.out.trans (hb4.mono hsz3))
        have HO4 := hid_ (HO3.out.later hb4)
        have hsz4 := HB4.out.size
        clear hb4
        generalize oa t = p at *
        generalize ob t = q at *
        by_cases hpq : p = q
        · have e1 : ((p : Int) != (q : Int)) = false := by simp [hpq]
          have e1' : (p != q) = false := by simp [hpq]
          have HS2 := hid_ (show movedF M oa ob (fromF M l (0 + 1)) (l.drop (0 + 1)) acc = R by rw [← HR.out, HS.out, if_pos hpq])
          have HQ := hid_ hpq
          clear hpq
          go_wp2_with fail
          go_roundw
          case rel => exact ⟨0 + 1, m5, A5, c5, acc, by have := HK.out; omega, by go_num, rfl, by omega, HO4, HB4, HS2, HZ⟩
          case measure => have := HK.out; simp [intOf]; omega
        · have e1 : ((p : Int) != (q : Int)) = true := by simp; omega
          have e1' : (p != q) = true := by simp; omega
          have HS2 := hid_ (show movedF M oa ob (fromF M l (0 + 1)) (l.drop (0 + 1)) (joinF M acc ⟨0, t, p, q⟩) = R by rw [← HR.out, HS.out, if_neg hpq])
          have HJl := hid_ (joinF_length M acc ⟨0, t, p, q⟩)
          have HNe := hid_ (joinF_ne M acc ⟨0, t, p, q⟩)
          have Hal := hid_ HO4.out.len
          have HQ := hid_ hpq
          have Hj := hid_ (Hjoin.out A5 m5 c5 acc 0 t p q w4 HO4.out hsz4 (by omega))
          generalize joinF M acc ⟨0, t, p, q⟩ = acc' at *
          clear hpq
          go_wp2_with fail
          (with_reducible refine Calls.mono Hj.out ?_)
          rintro e w5 ⟨A6, n6, c6, rfl, ho6, hn6, hb6⟩
          have HO6 := hid_ ho6
          have HB6 := hid_ (HB4.out.trans hb6)
          have hn7 : n6 ≤ 0 + 1 := by have := HJl.out; have := Hal.out; omega
          clear ho6 hb6 hn6
          go_wp2_with fail
          go_roundw
          case rel => exact ⟨0 + 1, n6, A6, c6, acc', by have := HK.out; omega, by go_num, rfl, hn7, HO6, HB6, HS2, hid_ (fun e => absurd e HNe.out)⟩
          case measure => have := HK.out; simp [intOf]; omega
      · have hkl1 : k - 1 < l.length := by omega
        obtain ⟨bq', off', he, -, hc1⟩ := num_at (HRow.out.below HB.out) hkl1
        injection he with he
        injection he with he1 he2
        subst he1 he2
        have hfk : fromF M l k = (l[k - 1] + 1) % M := by
          unfold fromF
          rw [if_neg (by omega), getElem!_pos l (k - 1) hkl1]
        have hwn := Hwn.out l[k - 1]
        rw [hfk] at HS HR
        generalize l[k - 1] = u at *
        generalize (u + 1) % M = f at *
        obtain ⟨j, rfl⟩ : ∃ j, k = j + 1 := ⟨k - 1, by omega⟩
        rw [Nat.add_sub_cancel] at hc1
        have e0 : decide (((j + 1 : Nat) : Int) > 0) = true := decide_eq_true (by omega)
        have e5 : ((j + 1 : Nat) : Int) - 1 = (j : Int) := by omega
        clear hlt ht hkl hkl1
        go_wp2_with fail
        refine Calls.mono (Hoa.out wr (HB1.out.trans (HB.out.mono hsz1)) t) ?_
        rintro e w3 ⟨rfl, hb3⟩
        have HB3 := hid_ (HB.out.trans (hb3.mono hszr))
        have HO3 := hid_ (HO.out.later hb3)
        have hsz3 := HB3.out.size
        clear hb3
        go_wp2_with fail
        refine Calls.mono (Hob.out w3 (HB1.out.trans (HB3.out.mono hsz1)) t) ?_
        rintro e w4 ⟨rfl, hb4⟩
        have HB4 := hid_ (HB3.out.trans (hb4.mono hsz3))
        have HO4 := hid_ (HO3.out.later hb4)
        have hsz4 := HB4.out.size
        clear hb4
        generalize oa t = p at *
        generalize ob t = q at *
        by_cases hpq : p = q
        · have e1 : ((p : Int) != (q : Int)) = false := by simp [hpq]
          have e1' : (p != q) = false := by simp [hpq]
          have HS2 := hid_ (show movedF M oa ob (fromF M l ((j + 1) + 1)) (l.drop ((j + 1) + 1)) acc = R by rw [← HR.out, HS.out, if_pos hpq])
          have HQ := hid_ hpq
          clear hpq
          go_wp2_with fail
          go_roundw
          case rel => exact ⟨(j + 1) + 1, m5, A5, c5, acc, by have := HK.out; omega, by go_num, rfl, by omega, HO4, HB4, HS2, HZ⟩
          case measure => have := HK.out; simp [intOf]; omega
        · have e1 : ((p : Int) != (q : Int)) = true := by simp; omega
          have e1' : (p != q) = true := by simp; omega
          have HS2 := hid_ (show movedF M oa ob (fromF M l ((j + 1) + 1)) (l.drop ((j + 1) + 1)) (joinF M acc ⟨f, t, p, q⟩) = R by rw [← HR.out, HS.out, if_neg hpq])
          have HJl := hid_ (joinF_length M acc ⟨f, t, p, q⟩)
          have HNe := hid_ (joinF_ne M acc ⟨f, t, p, q⟩)
          have Hal := hid_ HO4.out.len
          have HQ := hid_ hpq
          have Hj := hid_ (Hjoin.out A5 m5 c5 acc f t p q w4 HO4.out hsz4 (by omega))
          generalize joinF M acc ⟨f, t, p, q⟩ = acc' at *
          clear hpq
          go_wp2_with fail
          (with_reducible refine Calls.mono Hj.out ?_)
          rintro e w5 ⟨A6, n6, c6, rfl, ho6, hn6, hb6⟩
          have HO6 := hid_ ho6
          have HB6 := hid_ (HB4.out.trans hb6)
          have hn7 : n6 ≤ (j + 1) + 1 := by have := HJl.out; have := Hal.out; omega
          clear ho6 hb6 hn6
          go_wp2_with fail
          go_roundw
          case rel => exact ⟨(j + 1) + 1, n6, A6, c6, acc', by have := HK.out; omega, by go_num, rfl, hn7, HO6, HB6, HS2, hid_ (fun e => absurd e HNe.out)⟩
          case measure => have := HK.out; simp [intOf]; omega
    · obtain rfl : k = m := by omega
      have HF := hid_ (Hfin.out wr R A5 m5 c5 (by
        have h2 := HR.out
        rw [List.drop_eq_nil_of_le (by rw [HLm.out]; exact Nat.le_refl _)] at h2
        have h3 : acc = R := h2
        rw [← h3]
        exact HO.out.row) (HB1.out.trans (HB.out.mono hsz1)) HE.out rfl (by
        have h2 := HR.out
        rw [List.drop_eq_nil_of_le (by rw [HLm.out]; exact Nat.le_refl _)] at h2
        have h3 : acc = R := h2
        rw [← h3]
        exact HZ.out))
      go_wp2_with fail
      go_ret
      exact HF.out
end Rg
end Go.Proofs.Ytgmeggilojcoeaa
