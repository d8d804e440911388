/-
  Contracts of the library's functions at this program: what the shelf's own theorems ask of it; laid by the guide's program.
-/
import Derived.Test.YtgmeggilojcoeaaZGRC
import Derived.Shelf.SlSorted.Search
import Derived.Test.YtgmeggilojcoeaaProg
namespace Go.Proofs.Ytgmeggilojcoeaa
set_option linter.unusedSimpArgs false
set_option linter.unusedVariables false
open Go.Shelf Go.Proofs
def Sh.search_ren : Go.Shelf.Ren := ⟨fun | 16 => 86 | n => n, fun | 3 => 3 | 35 => 134 | 4 => 4 | 38 => 142 | n => n, fun | n => n⟩
theorem Sh.search : Go.Proofs.SlLaysO.n16 Try.prog Sh.search_ren := {
  mixed := by kernel_rfl
  f16 := Try.func86.trans (congrArg some (by kernel_rfl))
  t3 := Try.underlying3
  a3 := Try.isAgg3
  z3 := Try.sizeOf3
  v3 := Try.zeroValue3
  t4 := Try.underlying4
  a4 := Try.isAgg4
  z4 := Try.sizeOf4
  v4 := Try.zeroValue4
  t35 := Try.underlying134
  a35 := Try.isAgg134
  z35 := Try.sizeOf134
  v35 := Try.zeroValue134
  t38 := Try.underlying142
  a38 := Try.isAgg142
  z38 := Try.sizeOf142
  v38 := Try.zeroValue142 }
end Go.Proofs.Ytgmeggilojcoeaa

/-
  Whose a number is on a ring.
-/
namespace Go.Proofs.Ytgmeggilojcoeaa
set_option linter.unusedSimpArgs false
set_option linter.unusedVariables false
open Go.RowKit
namespace Rg
set_option linter.unusedSimpArgs false
set_option linter.unusedVariables false
/-- How many points stand ahead of the number. -/
def ahead (r : List PtD) (h : Nat) : Nat := (List.range r.length).countP fun i => !decide (h ≤ (r[i]!).pos)
theorem ahead_eq (r : List PtD) (h : Nat) : ahead r h = r.countP fun p => !decide (h ≤ p.pos) := by
  have e : r = (List.range r.length).map fun i => r[i]! := by
    apply List.ext_getElem
    · simp
    · intro i h1 h2
      simp only [List.getElem_map, List.getElem_range]
      rw [getElem!_pos r i h1]
  conv => rhs; rw [e]
  rw [List.countP_map]
  rfl
theorem own_ahead {r : List PtD} (hs : Sorted r) (hne : 0 < r.length) (h : Nat) : ∃ hx : ahead r h % r.length < r.length, ownF r h = (r[ahead r h % r.length]'hx).id := by
  refine ⟨Nat.mod_lt _ hne, ?_⟩
  have ha := ahead_eq r h
  rcases hf : r.find? (fun p => decide (h ≤ p.pos)) with _ | p
  · have hall : r.countP (fun p => !decide (h ≤ p.pos)) = r.length := by
      rw [List.countP_eq_length]
      intro q hq
      have := List.find?_eq_none.1 hf q hq
      simpa using this
    have e0 : ahead r h % r.length = 0 := by rw [ha, hall, Nat.mod_self]
    unfold ownF
    rw [hf]
    obtain ⟨p, t, rfl⟩ := List.exists_cons_of_ne_nil (List.length_pos_iff.1 hne)
    simp only [e0]
    rfl
  · obtain ⟨h1, l1, l2, rfl, h2⟩ := List.find?_eq_some_iff_append.1 hf
    have h1' : h ≤ p.pos := by simpa using h1
    have hc : (l1 ++ p :: l2).countP (fun p => !decide (h ≤ p.pos)) = l1.length := by
      rw [List.countP_append, List.countP_eq_length.2, List.countP_eq_zero.2]
      · omega
      · intro q hq
        have hle : h ≤ q.pos := by
          rcases List.mem_cons.1 hq with rfl | hq
          · exact h1'
          · have h3 := List.rel_of_pairwise_cons (List.pairwise_append.1 hs).2.1 hq
            unfold PtD.Le at h3
            omega
        simp [hle]
      · intro q hq
        have := h2 q hq
        simpa using this
    have hlt : l1.length < (l1 ++ p :: l2).length := by simp
    have e0 : ahead (l1 ++ p :: l2) h % (l1 ++ p :: l2).length = l1.length := by rw [ha, hc, Nat.mod_eq_of_lt hlt]
    unfold ownF
    rw [hf]
    simp only [e0]
    simp
set_option maxHeartbeats 2000000 in
/-- The closure that Search asks. -/
theorem own1_any (A : Option Addr) (n c : Nat) (r : List PtD) (h g1 g2 i : Nat) (W : World) (hr : ptE.Row W A n c r) (hi : i < n)
    (c1 : W.cell? ⟨g1, 0, none⟩ = some (.slice A n c)) (c2 : W.cell? ⟨g2, 0, none⟩ = some (.int .u64 (h : Nat))) :
    Calls Try.prog 87 #[.int .i64 (i : Nat), .pointer (some ⟨g1, 0, none⟩), .pointer (some ⟨g2, 0, none⟩)] W fun e w' => e = .returned (.bool (decide (h ≤ (r[i]!).pos))) ∧ ∃ q, w' = W.drewN q := by
  have hle := hr.le
  have hl := hr.len
  have hil : i < r.length := by rw [hl]; exact hi
  obtain ⟨b, off, rfl, hblk, hc, _⟩ := pt_at hr hil
  have hx : r[i]! = r[i] := getElem!_pos r i hil
  rw [hx]
  generalize r[i].pos = x at *
  have k1 : (0 : Int) ≤ (i : Int) := by omega
  have k2 : (i : Int) < (n : Int) := by omega
  have HR := hid_ hr
  clear hr hx
  clear hl
  by_cases hcmp : h ≤ x
  · have e1 : decide (h ≤ x) = true := decide_eq_true hcmp
    have HC := hid_ hcmp
    clear hcmp
    go_enter Try.func87, Try.ntmps87
    go_wp2
    go_quiet (fail)
    go_wp2
    go_ret
    exact ⟨by rw [decide_eq_true HC.out]; rfl, nq, rfl⟩
  · have e1 : decide (h ≤ x) = false := decide_eq_false hcmp
    have HC := hid_ hcmp
    clear hcmp
    go_enter Try.func87, Try.ntmps87
    go_wp2
    go_quiet (fail)
    go_wp2
    go_ret
    exact ⟨by rw [decide_eq_false HC.out]; rfl, nq, rfl⟩
set_option maxHeartbeats 4000000 in
theorem owner_any (A : Option Addr) (n c : Nat) (r : List PtD) (h : Nat) (w : World) (hr : ptE.Row w A n c r) (hs : Sorted r) (hn : n ≤ 1000000) :
    Calls Try.prog 62 #[.slice A n c, .int .u64 (h : Nat)] w (RetB w.heap.size w (.int .u64 (ownF r h : Nat))) := by
  have hl := hr.len
  rcases Nat.eq_zero_or_pos n with h0 | hpos
  · subst h0
    have hnil : r = [] := List.eq_nil_of_length_eq_zero hl
    subst hnil
    clear hr hs hl
    go_enter Try.func62, Try.ntmps62
    go_wp2
    go_ret
    exact retB_mk rfl (((Below.refl _ _).alloc (Nat.le_refl _) _).alloc (by simp) _)
  · obtain ⟨hx, ho⟩ := own_ahead hs (by omega) h
    have e0 : ((n : Int) == 0) = false := by simp; omega
    have Hclo := hid_ (fun (W : World) (i : Nat) (hi : i < n) (hb : Below w.heap.size w W) (c1 : W.cell? ⟨w.heap.size, 0, none⟩ = some (.slice A n c)) (c2 : W.cell? ⟨w.heap.size + 1, 0, none⟩ = some (.int .u64 (h : Nat))) => own1_any A n c r h w.heap.size (w.heap.size + 1) i W (hr.below hb) hi c1 c2)
    have hcn : (List.range n).countP (fun i => !decide (h ≤ (r[i]!).pos)) = ahead r h := by unfold ahead; rw [hl]
    have hcon : ∀ (W : World), (∀ (m : Nat) (os : Array Obj) (i : Nat), i < n → Calls Try.prog 87 (#[.int .i64 (i : Nat)] ++ #[.pointer (some ⟨w.heap.size, 0, none⟩), .pointer (some ⟨w.heap.size + 1, 0, none⟩)]) (Go.Sort.grow (W.drewN m) os) fun e w' => e = .returned (.bool (decide (h ≤ (r[i]!).pos))) ∧ ∃ q os', w' = Go.Sort.grow ((Go.Sort.grow (W.drewN m) os).drewN q) os') →
        Calls Try.prog 86 #[.int .i64 (n : Nat), .func (.func 87) #[] #[.pointer (some ⟨w.heap.size, 0, none⟩), .pointer (some ⟨w.heap.size + 1, 0, none⟩)]] W fun e w' => e = .returned (.int .i64 (ahead r h : Nat)) ∧ ∃ q os, w' = Go.Sort.grow (W.drewN q) os := by
      intro W hf
      have := Any.sort_Search Sh.search 87 #[.pointer (some ⟨w.heap.size, 0, none⟩), .pointer (some ⟨w.heap.size + 1, 0, none⟩)] n (fun i => decide (h ≤ (r[i]!).pos)) W (enters_of Try.func87 (by kernel_rfl) rfl) (by omega) hf (by
        intro a b hab hb hpa
        have h1 : r[a]! = r[a]'(by omega) := getElem!_pos r a (by omega)
        have h2 : r[b]! = r[b]'(by omega) := getElem!_pos r b (by omega)
        rw [h1] at hpa
        rw [h2]
        have h3 : h ≤ (r[a]'(by omega)).pos := of_decide_eq_true hpa
        refine decide_eq_true ?_
        rcases Nat.eq_or_lt_of_le hab with rfl | hlt
        · exact h3
        · have h4 := List.pairwise_iff_getElem.1 hs a b (by omega) (by omega) hlt
          unfold PtD.Le at h4
          omega)
      rwa [hcn] at this
    have hah : ahead r h ≤ n := by
      rw [← hcn]
      have := List.countP_le_length (p := fun i => !decide (h ≤ (r[i]!).pos)) (l := List.range n)
      rwa [List.length_range] at this
    clear hcn
    generalize ahead r h = cn at *
    have Hcon := hid_ hcon
    have Ho := hid_ ho
    have HR := hid_ hr
    rw [hl] at hx
    have Hm := hid_ (show cn % r.length = cn % n by rw [hl])
    have HX := hid_ hx
    have HL := hid_ hl
    clear hl hr hcon ho hs hx
    go_enter Try.func62, Try.ntmps62
    go_wp2_with fail
    refine Calls.mono (Hcon.out _ ?_) ?_
    · intro m os i hi
      have hbW : Below (w.heap.size + 1 + 1) ((w.alloc (.cells #[.slice A n c] 56)).alloc (.cells #[.int .u64 (h : Nat)] 60)) (Go.Sort.grow (((w.alloc (.cells #[.slice A n c] 56)).alloc (.cells #[.int .u64 (h : Nat)] 60)).drewN m) os) := below_grown_sl _ _ m os (by simp)
      refine Calls.mono (Hclo.out _ i hi (((((Below.refl _ _).alloc (Nat.le_refl _) _).alloc (by simp) _).trans (hbW.mono (by omega)))) ?_ ?_) ?_
      · rw [hbW.cell (by show w.heap.size < _; omega)]
        go_simp
      · rw [hbW.cell (by show w.heap.size + 1 < _; omega)]
        go_simp
      · rintro e w' ⟨rfl, q, rfl⟩
        exact ⟨rfl, q, #[], by rw [Go.Sort.grow_empty]⟩
    · rintro e w2 ⟨rfl, q, os, rfl⟩
      have hbW : Below (w.heap.size + 1 + 1) ((w.alloc (.cells #[.slice A n c] 56)).alloc (.cells #[.int .u64 (h : Nat)] 60)) (Go.Sort.grow (((w.alloc (.cells #[.slice A n c] 56)).alloc (.cells #[.int .u64 (h : Nat)] 60)).drewN q) os) := below_grown_sl _ _ q os (by simp)
      have hbw := ((((Below.refl w.heap.size w).alloc (Nat.le_refl _) (.cells #[.slice A n c] 56)).alloc (by simp) (.cells #[.int .u64 (h : Nat)] 60)).trans (hbW.mono (by omega)))
      have c1 := (hbW.cell (p := ⟨w.heap.size, 0, none⟩) (by show w.heap.size < _; omega))
      obtain ⟨b, off, rfl, hblk, -, hc⟩ := pt_at (HR.out.below hbw) (k := cn % n) (by rw [HL.out]; exact HX.out)
      generalize Go.Sort.grow _ os = w2 at *
      have Hb := hid_ hbw
      have hid := hid_ (show ownF r h = (r[cn % n]'(by rw [HL.out]; exact HX.out)).id by rw [Ho.out]; simp only [Hm.out])
      have hmod : ((cn : Int) % (n : Int)) = ((cn % n : Nat) : Int) := by omega
      have hmod2 : (cn : Int).tmod (n : Int) = ((cn % n : Nat) : Int) := by rw [Int.tmod_eq_emod_of_nonneg (by omega), hmod]
      have hxn := HX.out
      clear hbW hbw
      generalize (r[cn % n]'(by rw [HL.out]; exact HX.out)).id = v at *
      generalize cn % n = x at *
      have k1 : (0 : Int) ≤ (x : Int) := by omega
      have k2 : (x : Int) < (n : Int) := by omega
      go_wp2_with fail
      go_quiet (fail)
      go_wp2_with fail
      go_ret
      exact retB_mk (by rw [hid.out]; rfl) (below_drewN Hb.out _)
set_option maxHeartbeats 2000000 in
theorem Owner_any (A : Option Addr) (n c : Nat) (r : List PtD) (t : Nat) (w : World) (hr : ptE.Row w A n c r) (hs : Sorted r) (hn : n ≤ 1000000) :
    Calls Try.prog 60 #[.slice A n c, .int .u64 (t : Nat)] w (RetB w.heap.size w (.int .u64 (ownF r (mixN t) : Nat))) := by
  have Hm := hid_ (mix_any t w)
  have Ho := hid_ (fun (W : World) (hb : Below w.heap.size w W) => owner_any A n c r (mixN t) W (hr.below hb) hs hn)
  generalize mixN t = h at *
  generalize ownF r h = v at *
  clear hr hs
  go_enter Try.func60, Try.ntmps60
  go_wp2_with fail
  refine Calls.mono Hm.out ?_
  rintro e w1 ⟨rfl, rfl⟩
  go_wp2_with fail
  refine Calls.mono (Ho.out _ (Below.refl _ _)) ?_
  rintro e w2 ⟨rfl, hb⟩
  have Hb := hid_ hb
  clear hb
  go_wp2_with fail
  go_ret
  exact retB_mk rfl Hb.out
end Rg
end Go.Proofs.Ytgmeggilojcoeaa

/-
  The document's 'right ids'; the chapter's example.
-/
namespace Go.Proofs.Ytgmeggilojcoeaa
set_option linter.unusedSimpArgs false
set_option linter.unusedVariables false
open Go.RowKit
namespace Rg
set_option linter.unusedSimpArgs false
set_option linter.unusedVariables false
/-- The id ahead of the place k. -/
def prevF (ids : List Nat) (k : Nat) : Nat := if k = 0 then 0 else ids[k - 1]!
theorem own_one {r : List PtD} (hs : Sorted r) {p : Nat} (hp : r.Perm (ptsOf atN [7] p)) (h1 : 0 < p) (h : Nat) : ownF r h = 7 := by
  have := own_member hs hp (by simp) h1 h
  simpa using this
theorem num_lit (w : World) (T : TypeId) : numE.Row (w.alloc (.cells #[.int .u64 7] T)) (some ⟨w.heap.size, 0, none⟩) 1 1 [7] := Enc.row_new (E := numE) w 7 _ rfl T
set_option maxHeartbeats 4000000 in
theorem alive_any (w : World) : Calls Try.prog 30 #[] w (RetB w.heap.size w (.bool true)) := by
  go_enter Try.func30, Try.ntmps30
  go_wp2_with fail
  refine Calls.mono (make_any _ 1 1 [7] 3 _ (num_lit w _) (by decide) (by omega) (by omega) (by omega)) ?_
  rintro e w1 ⟨A', N, c', r, rfl, hrow, hs, hp, hb⟩
  have hN : N = 3 := by rw [← hrow.len, hp.length_eq, pts_length]; rfl
  subst hN
  have Hb := hid_ (((Below.refl w.heap.size w).alloc (Nat.le_refl _) _).trans (hb.mono (by simp)))
  have Ho := hid_ (fun (W : World) (hw : Below w1.heap.size w1 W) => Owner_any A' 3 c' r 5 W (hrow.below hw) hs (by omega))
  have hv := own_one hs hp (by omega) (mixN 5)
  rw [hv] at Ho
  have Hn := hid_ (fun (W : World) => Owner_any none 0 0 [] 5 W (Enc.Row.none W) List.Pairwise.nil (by omega))
  rw [own_nil] at Hn
  clear hrow hs hp hb hv
  go_wp2_with fail
  refine Calls.mono (Ho.out _ (Below.refl _ _)) ?_
  rintro e w2 ⟨rfl, hb2⟩
  have Hb2 := hid_ (Hb.out.trans (hb2.mono Hb.out.size))
  clear hb2
  go_wp2_with fail
  refine Calls.mono (Hn.out _) ?_
  rintro e w3 ⟨rfl, hb3⟩
  have Hb3 := hid_ (Hb2.out.trans (hb3.mono Hb2.out.size))
  clear hb3
  go_wp2_with fail
  go_ret
  exact retB_mk rfl Hb3.out
end Rg
end Go.Proofs.Ytgmeggilojcoeaa

/-
  Numbers and rows of numbers that a law is given.
-/
namespace Go.Proofs.Ytgmeggilojcoeaa
set_option linter.unusedSimpArgs false
set_option linter.unusedVariables false
open Go.RowKit
namespace Rg
set_option linter.unusedSimpArgs false
set_option linter.unusedVariables false
theorem u64_of {n : Int} (h : (Lit.int .u64 n).wf = true) : ∃ c : Nat, n = (c : Int) ∧ c < 18446744073709551616 := by
  have h1 : 0 ≤ n ∧ n ≤ 18446744073709551615 := by simpa [Lit.wf, IntKind.min, IntKind.max, IntKind.bits, IntKind.signed] using h
  exact ⟨n.toNat, by omega, by omega⟩
theorem i64_of {n : Int} (h : (Lit.int .i64 n).wf = true) : -9223372036854775808 ≤ n ∧ n ≤ 9223372036854775807 := by
  simpa [Lit.wf, IntKind.min, IntKind.max, IntKind.bits, IntKind.signed] using h
theorem u64s_of : ∀ zs : List Int, (∀ n ∈ zs, (Lit.int .u64 n).wf = true) → ∃ l : List Nat, l.map (fun c : Nat => (c : Int)) = zs ∧ ∀ i ∈ l, i < 18446744073709551616
  | [], _ => ⟨[], rfl, by simp⟩
  | z :: zs, h => by
    obtain ⟨c, hc, hlt⟩ := u64_of (h z (by simp))
    obtain ⟨l, hl, hb⟩ := u64s_of zs (fun n hn => h n (by simp [hn]))
    refine ⟨c :: l, by simp [hc, hl], fun i hi => ?_⟩
    rcases List.mem_cons.1 hi with rfl | hi
    · exact hlt
    · exact hb i hi
theorem num_all (ids : List Nat) {k : Nat} {u : Value} (h : (numE.all ids)[k]? = some u) : ∃ hk : k < ids.length, u = .int .u64 (ids[k] : Nat) := by
  have hk : k < ids.length := by
    have := (List.getElem?_eq_some_iff.1 h).1
    rw [numE.all_length] at this
    simpa [numE] using this
  refine ⟨hk, ?_⟩
  have h1 := numE.all_get ids hk 0 (by decide)
  have h2 : (numE.cf ids[k])[0]? = some (.int .u64 (ids[k] : Nat)) := rfl
  rw [h2] at h1
  have e : k * numE.K + 0 = k := by show k * 1 + 0 = k; omega
  rw [e, h] at h1
  exact Option.some.inj h1
theorem nums_of {w : World} {a : Option Addr} {len cap : Nat} {zs : List Int}
    (h : (a = none ∧ len = 0 ∧ cap = 0 ∧ zs = []) ∨
      ∃ x, a = some x ∧ len ≤ cap ∧ cap ≤ maxLen ∧ zs.length = cap ∧ (∀ i, i < zs.length → w.cell? (x.add i) = some (.int .u64 (zs.getD i 0))) ∧ ∀ n ∈ zs, (Lit.int .u64 n).wf = true) :
    ∃ ids : List Nat, numE.Row w a len cap ids ∧ (∀ i ∈ ids, i < 18446744073709551616) ∧ (cap = 0 ∨ ∃ b off, a = some ⟨b, off, none⟩) := by
  rcases h with ⟨rfl, rfl, rfl, rfl⟩ | ⟨x, rfl, hl, hm, hz, hcell, hwz⟩
  · exact ⟨[], Enc.Row.none w, by simp, .inl rfl⟩
  · obtain ⟨l, rfl, hb⟩ := u64s_of zs hwz
    have hlen : l.length = cap := by simpa using hz
    unfold maxLen at hm
    rcases Nat.eq_zero_or_pos cap with h0 | hpos
    · subst h0
      have : l = [] := List.eq_nil_of_length_eq_zero hlen
      subst this
      obtain rfl : len = 0 := by omega
      exact ⟨[], ⟨Holds.nil _ _, rfl, Nat.le_refl _, by omega, fun e => by cases e⟩, by simp, .inl rfl⟩
    · obtain ⟨b, off, spot⟩ := x
      have h0 := hcell 0 (by simpa [hlen] using hpos)
      have hs : spot = none := by simpa [Addr.add] using World.cell?_spot h0
      subst hs
      refine ⟨l.take len, ⟨fun _ => ⟨b, off, rfl, fun k u hu => ?_⟩, by rw [List.length_take]; omega, hl, by omega, fun e => by cases e⟩, fun i hi => hb i (List.mem_of_mem_take hi), .inr ⟨b, off, rfl⟩⟩
      obtain ⟨hk, rfl⟩ := num_all _ hu
      have hkl : k < l.length := by rw [List.length_take] at hk; omega
      have h1 := hcell k (by simpa using hkl)
      rw [add_plain] at h1
      rw [h1]
      simp [hkl]
/-- The place of ids[m:]. -/
theorem num_from {w : World} {b off n c : Nat} {ids : List Nat} (h : numE.Row w (some ⟨b, off, none⟩) n c ids) (m : Nat) (hm : m ≤ n) (hc : ¬ c = m) : numE.Row w (some ⟨b, off + m, none⟩) (n - m) (c - m) (ids.drop m) := by
  have := h.from_ m hm
  unfold Enc.cutAtK at this
  rw [if_neg hc, Option.map_some, add_plain] at this
  rwa [show off + m * numE.K = off + m by show off + m * 1 = off + m; omega] at this
theorem num_end {w : World} {A : Option Addr} {n c : Nat} {ids : List Nat} (h : numE.Row w A n c ids) (hn : n = c) : numE.Row w A 0 0 (ids.drop c) := by
  have := h.from_ c (by omega)
  unfold Enc.cutAtK at this
  rw [if_pos rfl] at this
  rwa [hn, Nat.sub_self] at this
theorem ring_small {w : World} {A : Option Addr} {N c : Nat} {r : List PtD} {l : List Nat} {p : Nat} (h : ptE.Row w A N c r) (hp : r.Perm (ptsOf atN l p)) (hl : l.length ≤ 16) (h2 : p ≤ 64) : N ≤ 1000000 := by
  rw [← h.len, hp.length_eq, pts_length]
  have : l.length * p ≤ 16 * 64 := Nat.mul_le_mul hl h2
  omega
theorem own_zero {l : List Nat} {r : List PtD} {p : Nat} (hs : Sorted r) (hp : r.Perm (ptsOf atN l p)) (hr : riseF 0 l = true) (h1 : 1 ≤ p) (h : Nat) : (ownF r h = 0 ∧ l = []) ∨ (ownF r h ≠ 0 ∧ 0 < l.length) := by
  rcases l with _ | ⟨i, l⟩
  · left
    have : r = [] := List.perm_nil.1 hp
    subst this
    exact ⟨rfl, rfl⟩
  · right
    have := own_member hs hp (by simp) (by omega) h
    have := rise_pos hr _ this
    exact ⟨by omega, by simp⟩
/-- A number stands there, in a world that has what another had. -/
abbrev NumIn (wq : World) (b o x : Nat) (w' : World) : Prop := Below wq.heap.size wq w' ∧ w'.cell? ⟨b, o, none⟩ = some (.int .u64 (x : Nat))
theorem numIn_keep {wq w1 w2 : World} {b o x : Nat} (h : NumIn wq b o x w1) (hb : Below w1.heap.size w1 w2) : NumIn wq b o x w2 :=
  ⟨h.1.trans (hb.mono h.1.size), by rw [hb.cell (lt_of_cell h.2)]; exact h.2⟩
def inF (ids : List Nat) (o k : Nat) : Bool := decide (o ∈ ids.take k)
theorem inF_succ {ids : List Nat} {k : Nat} (hk : k < ids.length) (o : Nat) : inF ids o (k + 1) = (inF ids o k || ids[k] == o) := by
  unfold inF
  rw [List.take_succ_eq_append_getElem hk, Bool.eq_iff_iff, Bool.or_eq_true, decide_eq_true_eq, decide_eq_true_eq, beq_iff_eq, List.mem_append, List.mem_singleton]
  exact ⟨fun h => h.imp id Eq.symm, fun h => h.imp id Eq.symm⟩
theorem sorted_pair {r : List PtD} (hs : Sorted r) {k : Nat} (h1 : 1 ≤ k) (hk : k < r.length) : (r[k - 1]'(by omega)).pos ≤ (r[k]).pos := by
  have h4 := List.pairwise_iff_getElem.1 hs (k - 1) k (by omega) hk (by omega)
  unfold PtD.Le at h4
  omega
end Rg
end Go.Proofs.Ytgmeggilojcoeaa
