/-
  The document's lists of what is due: At, Del, Set, Pop (gen_tref.py).
-/
import Derived.Test.YtpcmlopbkehffaaZGAH
namespace Go.Proofs.Ytpcmlopbkehffaa
set_option linter.unusedSimpArgs false
set_option linter.unusedVariables false
open Go.RowKit Go.Shelf
attribute [local go_sem ↓] Go.wp_at_zero Go.wp_at_succ
namespace Ti
set_option linter.unusedSimpArgs false
set_option linter.unusedVariables false
theorem place_add (b off k : Nat) : Option.map (fun x : Addr => x.add (k * dueE.K)) (some ⟨b, off, none⟩) = some ⟨b, off + k * 2, none⟩ := by
  show some (Addr.add ⟨b, off, none⟩ (k * 2)) = _
  rw [add_plain]
theorem rowTo {w : World} {A A' : Option Addr} {n n' c c' : Nat} {ss : List DueD} (h : dueE.Row w A n c ss) (eA : A = A') (en : n = n') (ec : c = c') : dueE.Row w A' n' c' ss := by subst eA en ec; exact h
abbrev BIn (wq W : World) : Prop := Below wq.heap.size wq W ∧ wq.tape = W.tape
theorem bIn_keep {wq W W' : World} (h : BIn wq W) (hb : Below W.heap.size W W') : BIn wq W' := ⟨h.1.trans (hb.mono h.1.size), h.2.trans hb.tape.symm⟩
theorem bIn_keepB {wq W W' : World} (h : BIn wq W) (hb : Below wq.heap.size W W') : BIn wq W' := ⟨h.1.trans hb, h.2.trans hb.tape.symm⟩
/-- A list that came out of the document's functions. -/
def RowS (w : World) (A : Option Addr) (n c : Nat) (l : List DueD) : Prop := dueE.Row w A n c l ∧ ∀ a, A = some a → a.spot = none
theorem RowS.below {w w' : World} {A : Option Addr} {n c : Nat} {l : List DueD} (h : RowS w A n c l) (k : Below w.heap.size w w') : RowS w' A n c l := ⟨h.1.below k, h.2⟩
theorem rowS_nil (w : World) : RowS w none 0 0 [] := ⟨Enc.Row.none w, fun a e => by cases e⟩
theorem rowS_own {B : Nat} {w : World} {A : Option Addr} {n c : Nat} {l : List DueD} (h : OwnD B w A n c l) : RowS w A n c l := by
  refine ⟨h.row, fun a ea => ?_⟩
  rcases h.2 with ⟨e, _⟩ | ⟨g, cap, cur, e, _⟩
  · injection e with e; rw [e] at ea; cases ea
  · injection e with e; rw [e] at ea; injection ea with ea; rw [← ea]
set_option maxHeartbeats 2000000 in
set_option maxRecDepth 100000 in
theorem rat_any (A : Option Addr) (n c : Nat) (l : List DueD) (x : Nat) (w : World) (h : dueE.Row w A n c l) : Calls Try.prog 33 #[.slice A n c, .int .u64 (x : Nat)] w (RetV w (atV (atR l x))) := by
  have hlen := h.len
  have hmax := h.le
  have HR := hid_ h
  have HL := hid_ hlen
  clear h hlen
  go_enter Try.func33, Try.ntmps33
  go_wp2_with fail
  go_loopw [6] (fun v6 wr => ∃ i : Nat, v6 = .int .i64 (i : Nat) ∧ i ≤ n ∧ Hid (∀ d ∈ l.take i, d.key ≠ x) ∧ wr = w) (fun v6 _ => n - (intOf v6).toNat)
  case atStart => exact ⟨0, rfl, Nat.zero_le _, hid_ (fun d hd => by cases hd), rfl⟩
  case round =>
    obtain ⟨i, rfl, hi, HN, rfl⟩ := hrel
    by_cases hlt : i < n
    · have hil : i < l.length := by rw [HL.out]; exact hlt
      obtain ⟨b, off, rfl, -, c0, c1⟩ := dues_at HR.out hil
      have HSp := hid_ (show l = l.take i ++ l[i] :: l.drop (i + 1) by rw [← List.drop_eq_getElem_cons hil, List.take_append_drop])
      have HT1 := hid_ (show ∀ d ∈ l.take (i + 1), d.key ≠ x ∨ d = l[i] from fun d hd => by
        rw [List.take_succ_eq_append_getElem hil] at hd
        rcases List.mem_append.1 hd with h1 | h1
        · exact .inl (HN.out d h1)
        · exact .inr (List.mem_singleton.1 h1))
      generalize l[i] = d at *
      have m1 : (i : Int) < (n : Int) := by omega
      have m2 : (0 : Int) ≤ (i : Int) := by omega
      have q1 : wrap64 ((i : Int) + 1) = (i : Int) + 1 := by unfold wrap64; omega
      have HI := hid_ hlt
      obtain ⟨dk, da⟩ := d
      dsimp only at c0 c1
      by_cases he : dk = x
      · have e1 : (dk == x) = true := beq_iff_eq.2 he
        have e2 : ((dk : Int) == (x : Int)) = true := beq_iff_eq.2 (by omega)
        have HE := hid_ (show atR l x = some da by
          unfold atR
          rw [HSp.out, List.find?_append, List.find?_eq_none.2 (fun d hd hk => HN.out d hd ((isKey_iff _ _).1 hk)), Option.none_or, List.find?_cons_of_pos ((isKey_iff _ _).2 he)]
          rfl)
        clear he hlt
        go_wp2_with fail
        go_ret2
        exact retV_mk (by rw [HE.out]; rfl)
      · have e1 : (dk == x) = false := beq_eq_false_iff_ne.2 he
        have e2 : ((dk : Int) == (x : Int)) = false := beq_eq_false_iff_ne.2 (by omega)
        have HE := hid_ he
        clear he hlt
        go_wp2_with fail
        go_roundw
        case rel => exact ⟨i + 1, by go_num, by have := HI.out; omega, hid_ (fun d hd => (HT1.out d hd).elim id (fun e => by rw [e]; exact HE.out)), by first | rfl | trivial⟩
        case measure => have := HI.out; simp [intOf]; omega
    · obtain rfl : i = n := by omega
      have m1 : ¬ (i : Int) < (i : Int) := by omega
      have HE := hid_ (show atR l x = none from at_none (fun d hd => HN.out d (by rw [List.take_of_length_le (by rw [HL.out]; exact Nat.le_refl _)]; exact hd)))
      go_wp2_with fail
      go_ret2
      exact retV_mk (by rw [HE.out]; rfl)
/-- What the document's Del leaves. -/
def RDel (w : World) (A : Option Addr) (n c : Nat) (l : List DueD) (x : Nat) (e : Ending) (w' : World) : Prop :=
  ∃ A' c', e = .returned (.tuple #[.slice A' (delR l x).length c', .bool (hasR l x)]) ∧ ((A' = A ∧ c' = c ∧ delR l x = l ∧ w' = w) ∨ OwnD w.heap.size w' A' (delR l x).length c' (delR l x)) ∧ Below w.heap.size w w'
theorem rdel_mk {w w' : World} {A A' : Option Addr} {n c n' c' x : Nat} {l l' : List DueD} {b : Bool} (hd : delR l x = l') (hb : hasR l x = b) (hn : l'.length = n') (ho : OwnD w.heap.size w' A' n' c' l') (hB : Below w.heap.size w w') : RDel w A n c l x (.returned (.tuple #[.slice A' n' c', .bool b])) w' := by
  subst hd hb hn
  exact ⟨A', c', rfl, .inr ho, hB⟩
theorem rdel_no {w : World} {A : Option Addr} {n c x : Nat} {l : List DueD} (hn : l.length = n) (h : ∀ d ∈ l, d.key ≠ x) : RDel w A n c l x (.returned (.tuple #[.slice A n c, .bool false])) w := by
  subst hn
  refine ⟨A, c, ?_, .inl ⟨rfl, rfl, del_none h, rfl⟩, Below.refl _ _⟩
  rw [del_none h, has_false.2 h]
set_option maxHeartbeats 4000000 in
set_option maxRecDepth 100000 in
theorem rdel_any (A : Option Addr) (n c : Nat) (l : List DueD) (x : Nat) (w : World) (h : dueE.Row w A n c l) (hm : n ≤ 1000000) : Calls Try.prog 27 #[.slice A n c, .int .u64 (x : Nat)] w (RDel w A n c l x) := by
  have hlen := h.len
  have hmax := h.max
  have hcap := h.cap
  have HR := hid_ h
  have HL := hid_ hlen
  clear h hlen
  go_enter Try.func27, Try.ntmps27
  go_wp2_with fail
  go_loopw [6] (fun v6 wr => ∃ i : Nat, v6 = .int .i64 (i : Nat) ∧ i ≤ n ∧ Hid (∀ d ∈ l.take i, d.key ≠ x) ∧ wr = w) (fun v6 _ => n - (intOf v6).toNat)
  case atStart => exact ⟨0, rfl, Nat.zero_le _, hid_ (fun d hd => by cases hd), rfl⟩
  case round =>
    obtain ⟨i, rfl, hi, HN, rfl⟩ := hrel
    by_cases hlt : i < n
    · have hil : i < l.length := by rw [HL.out]; exact hlt
      obtain ⟨b, off, rfl, -, c0, c1⟩ := dues_at HR.out hil
      have HSp := hid_ (show l = l.take i ++ l[i] :: l.drop (i + 1) by rw [← List.drop_eq_getElem_cons hil, List.take_append_drop])
      have HT1 := hid_ (show ∀ d ∈ l.take (i + 1), d.key ≠ x ∨ d = l[i] from fun d hd => by
        rw [List.take_succ_eq_append_getElem hil] at hd
        rcases List.mem_append.1 hd with h1 | h1
        · exact .inl (HN.out d h1)
        · exact .inr (List.mem_singleton.1 h1))
      generalize l[i] = d at *
      have m1 : (i : Int) < (n : Int) := by omega
      have m2 : (0 : Int) ≤ (i : Int) := by omega
      have HI := hid_ hlt
      obtain ⟨dk, da⟩ := d
      dsimp only at c0 c1
      by_cases he : dk = x
      · have e1 : (dk == x) = true := beq_iff_eq.2 he
        have e2 : ((dk : Int) == (x : Int)) = true := beq_iff_eq.2 (by omega)
        have HD := hid_ (show delR l x = l.take i ++ l.drop (i + 1) ∧ hasR l x = true from ⟨by
          unfold delR
          conv => lhs; rw [HSp.out]
          rw [List.eraseP_append_right _ (fun d hd => by intro hk; exact HN.out d hd ((isKey_iff _ _).1 hk)), List.eraseP_cons_of_pos ((isKey_iff _ _).2 he)], has_iff.2 ⟨⟨dk, da⟩, by rw [HSp.out]; exact List.mem_append_right _ List.mem_cons_self, he⟩⟩)
        have HN1 := hid_ (show (l.take i ++ l.drop (i + 1)).length = n - 1 by rw [List.length_append, List.length_take, List.length_drop, HL.out]; omega)
        obtain ⟨j, hj⟩ : ∃ j, j = i + 1 := ⟨_, rfl⟩
        rw [← hj] at HD HN1
        have HSl := hid_ (HR.out.from_ j (by omega))
        have x1 : (0 : Int) ≤ (j : Int) := by omega
        have x2 : (j : Int) ≤ (n : Int) := by omega
        have x3 : (n : Int) ≤ (c : Int) := by omega
        have x6 : (j : Int) ≤ (c : Int) := by omega
        have x4 : (i : Int) ≤ (n : Int) := by omega
        have x5 : (i : Int) ≤ (c : Int) := by omega
        have t1 : IntKind.i64.wrap ((i : Int) + 1) = (j : Int) := by rw [hj]; unfold IntKind.wrap; simp [IntKind.bits, IntKind.signed]; omega
        have t2 : (i : Int) + 1 = (j : Int) := by omega
        have t3 : IntKind.i64.wrap (j : Int) = (j : Int) := by simp [IntKind.wrap, IntKind.bits, IntKind.signed]; omega
        have HJ := hid_ hj
        have hjn : j ≤ n := by omega
        have hij : i + (n - j) = n - 1 := by omega
        have x7 : (i : Int) ≤ (j : Int) := by omega
        have HIJ := hid_ hij
        clear hj
        have hno : ∀ z : Nat, z ≤ 1000001 → z * 16 ≤ 140737488355328 := fun z hz => by omega
        obtain ⟨wq, rfl⟩ : ∃ wq : World, wq = wr := ⟨_, rfl⟩
        have HLq := hid_ HR.out
        have S0 : BIn wq wq := ⟨Below.refl _ _, rfl⟩
        have HSf := hid_ (fun (o : Obj) => (show BIn wq (wq.alloc o).drew from bIn_keep S0 (Below.drew (Below.alloc (Below.refl _ _) (Nat.le_refl _) _))))
        have Hra := hid_ (fun (W : World) (hb : Below wq.heap.size wq W) => (HLq.out.below hb).upto i (by omega))
        clear he hil
        by_cases hc1 : c = j
        · have HRs := hid_ (show dueE.Row wq (some ⟨b, off, none⟩) (n - j) (c - j) (l.drop j) by
            have h9 := HSl.out
            unfold Enc.cutAtK at h9
            rw [if_pos hc1] at h9
            exact h9)
          have Hrb := hid_ (fun (W : World) (hb : Below wq.heap.size wq W) => HRs.out.below hb)
          go_wp2_with fail
          have HSd := hid_ (show BIn wq wq.drew from bIn_keep S0 (Below.drew (Below.refl _ _)))
          clear t2 hno hij hjn e1 e2 c0 c1
          go_region_held3 (BIn wq) (first | assumption | exact HSd.out | exact HSf.out _ | (refine bIn_keepB (by assumption) (by assumption)) | (refine bIn_keep (by assumption) ((Below.refl _ _).alloc (Nat.le_refl _) _)) | (refine bIn_keep (by assumption) (Below.drew (Below.refl _ _))))
            (first
              | (refine Enc.step_rows (E := dueE) (e := 81) (by rfl) (.tmp 20) (.tmp 23) 63 (by rfl) _ 16 Try.underlying63 info_due rfl wq.heap.size _ 0 0 [] (by rfl) ?_ _ i _ (l.take i) (by rfl) ?_ i (l.take i) (by omega) (by rfl) (by omega) (by omega) ?_ ?_; (first | exact (Enc.own_empty _ _ rfl _ (by simp)) | exact Enc.Own.alloc (Enc.own_empty _ _ rfl _ (by simp)) _ | exact (Enc.own_empty_at _ _ _ rfl _ (by simp) (by simp)) | exact Enc.Own.alloc (Enc.own_empty_at _ _ _ rfl _ (by simp) (by simp)) _); (exact rowTo (Hra.out _ (And.left (by assumption))) rfl rfl (by omega)); (exact Below.size (And.left (by assumption))); (intro A1 c1 w1 ho1 hb1 hg1))
              | (refine Enc.step_rows (E := dueE) (e := 81) (by rfl) (.tmp 24) (.tmp 28) 63 (by rfl) _ 16 Try.underlying63 info_due rfl wq.heap.size A1 i c1 (l.take i) (by rfl) ho1 _ _ _ (l.drop j) (by rfl) ?_ (n - 1) (l.take i ++ l.drop j) (by have := HIJ.out; omega) (by rfl) (by omega) (by omega) ?_ ?_; (exact rowTo (Hrb.out _ (And.left (by assumption))) rfl (by omega) (by omega)); (exact Below.size (And.left (by assumption))); (intro A2 c2 w2 ho2 hb2 hg2))
              )
          all_goals
            have HO2 := hid_ ho2
            have HB2 := hid_ (And.left (show BIn wq _ from (by assumption)))
            clear ho1 ho2 hb1 hb2 hg1 hg2
            go_wp2_with fail
            go_ret2
            exact rdel_mk HD.out.1 HD.out.2 HN1.out HO2.out HB2.out
        · have HRs := hid_ (show dueE.Row wq (some ⟨b, off + j * 2, none⟩) (n - j) (c - j) (l.drop j) by
            have h9 := HSl.out
            unfold Enc.cutAtK at h9
            rw [if_neg hc1] at h9
            exact rowTo h9 (place_add b off j) rfl rfl)
          have Hrb := hid_ (fun (W : World) (hb : Below wq.heap.size wq W) => HRs.out.below hb)
          go_wp2_with fail
          have HSd := hid_ (show BIn wq wq.drew from bIn_keep S0 (Below.drew (Below.refl _ _)))
          clear t2 hno hij hjn e1 e2 c0 c1
          go_region_held3 (BIn wq) (first | assumption | exact HSd.out | exact HSf.out _ | (refine bIn_keepB (by assumption) (by assumption)) | (refine bIn_keep (by assumption) ((Below.refl _ _).alloc (Nat.le_refl _) _)) | (refine bIn_keep (by assumption) (Below.drew (Below.refl _ _))))
            (first
              | (refine Enc.step_rows (E := dueE) (e := 81) (by rfl) (.tmp 20) (.tmp 23) 63 (by rfl) _ 16 Try.underlying63 info_due rfl wq.heap.size _ 0 0 [] (by rfl) ?_ _ i _ (l.take i) (by rfl) ?_ i (l.take i) (by omega) (by rfl) (by omega) (by omega) ?_ ?_; (first | exact (Enc.own_empty _ _ rfl _ (by simp)) | exact Enc.Own.alloc (Enc.own_empty _ _ rfl _ (by simp)) _ | exact (Enc.own_empty_at _ _ _ rfl _ (by simp) (by simp)) | exact Enc.Own.alloc (Enc.own_empty_at _ _ _ rfl _ (by simp) (by simp)) _); (exact rowTo (Hra.out _ (And.left (by assumption))) rfl rfl (by omega)); (exact Below.size (And.left (by assumption))); (intro A1 c1 w1 ho1 hb1 hg1))
              | (refine Enc.step_rows (E := dueE) (e := 81) (by rfl) (.tmp 24) (.tmp 28) 63 (by rfl) _ 16 Try.underlying63 info_due rfl wq.heap.size A1 i c1 (l.take i) (by rfl) ho1 _ _ _ (l.drop j) (by rfl) ?_ (n - 1) (l.take i ++ l.drop j) (by have := HIJ.out; omega) (by rfl) (by omega) (by omega) ?_ ?_; (exact rowTo (Hrb.out _ (And.left (by assumption))) rfl (by omega) (by omega)); (exact Below.size (And.left (by assumption))); (intro A2 c2 w2 ho2 hb2 hg2))
              )
          all_goals
            have HO2 := hid_ ho2
            have HB2 := hid_ (And.left (show BIn wq _ from (by assumption)))
            clear ho1 ho2 hb1 hb2 hg1 hg2
            go_wp2_with fail
            go_ret2
            exact rdel_mk HD.out.1 HD.out.2 HN1.out HO2.out HB2.out
      · have q1 : wrap64 ((i : Int) + 1) = (i : Int) + 1 := by unfold wrap64; omega
        have e1 : (dk == x) = false := beq_eq_false_iff_ne.2 he
        have e2 : ((dk : Int) == (x : Int)) = false := beq_eq_false_iff_ne.2 (by omega)
        have HE := hid_ he
        clear he hlt
        go_wp2_with fail
        go_roundw
        case rel => exact ⟨i + 1, by go_num, by have := HI.out; omega, hid_ (fun d hd => (HT1.out d hd).elim id (fun e => by rw [e]; exact HE.out)), by first | rfl | trivial⟩
        case measure => have := HI.out; simp [intOf]; omega
    · obtain rfl : i = n := by omega
      have m1 : ¬ (i : Int) < (i : Int) := by omega
      go_wp2_with fail
      go_ret2
      exact rdel_no HL.out (fun d hd => HN.out d (by rw [List.take_of_length_le (by rw [HL.out]; exact Nat.le_refl _)]; exact hd))
end Ti
end Go.Proofs.Ytpcmlopbkehffaa

/-
  Lists of what is due that are one but for their order; the last of a beginning.
-/
namespace Go.Proofs.Ytpcmlopbkehffaa
set_option linter.unusedSimpArgs false
set_option linter.unusedVariables false
open Go.RowKit
namespace Ti
set_option linter.unusedSimpArgs false
set_option linter.unusedVariables false
theorem del_perm2 {a b : List DueD} (h : a.Perm b) (ha : (a.map DueD.key).Nodup) (k : Nat) : (delR a k).Perm (delR b k) := by
  have hb := (h.map DueD.key).nodup_iff.1 ha
  cases hk : hasR a k
  · rw [del_none (has_false.1 hk), del_none (fun d hd => has_false.1 hk d (h.mem_iff.2 hd))]
    exact h
  · obtain ⟨d, hd, rfl⟩ := has_iff.1 hk
    exact ((del_perm ha hd).symm.trans (h.trans (del_perm hb (h.mem_iff.1 hd)))).cons_inv
theorem head_del {x : DueD} {m : List DueD} : delR (x :: m) x.key = m := List.eraseP_cons_of_pos ((isKey_iff _ _).2 rfl)
theorem head_has {x : DueD} {m : List DueD} : hasR (x :: m) x.key = true := has_iff.2 ⟨x, List.mem_cons_self, rfl⟩
theorem head_no {x : DueD} {m : List DueD} (h : Ok (x :: m)) : hasR m x.key = false := has_false.2 fun d hd e => by
  have := h.keys
  rw [List.map_cons] at this
  exact (List.nodup_cons.1 this).1 (List.mem_map.2 ⟨d, hd, e⟩)
theorem last_lt {pre suf : List DueD} {p x : DueD} (h : Ok (pre ++ [p] ++ x :: suf)) : ord p < ord x := by
  have := List.pairwise_append.1 h.sorted
  exact this.2.2 p (List.mem_append_right _ (List.mem_singleton.2 rfl)) x List.mem_cons_self
end Ti
end Go.Proofs.Ytpcmlopbkehffaa
