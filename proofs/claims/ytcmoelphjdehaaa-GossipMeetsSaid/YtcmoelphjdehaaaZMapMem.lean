/-
  A map of members by their Ids, as Merge fills it.
-/
import Derived.Test.YtcmoelphjdehaaaZCollU
import Derived.Test.YtcmoelphjdehaaaZMemConcat
import Derived.Maps.OwnSet
namespace Go.Proofs.Ytcmoelphjdehaaa
set_option linter.unusedSimpArgs false
set_option linter.unusedVariables false
open Go.RowKit Ru
namespace Vw
set_option linter.unusedSimpArgs false
set_option linter.unusedVariables false
theorem zeroM (w : World) : (zeroValue 82).run Try.prog w = .ok (memVal ⟨0, 0, 0⟩) w := by kernel_rfl
/-- The map in block b holds of each Id what the members of l say of it. -/
structure MapMem (W : World) (b : Nat) (l : List MemberD) (D : DataW Value) : Prop where
  own : ∃ n, n ≤ l.length ∧ W.ownsMap Try.prog 60 elemR b n D
  has : ∀ id : Nat, Maps.has D (ku id) = (bestF l id).isSome
  at_ : ∀ (id : Nat) m, bestF l id = some m → ∀ z, D.atKey (ku id) z = .held (memVal m)
theorem mapMem_new (w : World) : MapMem (w.alloc (.map #[] 0)) w.heap.size [] (.map []) :=
  ⟨⟨0, Nat.le_refl _, World.ownsMap_made _ _ _ _⟩, fun id => by simp [Maps.has, bestF_nil], fun id m h => by rw [bestF_nil] at h; cases h⟩
theorem MapMem.below {W W' : World} {b : Nat} {l : List MemberD} {D : DataW Value} (h : MapMem W b l D) (hb : Below W.heap.size W W') : MapMem W' b l D := by
  obtain ⟨n, hn, ho⟩ := h.own
  exact ⟨⟨n, hn, ownsMap_below ho hb⟩, h.has, h.at_⟩
theorem MapMem.lt {W : World} {b : Nat} {l : List MemberD} {D : DataW Value} (h : MapMem W b l D) : b < W.heap.size := by
  obtain ⟨n, hn, ho⟩ := h.own
  exact ho.lt
theorem elem_of {v : Value} {ps : List MemPlace} {x : Value} (h : elemR v = some (.held x, ps)) : v = x := by
  unfold elemR at h
  injection h with h
  injection h with h _
  injection h
theorem MapMem.look {W : World} {b : Nat} {l : List MemberD} {D : DataW Value} (h : MapMem W b l D) {id : Nat} (hid : id < 18446744073709551616) {m : MemberD} (hm : bestF l id = some m) :
    (Instr.lookup 163 (.map (some b)) (.int .u64 (id : Nat)) false).run Try.prog W = .ok (memVal m) W := by
  obtain ⟨n, hn, ho⟩ := h.own
  obtain ⟨v, ps, hrun, hv⟩ := ho.lookup (t := 163) keyLawU Try.underlying163 (zeroM W) (zd := .held (memVal ⟨0, 0, 0⟩)) (zp := []) rfl (ku_key hid)
  rw [h.at_ id m hm] at hv
  rw [hrun, elem_of hv]
theorem MapMem.look_yes {W : World} {b : Nat} {l : List MemberD} {D : DataW Value} (h : MapMem W b l D) {id : Nat} (hid : id < 18446744073709551616) {m : MemberD} (hm : bestF l id = some m) :
    (Instr.lookup 163 (.map (some b)) (.int .u64 (id : Nat)) true).run Try.prog W = .ok (.tuple #[memVal m, .bool true]) W := by
  obtain ⟨n, hn, ho⟩ := h.own
  obtain ⟨v, ps, hrun, hv⟩ := ho.look_ok (t := 163) keyLawU Try.underlying163 (zeroM W) (zd := .held (memVal ⟨0, 0, 0⟩)) (zp := []) rfl (ku_key hid)
  rw [h.at_ id m hm] at hv
  rw [hrun, elem_of hv, h.has, hm]
  rfl
theorem MapMem.look_no {W : World} {b : Nat} {l : List MemberD} {D : DataW Value} (h : MapMem W b l D) {id : Nat} (hid : id < 18446744073709551616) (hm : bestF l id = none) :
    (Instr.lookup 163 (.map (some b)) (.int .u64 (id : Nat)) true).run Try.prog W = .ok (.tuple #[memVal ⟨0, 0, 0⟩, .bool false]) W := by
  obtain ⟨n, hn, ho⟩ := h.own
  obtain ⟨v, ps, hrun, hv⟩ := ho.look_ok (t := 163) keyLawU Try.underlying163 (zeroM W) (zd := .held (memVal ⟨0, 0, 0⟩)) (zp := []) rfl (ku_key hid)
  have hf : Maps.has D (ku id) = false := by rw [h.has, hm]; rfl
  rw [Maps.atKey_of_not_has hf] at hv
  rw [hrun, elem_of hv, hf]
theorem MapMem.skip {W : World} {b : Nat} {l : List MemberD} {D : DataW Value} {s m : MemberD} (h : MapMem W b l D) (h1 : bestF l s.id = some m) (h2 : newerB s m = false) : MapMem W b (l ++ [s]) D := by
  have key : ∀ id, bestF (l ++ [s]) id = bestF l id := by
    intro id
    rw [bestF_snoc]
    by_cases e : s.id = id
    · subst e
      rw [if_pos rfl, h1]
      show some (joinM m s) = some m
      unfold joinM
      rw [h2, if_neg Bool.false_ne_true]
    · rw [if_neg e]
  obtain ⟨n, hn, ho⟩ := h.own
  exact ⟨⟨n, by rw [List.length_append]; omega, ho⟩, fun id => by rw [key]; exact h.has id, fun id m hm => h.at_ id m (by rw [← key]; exact hm)⟩
theorem MapMem.put {W W2 : World} {b n : Nat} {l : List MemberD} {D : DataW Value} {s : MemberD} (h : MapMem W b l D) (h1 : bestF l s.id = none ∨ ∃ m, bestF l s.id = some m ∧ newerB s m = true) (hn : n ≤ l.length + 1)
    (ho : W2.ownsMap Try.prog 60 elemR b n (D.put (ku s.id) (.held (memVal s)))) : MapMem W2 b (l ++ [s]) (D.put (ku s.id) (.held (memVal s))) := by
  obtain ⟨n0, hn0, ho0⟩ := h.own
  have hkl : Go.WideAt.IsKeyLit (ku s.id) := by trivial
  have key : bestF (l ++ [s]) s.id = some s := by
    rw [bestF_snoc, if_pos rfl]
    rcases h1 with h1 | ⟨m, h1, h2⟩
    · rw [h1]; rfl
    · rw [h1]
      show some (joinM m s) = some s
      unfold joinM
      rw [h2, if_pos rfl]
  refine ⟨⟨n, by rw [List.length_append]; exact hn, ho⟩, fun id => ?_, fun id m hm z => ?_⟩
  · by_cases e : s.id = id
    · subst e
      rw [Maps.has_put_same ho0.isMap hkl, key]
      rfl
    · rw [Maps.has_put_other (ku_ne (fun e' => e e'.symm)), h.has, bestF_snoc, if_neg e]
  · by_cases e : s.id = id
    · subst e
      rw [key] at hm
      cases hm
      exact Maps.atKey_put_same ho0.isMap hkl _ _
    · rw [bestF_snoc, if_neg e] at hm
      rw [Maps.atKey_put_other (ku_ne (fun e' => e e'.symm))]
      exact h.at_ id m hm z
/-- As many keys as entries. -/
theorem allKeys_len {W : World} {b n : Nat} {D : DataW Value} (ho : W.ownsMap Try.prog 60 elemR b n D) {ss : List Nat} (h : AllKeys D ss) : ss.length = Maps.size D := by
  obtain ⟨es, rfl, hp, _⟩ := ho.entries keyLawU
  have hk : ∀ p ∈ es, ∃ x : Nat, p.1 = ku x := by
    obtain ⟨es', clock, hb, F', hs, hD⟩ := ho
    injection hD with hD
    intro p hp2
    rw [hD] at hp2
    obtain ⟨x, hx, rfl⟩ := List.mem_map.1 (mem_sorted.1 hp2)
    obtain ⟨y, hy⟩ := F'.reads x hx
    rw [Go.WideElems.rg_of hy]
    obtain ⟨x', _, e, _⟩ := keyOf_u64 (Go.WideElems.rd_key hy)
    exact ⟨x', e⟩
  let f : Lit × DataW Value → Nat := fun p => match p.1 with | .int _ a => a.toNat | _ => 0
  have hf : ∀ p ∈ es, p.1 = ku (f p) := by
    intro p hp2
    obtain ⟨x, e⟩ := hk p hp2
    have : f p = x := by show (match p.1 with | .int _ a => a.toNat | _ => 0) = x; rw [e]; simp
    rw [this]
    exact e
  have hnd : (es.map f).Nodup := by
    refine List.pairwise_map.2 (hp.imp_of_mem fun {p q} hp' hq' hne e => hne ?_)
    rw [hf p hp', hf q hq', e]
  have hmem : ∀ x, x ∈ es.map f ↔ x ∈ ss := by
    intro x
    rw [h.2 x, Maps.has_eq, List.any_eq_true, List.mem_map]
    constructor
    · rintro ⟨p, hp', rfl⟩
      exact ⟨p, hp', by rw [hf p hp', ku_same]; exact decide_eq_true rfl⟩
    · rintro ⟨p, hp', hs⟩
      rw [hf p hp', ku_same] at hs
      exact ⟨p, hp', of_decide_eq_true hs⟩
  have := (List.perm_ext_iff_of_nodup hnd h.1).2 hmem
  rw [← this.length_eq, List.length_map]
  rfl
/-- All keys are the merged members' Ids. -/
theorem keys_merged {W : World} {bk : Nat} {a b mg : List MemberD} {D : DataW Value} (h : MapMem W bk (a ++ b) D) (ha : Rising a) (hb : Rising b) (hm : IsMerge a b mg) : AllKeys D (mg.map MemberD.id) := by
  refine ⟨List.Pairwise.imp (fun h => Nat.ne_of_lt h) hm.1, fun x => ?_⟩
  rw [h.has, bestF_two ha hb, ← hm.2]
  rw [List.mem_map]
  constructor
  · rintro ⟨m, h1, rfl⟩
    rw [getF_mem hm.1 h1]
    rfl
  · intro h1
    obtain ⟨m, h2⟩ := Option.isSome_iff_exists.1 h1
    exact ⟨m, (getF_some h2).1, (getF_some h2).2⟩
theorem sorted_merged {D : DataW Value} {mg : List MemberD} (hr : Rising mg) (h : AllKeys D (mg.map MemberD.id)) {ss ks : List Nat} (hs : AllKeys D ss) (hp : ks.Perm ss) (hw : ks.Pairwise (· ≤ ·)) : ks = mg.map MemberD.id := by
  have h1 : ss.Perm (mg.map MemberD.id) := (List.perm_ext_iff_of_nodup hs.1 h.1).2 fun x => by rw [hs.2, h.2]
  exact List.Perm.eq_of_pairwise (le := fun a b => a ≤ b) (fun a b _ _ h1 h2 => Nat.le_antisymm h1 h2) hw (hr.imp (fun h => Nat.le_of_lt h)) (hp.trans h1)
/-- What Merge answers: its list and its kind. -/
def MergeIs (a b r : List MemberD) (k : Int) : Prop :=
  ((rightV a = false ∨ rightV b = false) ∧ r = [] ∧ k = 6) ∨ (rightV a = true ∧ rightV b = true ∧ ∃ mg, IsMerge a b mg ∧ ((16 < mg.length ∧ r = [] ∧ k = 4) ∨ (mg.length ≤ 16 ∧ r = mg ∧ k = 0)))
theorem right_rising {ms : List MemberD} (h : rightV ms = true) : Rising ms := by
  unfold rightV membersF at h
  simp only [Bool.and_eq_true] at h
  exact ((risesFrom_iff _ _).1 h.2.2).2
theorem mergeIs_one {a b r r' : List MemberD} {k k' : Int} (h : MergeIs a b r k) (h' : MergeIs a b r' k') : r = r' ∧ k = k' := by
  rcases h with ⟨h1, h2, h3⟩ | ⟨h1, h2, mg, h3, h4⟩ <;> rcases h' with ⟨g1, g2, g3⟩ | ⟨g1, g2, mg', g3, g4⟩
  · exact ⟨by rw [h2, g2], by rw [h3, g3]⟩
  · rcases h1 with h1 | h1
    · rw [h1] at g1; cases g1
    · rw [h1] at g2; cases g2
  · rcases g1 with g1 | g1
    · rw [g1] at h1; cases h1
    · rw [g1] at h2; cases h2
  · have e := isMerge_one h3 g3
    subst e
    rcases h4 with ⟨p1, p2, p3⟩ | ⟨p1, p2, p3⟩ <;> rcases g4 with ⟨q1, q2, q3⟩ | ⟨q1, q2, q3⟩
    · exact ⟨by rw [p2, q2], by rw [p3, q3]⟩
    · omega
    · omega
    · exact ⟨by rw [p2, q2], by rw [p3, q3]⟩
def MergePost (w : World) (a b : List MemberD) (e : Ending) (w' : World) : Prop := ∃ A n c r k, e = .returned (.tuple #[.slice A n c, .int .i64 k]) ∧ MemRow w' A n c r ∧ MergeIs a b r k ∧ Below w.heap.size w w'
theorem mergePost_mk {w w' : World} {a b r : List MemberD} {A : Option Addr} {n c : Nat} {k : Int} (h : MemRow w' A n c r) (hi : MergeIs a b r k) (hb : Below w.heap.size w w') : MergePost w a b (.returned (.tuple #[.slice A n c, .int .i64 k])) w' := ⟨A, n, c, r, k, rfl, h, hi, hb⟩
end Vw
end Go.Proofs.Ytcmoelphjdehaaa
