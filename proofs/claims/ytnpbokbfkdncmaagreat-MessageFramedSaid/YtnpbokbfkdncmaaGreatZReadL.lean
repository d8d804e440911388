/-
  Reading lists: what stands while rows are appended to the packet that is read.
-/
import Derived.Test.YtnpbokbfkdncmaaGreatZGM
import Derived.Test.YtnpbokbfkdncmaaGreatZRMember
import Derived.Test.YtnpbokbfkdncmaaGreatZRSpan
import Derived.Deep.RegionHeld3
namespace Go.Proofs.YtnpbokbfkdncmaaGreat
set_option linter.unusedSimpArgs false
set_option linter.unusedVariables false
open Go.RowKit Ru

/-- append(s, x..) on rows of any element's type as one step of a region that draws its order. -/
theorem step_app {w : World} {ops : Array Oper} {o : Oper} {a : Act} {K : Act → World → Prop} {Q : Exit → Act → World → Prop} {E : Prop} (hgd : Region.wanted o (yielded ops a.tmps) = true) (s x : Operand) (t e : TypeId)
    (ho : o.op = .call { callee := .builtin .append, args := #[s, x], argTypes := #[t, t] })
    (i : TypeInfo) (z : Value) (size by_ : Nat) (ht : Tryz.prog.underlying t = some (.slice e)) (hi : Tryz.prog.info? e = some i) (hz : i.zero = some z) (hsize : i.size = size) (hby : i.bytes = by_) (hzs : z.cells.size = size) (hsz : 0 < size)
    (B : Nat) (A0 : Option Addr) (n0 c0 : Nat) (l0 : List Value) (hs : a.eval s = .slice A0 n0 c0) (hown : w.ownsRow B e size (.slice A0 n0 c0) n0 l0)
    (A : Option Addr) (m c : Nat) (l : List Value) (hx : a.eval x = .slice A m c) (hl : l.length = m * size) (hA : Holds w A l) (hnil : A = none → c = 0) (h1 : ∀ u ∈ l, u.oneCell' = true)
    (N : Nat) (ys : List Value) (hN : n0 + m = N) (hys : l0 ++ l = ys) (hroom : N * by_ ≤ 140737488355328) (hmx : N ≤ 1000000) (hB : B ≤ w.heap.size)
    (h : ∀ A' c' w', w'.ownsRow B e size (.slice A' N c') N ys → w.grownBy w' (Value.slice A0 n0 c0).ownBlock → ((Value.slice A' N c').ownBlock = (Value.slice A0 n0 c0).ownBlock ∨ (Value.slice A' N c').ownBlock = some w.heap.size) → K (a.put o.dst (.slice A' N c')) w') :
    if Region.wanted o (yielded ops a.tmps) = true then Oper.wp Tryz.prog o a w K Q else E := by
  subst hys
  rw [if_pos hgd]
  obtain ⟨A', c', w', hrun, h2, h3, h4⟩ := run_app (P := Tryz.prog) w B t o.type e i z size by_ ht hi hz hsize hby hzs hsz (.slice A0 n0 c0) n0 l0 hown A m c l hl hA hnil h1 N (l0 ++ l) hN rfl (by unfold maxLen; omega) hroom hB
  unfold Oper.wp execOp
  simp only [ho, resolve, invoke, builtin, Sem.run_bind, Sem.run_pure, Result.andThen_ok, List.map_toArray, List.map_cons, List.map_nil, hs, hx, hrun]
  exact h A' c' w' h2 h3 h4
/-- What is left to the reader lies in no block that is still to come. -/
theorem Rd.fresh {w : World} {g : Nat} {Q : Nat → Prop} {l : List UInt8} (h : Rd w g Q l) : Rd w g (fun q => Q q ∨ w.heap.size ≤ q) l := by
  obtain ⟨A, n, c, h1, h2, h3⟩ := h
  refine ⟨A, n, c, h1, h2, fun a e hne => ⟨(h3 a e hne).1, ?_⟩⟩
  rintro (hq | hq)
  · exact (h3 a e hne).2 hq
  · obtain ⟨b, off, e2, hc⟩ := h2.holds (bytes_ne hne)
    rw [e] at e2
    cases e2
    obtain ⟨x, t, rfl⟩ := List.exists_cons_of_ne_nil hne
    have := lt_of_cell (hc 0 _ rfl)
    simp only at this hq
    omega
/-- .. with a row that is appended to, in block A. -/
structure Ls (w : World) (gr gp gh B : Nat) (h : PartsD) (W : World) (l : List UInt8) (P : PackD) (S : PackS) (A : Option Addr) : Prop where
  st : St w gr gp gh h W l P S
  rd : Rd W gr (fun q => ((q = w.heap.size ∨ q = gp) ∨ q = gh) ∨ ∃ a, A = some a ∧ q = a.block) l
  o4 : gh < B
  size : B ≤ W.heap.size
  row : ∀ a, A = some a → B ≤ a.block ∧ a.block < W.heap.size
theorem Ls.start {w W : World} {gr gp gh : Nat} {h : PartsD} {l : List UInt8} {P : PackD} {S : PackS} (s : St w gr gp gh h W l P S) : Ls w gr gp gh W.heap.size h W l P S none :=
  ⟨s, s.rd.sub (fun q hq => by
    rcases hq with hq | ⟨a, e, _⟩
    · exact hq
    · cases e), s.pt.lt, Nat.le_refl _, fun a e => by cases e⟩
theorem St.drew {w W : World} {gr gp gh : Nat} {h : PartsD} {l : List UInt8} {P : PackD} {S : PackS} (s : St w gr gp gh h W l P S) : St w gr gp gh h W.drew l P S :=
  ⟨s.rd.drew, s.res, s.pk, s.pt, s.below.drew, s.o1, s.o2, s.o3⟩
theorem Ls.drew {w W : World} {gr gp gh B : Nat} {h : PartsD} {l : List UInt8} {P : PackD} {S : PackS} {A : Option Addr} (s : Ls w gr gp gh B h W l P S A) : Ls w gr gp gh B h W.drew l P S A :=
  ⟨s.st.drew, s.rd.drew, s.o4, s.size, s.row⟩
theorem Ls.q_lt {w W : World} {gr gp gh B : Nat} {h : PartsD} {l : List UInt8} {P : PackD} {S : PackS} {A : Option Addr} (s : Ls w gr gp gh B h W l P S A) : ∀ q, (((q = w.heap.size ∨ q = gp) ∨ q = gh) ∨ ∃ a, A = some a ∧ q = a.block) → q < W.heap.size := by
  have h1 := s.st.o1
  have h2 := s.st.o2
  have h3 := s.st.o3
  have h4 := s.o4
  have h5 := s.size
  rintro q (((rfl | rfl) | rfl) | ⟨a, e, rfl⟩)
  · omega
  · omega
  · omega
  · exact (s.row a e).2
theorem Ls.call {w W W' : World} {gr gp gh B : Nat} {h : PartsD} {l l' : List UInt8} {P : PackD} {S : PackS} {A : Option Addr} (s : Ls w gr gp gh B h W l P S A) (hg : W.grownBy W' (some gr)) (hr : Rd W' gr (fun q => ((q = w.heap.size ∨ q = gp) ∨ q = gh) ∨ ∃ a, A = some a ∧ q = a.block) l') : Ls w gr gp gh B h W' l' P S A :=
  ⟨s.st.call hg (hr.sub fun _ h => .inl h), hr, s.o4, Nat.le_trans s.size hg.size, fun a e => ⟨(s.row a e).1, Nat.lt_of_lt_of_le (s.row a e).2 hg.size⟩⟩
theorem Ls.alloc {w W : World} {gr gp gh B : Nat} {h : PartsD} {l : List UInt8} {P : PackD} {S : PackS} {A : Option Addr} (s : Ls w gr gp gh B h W l P S A) (o : Obj) : Ls w gr gp gh B h (W.alloc o) l P S A := by
  have h1 := s.st.o1
  have h2 := s.st.o2
  have h3 := s.st.o3
  have h4 := s.o4
  have h5 := s.size
  exact ⟨⟨s.st.rd.alloc o, s.st.res.alloc o, s.st.pk.alloc o, s.st.pt.alloc o, s.st.below.alloc (by omega) o, h1, h2, h3⟩, s.rd.alloc o, h4, by simp; omega, fun a e => ⟨(s.row a e).1, by have := (s.row a e).2; simp; omega⟩⟩
/-- The row is appended to. -/
theorem Ls.app {w W W' : World} {gr gp gh B : Nat} {h : PartsD} {l : List UInt8} {P : PackD} {S : PackS} {A A' : Option Addr} {n c n' c' : Nat} (s : Ls w gr gp gh B h W l P S A) (hg : W.grownBy W' (Value.slice A n c).ownBlock)
    (hw : (Value.slice A' n' c').ownBlock = (Value.slice A n c).ownBlock ∨ (Value.slice A' n' c').ownBlock = some W.heap.size) (hlt : ∀ a, A' = some a → a.block < W'.heap.size) : Ls w gr gp gh B h W' l P S A' := by
  have h1 := s.st.o1
  have h2 := s.st.o2
  have h3 := s.st.o3
  have h4 := s.o4
  have h5 := s.size
  have hrow : ∀ j, (Value.slice A n c).ownBlock = some j → ∃ a, A = some a ∧ j = a.block := by
    intro j hj
    rcases A with _ | x
    · cases hj
    · have h2 : (Value.slice (some x) n c).ownBlock = some x.block := rfl
      rw [h2] at hj
      injection hj with hj
      exact ⟨x, rfl, hj.symm⟩
  have hne : ∀ j, j < B → some j ≠ (Value.slice A n c).ownBlock := fun j hj e => by
    obtain ⟨a, ha, rfl⟩ := hrow j e.symm
    have := (s.row a ha).1
    omega
  have hA' : ∀ a, A' = some a → (∃ a0, A = some a0 ∧ a.block = a0.block) ∨ a.block = W.heap.size := by
    rintro a rfl
    have h9 : (Value.slice (some a) n' c').ownBlock = some a.block := rfl
    rw [h9] at hw
    rcases hw with hw | hw
    · obtain ⟨a0, e0, e1⟩ := hrow _ hw.symm
      exact .inl ⟨a0, e0, e1⟩
    · injection hw with hw
      exact .inr hw
  have hrd : Rd W' gr (fun q => ((q = w.heap.size ∨ q = gp) ∨ q = gh) ∨ ∃ a, A' = some a ∧ q = a.block) l := by
    refine (s.rd.fresh.grown hg (hne gr (by omega)) (fun q hq => ?_)).sub ?_
    · obtain ⟨a, ha, rfl⟩ := hrow q hq
      exact .inl (.inr ⟨a, ha, rfl⟩)
    · rintro q (hq | ⟨a, ha, rfl⟩)
      · exact .inl (.inl hq)
      · rcases hA' a ha with ⟨a0, e0, e1⟩ | e
        · exact .inl (.inr ⟨a0, e0, e1⟩)
        · exact .inr (by omega)
  refine ⟨⟨hrd.sub fun _ h => .inl h, s.st.res.grown hg (Ne.symm (hne _ (by omega))), s.st.pk.grown hg (Ne.symm (hne _ (by omega))), s.st.pt.grown hg (Ne.symm (hne _ (by omega))), ?_, h1, h2, h3⟩, hrd, h4, Nat.le_trans h5 hg.size, fun a ha => ⟨?_, hlt a ha⟩⟩
  · exact ⟨hg.os.trans s.st.below.os, hg.tape.trans s.st.below.tape, hg.output.trans s.st.below.output, Nat.le_trans s.st.below.size hg.size, fun i hi => (hg.block i (by have := s.st.below.size; omega) (hne i (by omega))).trans (s.st.below.block i hi)⟩
  · rcases hA' a ha with ⟨a0, e0, e1⟩ | e
    · have := (s.row a0 e0).1
      omega
    · omega
theorem Ls.set {w W : World} {gr gp gh B : Nat} {h : PartsD} {l : List UInt8} {P : PackD} {S : PackS} {A : Option Addr} (s : Ls w gr gp gh B h W l P S A) (P' : PackD) (S' : PackS) (i : Nat) (v : Value) (hc : (packCells P S).setIfInBounds i v = packCells P' S') : Ls w gr gp gh B h (W.setCell ⟨gp, i, none⟩ v) l P' S' A := by
  have h2 := s.st.o2
  exact ⟨s.st.set P' S' i v hc, s.rd.store (.inl (.inl (.inr rfl))) (by omega) i v, s.o4, by have := s.size; simpa using this, fun a e => ⟨(s.row a e).1, by have := (s.row a e).2; simpa using this⟩⟩
theorem Ls.to {w W : World} {gr gp gh B : Nat} {h : PartsD} {l l' : List UInt8} {P : PackD} {S : PackS} {A : Option Addr} (s : Ls w gr gp gh B h W l P S A) (e : l = l') : Ls w gr gp gh B h W l' P S A := e ▸ s
/-- What the loop's one load reads. -/
abbrev CellIn (gp i : Nat) (v : Value) (W : World) : Prop := W.cell? ⟨gp, i, none⟩ = some v ∧ gp < W.heap.size
theorem cellIn_alloc {gp i : Nat} {v : Value} {W : World} (h : CellIn gp i v W) (o : Obj) : CellIn gp i v (W.alloc o) :=
  ⟨by rw [(Below.refl W.heap.size W).alloc (Nat.le_refl _) o |>.cell (p := ⟨gp, i, none⟩) h.2]; exact h.1, by have := h.2; simp; omega⟩
theorem cellIn_of {w W : World} {gr gp gh : Nat} {h : PartsD} {l : List UInt8} {P : PackD} {S : PackS} (s : St w gr gp gh h W l P S) (i : Nat) (v : Value) {v' : Value} (hv : (packCells P S)[i]? = some v) (e : v = v') : CellIn gp i v' W := by
  subst e
  exact ⟨s.pk.cell i v hv, s.pk.lt⟩
theorem spanK_len (l : List UInt8) : ∀ k, (spanK l k).1.length = k
  | 0 => rfl
  | k + 1 => by rw [spanK, List.length_append, spanK_len l k]; rfl
theorem memK_len (l : List UInt8) : ∀ k, (memK l k).1.length = k
  | 0 => rfl
  | k + 1 => by rw [memK, List.length_append, memK_len l k]; rfl
theorem idK_len (l : List UInt8) : ∀ k, (idK l k).1.length = k
  | 0 => rfl
  | k + 1 => by rw [idK, List.length_append, idK_len l k]; rfl
theorem cutSpan_rest (l : List UInt8) : (cutSpanF l).2.2.length ≤ l.length := by
  by_cases h1 : (partedF l).1 = 0
  · by_cases h2 : rightF (partedF l).2.1 = 0
    · rw [cut_fine h1 h2]; exact partedF_rest l
    · rw [cut_wrong h1 rfl h2]; simp
  · rw [cut_bad rfl h1]; simp
theorem spanK_rest (l : List UInt8) : ∀ k, (spanK l k).2.length ≤ l.length
  | 0 => Nat.le_refl _
  | k + 1 => by
    rw [spanK]
    exact Nat.le_trans (cutSpan_rest _) (spanK_rest l k)
theorem mcells_one (m : MemberD) : ∀ u ∈ mcells m, u.oneCell' = true := by
  intro u hu
  simp [mcells] at hu
  rcases hu with rfl | rfl | rfl
  all_goals rfl
theorem spcells_one (s : SpanD) : ∀ u ∈ cellsOf s, u.oneCell' = true := by
  intro u hu
  simp [cellsOf] at hu
  rcases hu with rfl | rfl | rfl | rfl | rfl | rfl | rfl | rfl
  all_goals rfl
def idOne (n : Nat) : List Value := [.int .u64 (n : Nat)]
theorem idOne_one (n : Nat) : ∀ u ∈ idOne n, u.oneCell' = true := by
  intro u hu
  simp [idOne] at hu
  subst hu
  rfl
theorem idVals_append (a b : List Nat) : idVals (a ++ b) = idVals a ++ idVals b := by simp [idVals]
theorem info_member : (Tryz.prog.info? 64).map (fun i => (i.zero, i.size, i.bytes)) = some (some (.agg #[.int .u64 0, .int .u64 0, .int .i64 0]), 3, 24) := by kernel_rfl
theorem info_id : (Tryz.prog.info? 22).map (fun i => (i.zero, i.size, i.bytes)) = some (some (.int .u64 0), 1, 8) := by kernel_rfl
theorem holds_new (w : World) (cs : Array Value) (T : TypeId) (G : Nat) (hG : G = w.heap.size) : Holds (w.alloc (.cells cs T)) (some ⟨G, 0, none⟩) cs.toList := by
  subst hG
  exact fun _ => ⟨w.heap.size, 0, rfl, fun k u hu => by rw [World.cell?_alloc_mark, Nat.zero_add, ← hu, Array.getElem?_toList]⟩
/-- The row stands where a block below its base is written. -/
theorem Ls.kept {w W W' : World} {gr gp gh B : Nat} {h : PartsD} {l : List UInt8} {P : PackD} {S : PackS} {A : Option Addr} {e : TypeId} {size n c g : Nat} {xs : List Value} (s : Ls w gr gp gh B h W l P S A) (ho : W.ownsRow B e size (.slice A n c) n xs) (hg : W.grownBy W' (some g)) (hB : g < B) : W'.ownsRow B e size (.slice A n c) n xs := by
  refine World.ownsRow.kept ho hg ?_
  rcases A with _ | a
  · exact .inl rfl
  · refine .inr (fun e2 => ?_)
    have h2 : (Value.slice (some a) n c).ownBlock = some a.block := rfl
    rw [h2] at e2
    injection e2 with e2
    have := (s.row a rfl).1
    omega
theorem own_lt {W : World} {B : Nat} {e : TypeId} {size n c : Nat} {A : Option Addr} {xs : List Value} (ho : W.ownsRow B e size (.slice A n c) n xs) : ∀ a, A = some a → a.block < W.heap.size := by
  rintro a rfl
  exact (World.ownsRow.lt ho a.block rfl).2
theorem own_mem {B : Nat} {w : World} {A : Option Addr} {n c : Nat} {ms : List MemberD} (h : w.ownsRow B 64 3 (.slice A n c) n (memsAll ms)) : MemRow w A n c ms := by
  have hl : ms.length = n := by
    have := h.1
    rw [memsAll_length] at this
    omega
  have hh := own_holds h
  obtain ⟨hx, ⟨e, _⟩ | ⟨g, cap, cur, e, hg, hh2, hnc, hcm, hs, hc⟩⟩ := h
  · injection e with a b c
    subst a c
    exact memRow_of hh hl (by omega) (by omega) (fun _ => rfl)
  · injection e with a b c
    subst a c
    unfold maxLen at hcm
    exact memRow_of hh hl hnc (by omega) (fun e => by cases e)
end Go.Proofs.YtnpbokbfkdncmaaGreat
