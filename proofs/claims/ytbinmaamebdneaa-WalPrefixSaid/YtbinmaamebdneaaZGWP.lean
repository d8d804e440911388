/-
  A log in a law's hands.
-/
import Derived.Test.YtbinmaamebdneaaZDiskAlive
import Derived.Test.YtbinmaamebdneaaZGWK
import Derived.Test.YtbinmaamebdneaaZGWO
namespace Go.Proofs.Ytbinmaamebdneaa
set_option linter.unusedSimpArgs false
set_option linter.unusedVariables false
open Go.RowKit Fm Dsk
namespace Wl
set_option linter.unusedSimpArgs false
set_option linter.unusedVariables false
/-- A log of a law's own: all its blocks are from B on. -/
structure LgB (B : Nat) (w0 w : World) (gl gd : Nat) (X F : Nat → Prop) (d : DiskD) (most : Int) (L : List FS) : Prop where
  lg : LgF w gl gd X F d most L
  below : Below B w0 w
  own : ∀ q, F q → B ≤ q
  base : B ≤ w0.heap.size
  flt : ∀ q, F q → q < w.heap.size
section
variable {B : Nat} {w0 w w' : World} {gl gd : Nat} {X F : Nat → Prop} {d d' : DiskD} {most : Int} {L L' : List FS}
theorem LgB.size (h : LgB B w0 w gl gd X F d most L) : B ≤ w.heap.size := Nat.le_trans h.base h.below.size
theorem LgB.xlt (h : LgB B w0 w gl gd X F d most L) : ∀ q, X q → q < w.heap.size := by
  obtain ⟨Qd, Pl, P, g, Af, cf, hlg, -⟩ := h.lg
  exact hlg.xlt
theorem LgB.later (h : LgB B w0 w gl gd X F d most L) (k : Below w.heap.size w w') : LgB B w0 w' gl gd X F d most L := ⟨h.lg.below k, h.below.trans (k.mono h.size), h.own, h.base, fun q hq => Nat.lt_of_lt_of_le (h.flt q hq) k.size⟩
theorem LgB.alloc (h : LgB B w0 w gl gd X F d most L) (o : Obj) : LgB B w0 (w.alloc o) gl gd X F d most L := h.later ((Below.refl _ _).alloc (Nat.le_refl _) o)
theorem growF_lt {F : Nat → Prop} (hF : ∀ q, F q → q < w.heap.size) (hs : w.heap.size ≤ w'.heap.size) : ∀ q, growF F w w' q → q < w'.heap.size := fun q hq => by
  rcases hq with h1 | h1
  · exact Nat.lt_of_lt_of_le (hF q h1) hs
  · exact h1.2
theorem LgB.post {v : Value} {e : Ending} (h : LgB B w0 w gl gd X F d most L) (k : LgPost w gl gd X F v d' most L' e w') : e = .returned v ∧ (∃ X', LgB B w0 w' gl gd X' (growF F w w') d' most L' ∧ (∀ q, X' q → X q ∨ w.heap.size ≤ q) ∧ ∀ q, X q → X' q) ∧ Tn F w w' := by
  obtain ⟨he, X', h1, h2, h3, h4⟩ := k
  refine ⟨he, ⟨X', ⟨h1, h2.below h.below h.own h.size, fun q hq => ?_, h.base, growF_lt h.flt h2.size⟩, h3, h4⟩, h2⟩
  rcases hq with h5 | h5
  · exact h.own q h5
  · have := h.size; omega
/-- Another thing's call turned its own blocks, and made new ones. -/
theorem LgIn.beside {Qd Pl Q : Nat → Prop} {P : Nat → Nat → Prop} {g : Nat → Nat} {Af : Option Addr} {cf : Nat} (h : LgIn w gl gd Qd X Pl P g Af cf d most L) (hf : Foot F Qd Pl P L) (t : Tn Q w w') (h1 : ∀ q, Q q → X q) (h2 : ∀ q, Q q → ¬ F q) : LgIn w' gl gd Qd (growF X w w') Pl P g Af cf d most L := by
  have hs := t.size
  refine ⟨h.dk.tn t (fun q hq hq2 => h2 q hq2 (hf.d q hq)), fun q hq => .inl (h.dx q hq), growF_lt h.xlt hs, h.whole.tn t (fun hq => h2 gl hq (hf.l gl h.plg)), h.row.stands (fun b hb => t.block b (h.row.blk_lt b hb) (fun hq => h2 b hq (hf.l b (h.pla b hb)))), fun i hi => ?_, h.plg, h.pla, fun q hq => .inl (h.plx q hq), h.pld, h.plp, h.pd, h.pp⟩
  exact ((h.fs i hi).more (X' := growF X w w') (fun q hq => hq.imp id And.left) (fun q hq => .inl ((h.fs i hi).px q hq))).tn t (fun q hq hq2 => h2 q hq2 (hf.p i hi q hq)) (fun q hq => .inl (.inl (h1 q hq)))
theorem LgB.beside {Q : Nat → Prop} (h : LgB B w0 w gl gd X F d most L) (t : Tn Q w w') (h1 : ∀ q, Q q → X q) (h2 : ∀ q, Q q → ¬ F q) (h3 : ∀ q, Q q → B ≤ q) : LgB B w0 w' gl gd (growF X w w') F d most L := by
  obtain ⟨Qd, Pl, P, g, Af, cf, hl, hf⟩ := h.lg
  exact ⟨⟨Qd, Pl, P, g, Af, cf, hl.beside hf t h1 h2, hf⟩, t.below h.below h3 h.size, h.own, h.base, fun q hq => Nat.lt_of_lt_of_le (h.flt q hq) t.size⟩
/-- .. its disk. -/
theorem LgB.dkb (h : LgB B w0 w gl gd X F d most L) : ∃ Qd, DkB B w0 w gd Qd d ∧ ∀ q, Qd q → X q := by
  obtain ⟨Qd, Pl, P, g, Af, cf, hlg, hf⟩ := h.lg
  exact ⟨Qd, ⟨hlg.dk, h.below, fun q hq => h.own q (hf.d q hq), h.base⟩, hlg.dx⟩
/-- A log that was opened on such a disk. -/
theorem open_lgb {Qd G0 : Nat → Prop} {e : Ending} (h : DkB B w0 w gd Qd d) (k : OpenPost w gd Qd G0 d' most L e w') : ∃ gl, e = .returned (.tuple #[.pointer (some ⟨gl, 0, none⟩), .int .i64 0]) ∧ (∃ X, LgB B w0 w' gl gd X (growF Qd w w') d' most L ∧ (∀ q, X q → Qd q ∨ G0 q ∨ w.heap.size ≤ q) ∧ (∀ q, G0 q → X q)) ∧ Tn Qd w w' := by
  obtain ⟨gl, he, hgl, Qd', X', Pl, P, g, Af, cf, hlg, ht, hx, hgx, hft⟩ := k
  refine ⟨gl, he, ⟨X', ⟨hlg.upper hft, ht.below h.below h.own h.size, fun q hq => ?_, h.base, growF_lt (fun q hq => h.dk.qlt q hq) ht.size⟩, hx, hgx⟩, ht⟩
  rcases hq with h5 | h5
  · exact h.own q h5
  · have := h.size; omega
theorem LgB.append {N U base : Nat} (h : LgB B w0 w gl gd X F d most L) (ok : LogOk d most base L N U) (Ar : Option Addr) (nr cr : Nat) (r : List UInt8) (hr : SlN X w Ar nr cr r) (hnr : nr ≤ 8192) :
    Calls Try.prog 10 #[.pointer (some ⟨gl, 0, none⟩), .slice Ar nr cr] w (LgPost w gl gd X F (.int .i64 (appendL d most L r).1) (appendL d most L r).2.1 most (appendL d most L r).2.2) := by
  obtain ⟨Qd, Pl, P, g, Af, cf, hlg, hf⟩ := h.lg
  exact append_any Ar nr cr r hlg hf ok.known ok.lok hr hnr
theorem LgB.sync {base N U : Nat} (h : LgB B w0 w gl gd X F d most L) (ok : LogOk d most base L N U) :
    Calls Try.prog 11 #[.pointer (some ⟨gl, 0, none⟩)] w (SyPost w gl gd X F d most base L N U) := by
  obtain ⟨Qd, Pl, P, g, Af, cf, hlg, hf⟩ := h.lg
  exact lsync_any hlg hf ok
end
theorem LogOk.recs_le {d : DiskD} {most : Int} {base N U : Nat} {L : List FS} (h : LogOk d most base L N U) : (recsL L).length ≤ N := by
  have key : ∀ k, k < L.length → (recsL (L.take (k + 1))).length ≤ nextF (L[k]?.getD ⟨0, 0, [], [], 0⟩) := by
    intro k
    induction k with
    | zero =>
      intro hk
      rw [recsL_take hk, List.getElem?_eq_getElem hk]
      simp only [List.take_zero, Option.getD_some]
      unfold recsL nextF
      simp
    | succ k ih =>
      intro hk
      have h1 := ih (by omega)
      have h2 := h.next k hk
      rw [List.getElem?_eq_getElem (show k < L.length by omega)] at h1
      simp only [Option.getD_some] at h1
      rw [recsL_take hk, List.getElem?_eq_getElem hk, List.length_append]
      simp only [Option.getD_some]
      unfold nextF at *
      rw [h2]
      omega
  rcases hl : L.length with _ | m
  · rw [List.eq_nil_of_length_eq_zero hl]; simp [recsL]
  · have hm : m < L.length := by omega
    have h1 := key m hm
    rw [List.getElem?_eq_getElem hm, show m + 1 = L.length by omega, List.take_length] at h1
    have := h.bnd m hm
    simp only [Option.getD_some] at h1
    omega
theorem LgB.records {B : Nat} {w0 w : World} {gl gd : Nat} {X F : Nat → Prop} {d : DiskD} {most : Int} {L : List FS} {base N U : Nat} (h : LgB B w0 w gl gd X F d most L) (ok : LogOk d most base L N U) :
    Calls Try.prog 14 #[.pointer (some ⟨gl, 0, none⟩)] w (RecsPost w (recsL L)) := by
  obtain ⟨Qd, Pl, P, g, Af, cf, hlg, hf⟩ := h.lg
  exact records_any hlg ok.known ok.lok.num (by have := ok.recs_le; have := ok.big; omega) (fun f hf r hr => by
    obtain ⟨i, hi, rfl⟩ := List.mem_iff_getElem.1 hf
    have := ok.small i hi r hr
    omega)
theorem LgB.records2 {B : Nat} {w0 w : World} {gl gd : Nat} {X F : Nat → Prop} {d : DiskD} {most : Int} {L : List FS} {base N U : Nat} (h : LgB B w0 w gl gd X F d most L) (ok : LogOk d most base L N U) :
    Calls Try.prog 14 #[.pointer (some ⟨gl, 0, none⟩)] w (RecoPost w (recsL L)) := by
  obtain ⟨Qd, Pl, P, g, Af, cf, hlg, hf⟩ := h.lg
  exact records2_any hlg ok.known ok.lok.num (by have := ok.recs_le; have := ok.big; omega) (fun f hf r hr => by
    obtain ⟨i, hi, rfl⟩ := List.mem_iff_getElem.1 hf
    have := ok.small i hi r hr
    omega)
theorem LgB.sln {B : Nat} {w0 w : World} {gl gd : Nat} {X F : Nat → Prop} {d : DiskD} {most : Int} {L : List FS} (h : LgB B w0 w gl gd X F d most L) (bs : List UInt8) (cs : Array Value) (T : TypeId) (mk : Nat × Nat) (k : Nat) (hs : Sl (w.alloc (.cells cs T mk)) (some ⟨w.heap.size, 0, none⟩) k k bs) : SlN X (w.alloc (.cells cs T mk)) (some ⟨w.heap.size, 0, none⟩) k k bs :=
  ⟨hs, fun a ea _ hx => by cases ea; exact absurd (h.xlt _ hx) (Nat.lt_irrefl _)⟩
end Wl
end Go.Proofs.Ytbinmaamebdneaa

/-
  The law's example.
-/
namespace Go.Proofs.Ytbinmaamebdneaa
set_option linter.unusedSimpArgs false
set_option linter.unusedVariables false
open Go.RowKit Fm Dsk
namespace Wl
set_option linter.unusedSimpArgs false
set_option linter.unusedVariables false
set_option maxRecDepth 20000 in
set_option maxHeartbeats 8000000 in
theorem walive_any (w : World) : Calls Try.prog 6 #[] w (fun e w' => e = .returned (.bool true) ∧ Below w.heap.size w w') := by
  have kc := fun (w : World) (C : Array Value) (n c : Nat) => Lib.run_convert_bytes_const (P := Try.prog) w 33 5 C n c Try.underlying33 Try.underlying5
  have HNw := hid_ (new_any 1000 (by decide) (by decide) w)
  go_enter Try.func6, Try.ntmps6
  go_wp2_with fail
  (with_reducible refine Calls.mono HNw.out ?_)
  rintro e w1 ⟨rfl, hd, hb⟩
  have HD := hid_ (show DkB w.heap.size w w1 w.heap.size _ (newD 1000) from ⟨hd, hb, fun q hq => by omega, Nat.le_refl _⟩)
  have HLk := hid_ (LogOk.new (most := 64) hd.ok rfl rfl)
  have HOp := hid_ (open_any w.heap.size (fun q => q = w.heap.size) (fun _ => False) (newD 1000) 64 (by decide) (by decide) 0 0 (allAt []) w1 hd (HLk.out.disk (by decide)) (fun _ h => h.elim))
  clear hd hb
  go_wp2_with fail
  (with_reducible refine Calls.mono HOp.out ?_)
  intro e w2 hp
  obtain ⟨gl, rfl, ⟨X2, l2, -⟩, -⟩ := open_lgb HD.out hp
  have L2 := hid_ (show LgB w.heap.size w w2 gl w.heap.size X2 _ (newD 1000) 64 [] from l2)
  clear hp l2
  have HAp := hid_ ((L2.out.alloc (.cells #[.int .u8 97] 5 (1, 2))).append HLk.out (some ⟨w2.heap.size, 0, none⟩) 1 1 [97] (L2.out.sln _ _ _ _ 1 (sl_lit w2 [97] _ 5 (1, 2) rfl 1 rfl (by omega))) (by omega))
  go_wp2_with fail
  (with_reducible refine Calls.mono HAp.out ?_)
  intro e w3 hp
  obtain ⟨rfl, ⟨X3, l3, -⟩, -⟩ := (L2.out.alloc (.cells #[.int .u8 97] 5 (1, 2))).post hp
  have hA := HLk.out.fits (fun _ => rfl) rfl [97] (by decide) (by decide) (by decide) (by decide)
  generalize appendL (newD 1000) 64 [] [97] = R at *
  obtain ⟨k3, d3, L3'⟩ := R
  simp only at *
  obtain ⟨f, hLf, hrec⟩ : ∃ f, L3' = [f] ∧ f.recs = [[97]] := by
    have h1 := hA.recs
    have h2 := hA.len
    rcases L3' with _ | ⟨f, _ | ⟨f2, t⟩⟩
    · simp [recsL] at h1
    · exact ⟨f, rfl, by simpa [recsL] using h1⟩
    · simp at h2
  subst hLf
  have hk := hA.k0
  subst hk
  have L3 := hid_ l3
  have HA := hid_ hA
  have HF := hid_ hrec
  clear hp l3 hA hrec HAp
  have HSy := hid_ (L3.out.sync HA.out.ok)
  go_wp2_with fail
  (with_reducible refine Calls.mono HSy.out ?_)
  rintro e w4 ⟨d4, ok4, ha4, hr4, hf4, hp⟩
  obtain ⟨rfl, ⟨X4, l4, -⟩, -⟩ := L3.out.post hp
  have L4 := hid_ l4
  have OK4 := hid_ ok4
  have hall : f.all.length = 25 := by
    have h1 := ok4.all 0 (by simp)
    simp only [List.getElem_cons_zero] at h1
    rw [h1, HF.out, List.length_append, framed_length, headB_length]
    simp [frames, framed_length]
  have HP := hid_ (append_put ok4 (by rw [ha4]; exact HA.out.arm) [98] (by rw [hall]; decide) (by rw [hr4, HA.out.room]; decide))
  have H40 := hid_ (show d4.F 0 = some ⟨f.all, f.all.length⟩ from hf4 0 (by simp))
  clear hp l4 ok4 hf4 hall
  have HAp := hid_ ((L4.out.alloc (.cells #[.int .u8 98] 5 (1, 2))).append OK4.out (some ⟨w4.heap.size, 0, none⟩) 1 1 [98] (L4.out.sln _ _ _ _ 1 (sl_lit w4 [98] _ 5 (1, 2) rfl 1 rfl (by omega))) (by omega))
  rw [HP.out] at HAp
  go_wp2_with fail
  (with_reducible refine Calls.mono HAp.out ?_)
  intro e w5 hp
  obtain ⟨rfl, ⟨X5, l5, -⟩, -⟩ := (L4.out.alloc (.cells #[.int .u8 98] 5 (1, 2))).post hp
  obtain ⟨Q5, k5, -⟩ := l5.dkb
  have K5 := hid_ k5
  clear hp l5 k5
  have HCr := hid_ (crash_any none 0 0 [] _ _ _ _ K5.out.dk (Row.none _) (fun a e => by cases e))
  go_wp2_with fail
  (with_reducible refine Calls.mono HCr.out ?_)
  intro e w6 hp
  obtain ⟨rfl, ⟨Q6, k6, -⟩, -⟩ := K5.out.post hp
  have K6 := hid_ k6
  have hok6 := OK4.out.crash_one (b := framed [98]) K5.out.dk.ok (fun j hj => by
    show setF _ _ _ j = none
    rw [setF_other _ _ hj]
    exact OK4.out.rest j (fun i hi => by rw [show i = 0 by simp at hi; omega]; exact hj)) (by
    show setF d4.F 0 (some ⟨(fileAt d4.F 0).all ++ framed [98], (fileAt d4.F 0).fast⟩) 0 = _
    rw [setF_same, fileAt_some H40.out])
  have OK6 := hid_ hok6
  clear hp k6 hok6
  generalize crashD _ [] = d6 at *
  have HOp2 := hid_ (open_any w.heap.size Q6 (fun _ => False) d6 64 (by decide) (by decide) 0 1 (allAt [f]) w6 K6.out.dk (OK6.out.disk (by decide)) (fun _ h => h.elim))
  have hop := OK6.out.open_
  simp only [List.length_singleton] at hop
  rw [hop.1, hop.2] at HOp2
  clear hop
  go_wp2_with fail
  (with_reducible refine Calls.mono HOp2.out ?_)
  intro e w7 hp
  obtain ⟨gl2, rfl, ⟨X7, l7, -⟩, -⟩ := open_lgb K6.out hp
  have L7 := hid_ l7
  clear hp l7
  have hre : recsL [f] = [[97]] := by unfold recsL; simp [HF.out]
  have HRe := hid_ (fun (W : World) (hb : Below w7.heap.size w7 W) => (L7.out.later hb).records OK6.out)
  rw [hre] at HRe
  go_wp2_with fail
  (with_reducible refine Calls.mono (HRe.out w7 (Below.refl _ _)) ?_)
  rintro e w8 ⟨A8, c8, rfl, ho8, hb8⟩
  have HB8 := hid_ hb8
  clear ho8 hb8
  go_wp2_with fail
  (with_reducible refine Calls.mono (HRe.out w8 HB8.out) ?_)
  rintro e w9 ⟨A9, c9, rfl, ho9, hb9⟩
  have L9 := hid_ ((L7.out.later HB8.out).later hb9)
  obtain ⟨b9, off9, Ar, nr, cr, hA9, hcell, hsl, -⟩ := ho9.sls.at_ (k := 0) (by simp)
  simp only [List.getElem_cons_zero] at hsl
  have hnr : nr = 1 := by rw [← hsl.len]; rfl
  subst hA9 hnr
  have hcv : (convert 33 9 (.slice Ar 1 cr)).run Try.prog w9 = .ok (.string (strOf [97])) w9 := sl_string hsl
  have hc9 : 1 ≤ c9 := ho9.sls.cap
  clear ho9 hb9 hsl
  simp only [Nat.add_zero] at hcell
  go_wp2_with fail
  have e9 : ((strOf [97]).toList == [97]) = true := by
    first | kernel_rfl | rfl | simp [strOf, ByteArray.toList, ByteArray.toList.loop]
  rw [e9]
  go_ret
  exact ⟨rfl, L9.out.below⟩
end Wl
end Go.Proofs.Ytbinmaamebdneaa
