/-
  Handle.
-/
import Derived.Test.YthjhofmjhmnddaaGreatMGDD
set_option linter.unusedSimpArgs false
set_option linter.unusedVariables false
namespace Go.Proofs.YthjhofmjhmnddaaGreat
open Go.RowKit Rg Bl Re Wl Dsk Fm
namespace Rp
section
variable {B : Nat} {w0 w w' : World} {gr gl gd bm : Nat} {X F E : Nat → Prop} {d d' : DiskD} {most : Int} {L L' : List FS} {R R' : List OneD} {dn dn' : Bool} {N N' : Nat}
set_option maxRecDepth 100000 in
set_option maxHeartbeats 8000000 in
theorem handle_no (h : RepB B w0 w gr gl gd bm X F E d most L R dn N) (p : PackD) (s : PackS) (hp : PackIn w p s) (hw : p.Wf) (hm : p.spans.length ≤ 1000 ∧ p.members.length ≤ 1000 ∧ p.ids.length ≤ 1000) (hr : askP p = false) :
  Calls Tryz.prog 13 #[.pointer (some ⟨gr, 0, none⟩), packVal p s] w (RetB w.heap.size w (.tuple #[packVal zeroP noS, .int .i64 6])) := by
 obtain ⟨hb, hw1, hw2, hsz⟩ := two_new w p s
 obtain ⟨wa, hwa⟩ : ∃ wa : World, wa = ((w.alloc (.cells #[.int .i64 p.kind, .int .u64 (p.trace : Nat), .int .u64 (p.bn : Nat), .int .u64 (p.bnode : Nat), .int .u64 (p.sn : Nat), .int .u64 (p.snode : Nat), .int .i64 p.v, .bool p.ok, .slice s.a1 p.spans.length s.c1, .slice s.a2 p.members.length s.c2, .slice s.a3 p.ids.length s.c3] 41)).alloc (.cells #[.int .i64 0, .int .u64 0, .int .u64 0, .int .u64 0, .int .u64 0, .int .u64 0, .int .i64 0, .bool false, .slice none 0 0, .slice none 0 0, .slice none 0 0] 41)) := ⟨_, rfl⟩
 rw [← hwa] at hb hw1 hw2 hsz
 have HWa := hid_ hwa
 have HB := hid_ hb
 have H1 := hid_ hw1
 have H2 := hid_ hw2
 have HN := hid_ (rnone_any (h.later hb))
 have HOf := hid_ (of_noask p s wa (hp.below hb) hw hm hr)
 have x0 := hw1.cell 0 (.int .i64 p.kind) rfl
 have x1 := hw1.cell 1 (.int .u64 (p.trace : Nat)) rfl
 have x2 := hw1.cell 2 (.int .u64 (p.bn : Nat)) rfl
 have x3 := hw1.cell 3 (.int .u64 (p.bnode : Nat)) rfl
 have x4 := hw1.cell 4 (.int .u64 (p.sn : Nat)) rfl
 have x5 := hw1.cell 5 (.int .u64 (p.snode : Nat)) rfl
 have x6 := hw1.cell 6 (.int .i64 p.v) rfl
 have x7 := hw1.cell 7 (.bool p.ok) rfl
 have x8 := hw1.cell 8 (.slice s.a1 p.spans.length s.c1) rfl
 have x9 := hw1.cell 9 (.slice s.a2 p.members.length s.c2) rfl
 have x10 := hw1.cell 10 (.slice s.a3 p.ids.length s.c3) rfl
 clear h hp hw hm hr hb hw1 hw2 hsz hwa
 go_enter Tryz.func13, Tryz.ntmps13
 go_wp2_with fail
 try rw [← HWa.out]
 (with_reducible refine Calls.mono HN.out ?_)
 rintro e w1 ⟨rfl, rfl⟩
 go_wp2_with fail
 (with_reducible refine Calls.mono HOf.out ?_)
 rintro e w1 ⟨V, kk, rfl, hna, hb1⟩
 have e1 : ∀ w : World, (Instr.typeAssert V 20 95 true).run Tryz.prog w = .ok (.tuple #[zAsk, .bool false]) w := hna
 have HB1 := hid_ (HB.out.trans (hb1.mono HB.out.size))
 have H21 := hid_ (H2.out.below hb1 H2.out.lt)
 have hL : w.heap.size + 1 < w1.heap.size := H21.out.lt
 have f1 := fun i => H21.out.free i
 have u0 := H21.out.cell 0 (.int .i64 0) rfl
 have u1 := H21.out.cell 1 (.int .u64 0) rfl
 have u2 := H21.out.cell 2 (.int .u64 0) rfl
 have u3 := H21.out.cell 3 (.int .u64 0) rfl
 have u4 := H21.out.cell 4 (.int .u64 0) rfl
 have u5 := H21.out.cell 5 (.int .u64 0) rfl
 have u6 := H21.out.cell 6 (.int .i64 0) rfl
 have u7 := H21.out.cell 7 (.bool false) rfl
 have u8 := H21.out.cell 8 (.slice none 0 0) rfl
 have u9 := H21.out.cell 9 (.slice none 0 0) rfl
 have u10 := H21.out.cell 10 (.slice none 0 0) rfl
 clear hb1 hna x0 x1 x2 x3 x4 x5 x6 x7 x8 x9 x10
 go_wp2_with fail
 obtain ⟨wz, hz, hwz, hbz⟩ := fin11a H21.out HB1.out (Nat.le_succ _) (.int .i64 0) (.int .u64 0) (.int .u64 0) (.int .u64 0) (.int .u64 0) (.int .u64 0) (.int .i64 0) (.bool false) (.slice none 0 0) (.slice none 0 0) (.slice none 0 0) (.cells #[.int .u64 0, .int .u64 0, .int .u64 0, .int .i64 0] 95)
 rw [← hz]
 have k0 := hwz.cell 0 (.int .i64 0) rfl
 have k1 := hwz.cell 1 (.int .u64 0) rfl
 have k2 := hwz.cell 2 (.int .u64 0) rfl
 have k3 := hwz.cell 3 (.int .u64 0) rfl
 have k4 := hwz.cell 4 (.int .u64 0) rfl
 have k5 := hwz.cell 5 (.int .u64 0) rfl
 have k6 := hwz.cell 6 (.int .i64 0) rfl
 have k7 := hwz.cell 7 (.bool false) rfl
 have k8 := hwz.cell 8 (.slice none 0 0) rfl
 have k9 := hwz.cell 9 (.slice none 0 0) rfl
 have k10 := hwz.cell 10 (.slice none 0 0) rfl
 have HZ := hid_ hbz
 clear hz hwz hbz
 exact bodyPost_ret (v := .tuple #[packVal zeroP noS, .int .i64 6]) (by simp [results, Tryz.results13, go_sem, k0, k1, k2, k3, k4, k5, k6, k7, k8, k9, k10]) rfl (retB_mk rfl HZ.out)
end
end Rp
end Go.Proofs.YthjhofmjhmnddaaGreat
/-
 Handle of a replica that is down.
-/
namespace Go.Proofs.YthjhofmjhmnddaaGreat
open Go.RowKit Rg Bl Re Wl Dsk Fm
namespace Rp
section
variable {B : Nat} {w0 w w' : World} {gr gl gd bm : Nat} {X F E : Nat → Prop} {d d' : DiskD} {most : Int} {L L' : List FS} {R R' : List OneD} {dn dn' : Bool} {N N' : Nat}
set_option maxRecDepth 100000 in
set_option maxHeartbeats 8000000 in
theorem handle_dn (h : RepB B w0 w gr gl gd bm X F E d most L R dn N) (hd : dn = true ∨ d.down = true) (p : PackD) (s : PackS) (hp : PackIn w p s) (hw : p.Wf) (hm : p.spans.length ≤ 1000 ∧ p.members.length ≤ 1000 ∧ p.ids.length ≤ 1000) (hr : askP p = true) :
  Calls Tryz.prog 13 #[.pointer (some ⟨gr, 0, none⟩), packVal p s] w (fun e w' => e = .returned (.tuple #[packVal zeroP noS, .int .i64 10]) ∧ RepS B w0 w X E gr gl gd bm d most L R true N w') := by
 have HD := hid_ hd
 clear hd
 obtain ⟨hb, hw1, hw2, hsz⟩ := two_new w p s
 obtain ⟨wa, hwa⟩ : ∃ wa : World, wa = ((w.alloc (.cells #[.int .i64 p.kind, .int .u64 (p.trace : Nat), .int .u64 (p.bn : Nat), .int .u64 (p.bnode : Nat), .int .u64 (p.sn : Nat), .int .u64 (p.snode : Nat), .int .i64 p.v, .bool p.ok, .slice s.a1 p.spans.length s.c1, .slice s.a2 p.members.length s.c2, .slice s.a3 p.ids.length s.c3] 41)).alloc (.cells #[.int .i64 0, .int .u64 0, .int .u64 0, .int .u64 0, .int .u64 0, .int .u64 0, .int .i64 0, .bool false, .slice none 0 0, .slice none 0 0, .slice none 0 0] 41)) := ⟨_, rfl⟩
 rw [← hwa] at hb hw1 hw2 hsz
 have HWa := hid_ hwa
 have HB := hid_ hb
 have H1 := hid_ hw1
 have H2 := hid_ hw2
 have H := hid_ h
 have HN := hid_ (rnone_any (h.later hb))
 have HOf := hid_ (of_ask p s wa (hp.below hb) hw hm hr)
 have HAsk := hid_ (And.intro hw (ask_has hr))
 have e1 := fun (v : Value) (w : World) => isAsk v w
 have x0 := hw1.cell 0 (.int .i64 p.kind) rfl
 have x1 := hw1.cell 1 (.int .u64 (p.trace : Nat)) rfl
 have x2 := hw1.cell 2 (.int .u64 (p.bn : Nat)) rfl
 have x3 := hw1.cell 3 (.int .u64 (p.bnode : Nat)) rfl
 have x4 := hw1.cell 4 (.int .u64 (p.sn : Nat)) rfl
 have x5 := hw1.cell 5 (.int .u64 (p.snode : Nat)) rfl
 have x6 := hw1.cell 6 (.int .i64 p.v) rfl
 have x7 := hw1.cell 7 (.bool p.ok) rfl
 have x8 := hw1.cell 8 (.slice s.a1 p.spans.length s.c1) rfl
 have x9 := hw1.cell 9 (.slice s.a2 p.members.length s.c2) rfl
 have x10 := hw1.cell 10 (.slice s.a3 p.ids.length s.c3) rfl
 clear h hp hw hm hr hb hw1 hw2 hsz hwa
 go_enter Tryz.func13, Tryz.ntmps13
 go_wp2_with fail
 try rw [← HWa.out]
 (with_reducible refine Calls.mono HN.out ?_)
 rintro e w1 ⟨rfl, rfl⟩
 go_wp2_with fail
 (with_reducible refine Calls.mono HOf.out ?_)
 rintro e w1 ⟨rfl, hb1⟩
 have hs1 : w.heap.size + 1 < w1.heap.size := Nat.lt_of_lt_of_le H2.out.lt hb1.size
 have HB1 := hid_ (show Below w.heap.size w (w1.alloc (.cells #[.int .u64 (p.trace : Nat), .int .u64 (p.bn : Nat), .int .u64 (p.bnode : Nat), .int .i64 p.v] 95)) from (HB.out.trans (hb1.mono HB.out.size)).alloc (by omega) _)
 have H21 := hid_ ((H2.out.below hb1 H2.out.lt).alloc (.cells #[.int .u64 (p.trace : Nat), .int .u64 (p.bn : Nat), .int .u64 (p.bnode : Nat), .int .i64 p.v] 95))
 have HA1 := hid_ (whole_new w1 95 #[.int .u64 (p.trace : Nat), .int .u64 (p.bn : Nat), .int .u64 (p.bnode : Nat), .int .i64 p.v])
 have HL1 := hid_ (And.intro hs1 (show (w1.alloc (.cells #[.int .u64 (p.trace : Nat), .int .u64 (p.bn : Nat), .int .u64 (p.bnode : Nat), .int .i64 p.v] 95)).heap.size = w1.heap.size + 1 by simp))
 clear hb1 x0 x1 x2 x3 x4 x5 x6 x7 x8 x9 x10
 go_wp2_with fail
 generalize hga : w1.heap.size = ga at *
 obtain ⟨wb, hwb⟩ : ∃ wb : World, wb = w1.alloc (.cells #[.int .u64 (p.trace : Nat), .int .u64 (p.bn : Nat), .int .u64 (p.bnode : Nat), .int .i64 p.v] 95) := ⟨_, rfl⟩
 rw [← hwb] at HB1 H21 HA1 HL1 ⊢
 clear hwb hga e1
 have HUp := hid_ (up_any (H.out.later HB1.out))
 (with_reducible refine Calls.mono HUp.out ?_)
 rintro e w2 (⟨e1, e2, -, -⟩ | ⟨-, rfl, rfl⟩)
 ·rcases HD.out with h1 | h1
  ·rw [h1] at e1; cases e1
  ·rw [h1] at e2; cases e2
 have hgr : gr < w.heap.size := H.out.whole.lt
 have H23 := hid_ (H21.out.far (p := ⟨gr, 3, none⟩) (by show w.heap.size + 1 ≠ gr; omega) (.bool true))
 have HBg := hid_ (Nat.le_refl 0)
 have hne : w.heap.size + 1 ≠ gr := by omega
 have f1 := fun i => H23.out.free i
 have u0 := H23.out.cell 0 (.int .i64 0) rfl
 have u1 := H23.out.cell 1 (.int .u64 0) rfl
 have u2 := H23.out.cell 2 (.int .u64 0) rfl
 have u3 := H23.out.cell 3 (.int .u64 0) rfl
 have u4 := H23.out.cell 4 (.int .u64 0) rfl
 have u5 := H23.out.cell 5 (.int .u64 0) rfl
 have u6 := H23.out.cell 6 (.int .i64 0) rfl
 have u7 := H23.out.cell 7 (.bool false) rfl
 have u8 := H23.out.cell 8 (.slice none 0 0) rfl
 have u9 := H23.out.cell 9 (.slice none 0 0) rfl
 have u10 := H23.out.cell 10 (.slice none 0 0) rfl
 go_wp2_with fail
 obtain ⟨wz, hz, hwz, htz⟩ := fin11t H23.out (.int .i64 0) (.int .u64 0) (.int .u64 0) (.int .u64 0) (.int .u64 0) (.int .u64 0) (.int .i64 0) (.bool false) (.slice none 0 0) (.slice none 0 0) (.slice none 0 0)
 rw [← hz]
 have k0 := hwz.cell 0 (.int .i64 0) rfl
 have k1 := hwz.cell 1 (.int .u64 0) rfl
 have k2 := hwz.cell 2 (.int .u64 0) rfl
 have k3 := hwz.cell 3 (.int .u64 0) rfl
 have k4 := hwz.cell 4 (.int .u64 0) rfl
 have k5 := hwz.cell 5 (.int .u64 0) rfl
 have k6 := hwz.cell 6 (.int .i64 0) rfl
 have k7 := hwz.cell 7 (.bool false) rfl
 have k8 := hwz.cell 8 (.slice none 0 0) rfl
 have k9 := hwz.cell 9 (.slice none 0 0) rfl
 have k10 := hwz.cell 10 (.slice none 0 0) rfl
 have HZ := hid_ (rep_fin (w := w) (w3 := wb) (w4 := wb.setCell ⟨gr, 3, none⟩ (.bool true)) (d' := d) (most := most) (L' := L) (R' := R) (dn' := true) (N' := N) (by
  obtain ⟨n1, n2⟩ := (H.out.grown HB1.out).noted true
  exact ⟨_, F, E, n1, n2, fun q hq => .inl hq, fun q hq => hq, fun q hq => .inl hq, fun q hq => hq⟩) (Below.refl _ _) htz HB1.out (Nat.le_succ _) H21.out.lt H.out.elt H.out.size)
 clear hz hwz htz
 exact bodyPost_ret (v := .tuple #[packVal zeroP noS, .int .i64 10]) (by simp [results, Tryz.results13, go_sem, k0, k1, k2, k3, k4, k5, k6, k7, k8, k9, k10]) rfl ⟨rfl, HZ.out⟩
end
end Rp
end Go.Proofs.YthjhofmjhmnddaaGreat
