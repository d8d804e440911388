/-
  Handle.
-/
import Derived.Test.YtpcmlopbkehffaaGreatOGDD
set_option linter.unusedSimpArgs false
set_option linter.unusedVariables false
namespace Go.Proofs.YtpcmlopbkehffaaGreat
open Go.RowKit Rg Bl Re Wl Dsk Fm
namespace Rp
section
variable {B:Nat} {w0 w w':World} {gr gl gd bm:Nat} {X F E:Nat→Prop} {d d':ak} {most:Int} {L L':List FS} {R R':List au} {dn dn':Bool} {N N':Nat}
set_option maxRecDepth 100000 in
set_option maxHeartbeats 8000000 in
theorem af8 (h:bO B w0 w gr gl gd bm X F E d most L R dn N) (p:av) (s:aT) (hp:bP w p s) (hw:p.Wf) (hm:p.spans.length≤1000∧p.members.length≤1000∧p.ids.length≤1000) (hr:dU p=false) :
  Calls Tryz.prog 11 #[.pointer (some ⟨gr,0,none⟩),aM p s] w (bT w.heap.size w (.tuple #[aM fU noS,.int .i64 6])):=by
 obtain ⟨hb,hw1,hw2,hsz⟩:=oU w p s
 obtain ⟨wa,hwa⟩:∃ wa:World,wa=((w.alloc (.cells #[.int .i64 p.kind,.int .u64 (p.trace:Nat),.int .u64 (p.bn:Nat),.int .u64 (p.aZ:Nat),.int .u64 (p.sn:Nat),.int .u64 (p.bM:Nat),.int .i64 p.v,.bool p.ok,.slice s.a1 p.spans.length s.c1,.slice s.a2 p.members.length s.c2,.slice s.a3 p.ids.length s.c3] 41)).alloc (.cells #[.int .i64 0,.int .u64 0,.int .u64 0,.int .u64 0,.int .u64 0,.int .u64 0,.int .i64 0,.bool false,.slice none 0 0,.slice none 0 0,.slice none 0 0] 41)):=⟨_,rfl⟩
 rw [← hwa] at hb hw1 hw2 hsz
 have HWa:=aj hwa
 have HB:=aj hb
 have H1:=aj hw1
 have H2:=aj hw2
 have HN:=aj (qh (h.later hb))
 have HOf:=aj (ahZ p s wa (hp.below hb) hw hm hr)
 have x0:=hw1.cell 0 (.int .i64 p.kind) rfl
 have x1:=hw1.cell 1 (.int .u64 (p.trace:Nat)) rfl
 have x2:=hw1.cell 2 (.int .u64 (p.bn:Nat)) rfl
 have x3:=hw1.cell 3 (.int .u64 (p.aZ:Nat)) rfl
 have x4:=hw1.cell 4 (.int .u64 (p.sn:Nat)) rfl
 have x5:=hw1.cell 5 (.int .u64 (p.bM:Nat)) rfl
 have x6:=hw1.cell 6 (.int .i64 p.v) rfl
 have x7:=hw1.cell 7 (.bool p.ok) rfl
 have x8:=hw1.cell 8 (.slice s.a1 p.spans.length s.c1) rfl
 have x9:=hw1.cell 9 (.slice s.a2 p.members.length s.c2) rfl
 have x10:=hw1.cell 10 (.slice s.a3 p.ids.length s.c3) rfl
 clear h hp hw hm hr hb hw1 hw2 hsz hwa
 go_enter Tryz.func11,Tryz.ntmps11
 go_wp2_with fail
 try rw [← HWa.out]
 (with_reducible refine Calls.mono HN.out ?_)
 rintro e w1 ⟨rfl,rfl⟩
 go_wp2_with fail
 (with_reducible refine Calls.mono HOf.out ?_)
 rintro e w1 ⟨V,kk,rfl,hna,hb1⟩
 have e1:∀ w:World,(Instr.typeAssert V 20 92 true).run Tryz.prog w = .ok (.tuple #[nC,.bool false]) w:=hna
 have HB1:=aj (HB.out.trans (hb1.mono HB.out.size))
 have H21:=aj (H2.out.below hb1 H2.out.lt)
 have hL:w.heap.size+1<w1.heap.size:=H21.out.lt
 have f1:=fun i=>H21.out.free i
 have u0:=H21.out.cell 0 (.int .i64 0) rfl
 have u1:=H21.out.cell 1 (.int .u64 0) rfl
 have u2:=H21.out.cell 2 (.int .u64 0) rfl
 have u3:=H21.out.cell 3 (.int .u64 0) rfl
 have u4:=H21.out.cell 4 (.int .u64 0) rfl
 have u5:=H21.out.cell 5 (.int .u64 0) rfl
 have u6:=H21.out.cell 6 (.int .i64 0) rfl
 have u7:=H21.out.cell 7 (.bool false) rfl
 have u8:=H21.out.cell 8 (.slice none 0 0) rfl
 have u9:=H21.out.cell 9 (.slice none 0 0) rfl
 have u10:=H21.out.cell 10 (.slice none 0 0) rfl
 clear hb1 hna x0 x1 x2 x3 x4 x5 x6 x7 x8 x9 x10
 go_wp2_with fail
 obtain ⟨wz,hz,hwz,hbz⟩:=afV H21.out HB1.out (Nat.le_succ _) (.int .i64 0) (.int .u64 0) (.int .u64 0) (.int .u64 0) (.int .u64 0) (.int .u64 0) (.int .i64 0) (.bool false) (.slice none 0 0) (.slice none 0 0) (.slice none 0 0) (.cells #[.int .u64 0,.int .u64 0,.int .u64 0,.int .i64 0] 92)
 rw [← hz]
 have k0:=hwz.cell 0 (.int .i64 0) rfl
 have k1:=hwz.cell 1 (.int .u64 0) rfl
 have k2:=hwz.cell 2 (.int .u64 0) rfl
 have k3:=hwz.cell 3 (.int .u64 0) rfl
 have k4:=hwz.cell 4 (.int .u64 0) rfl
 have k5:=hwz.cell 5 (.int .u64 0) rfl
 have k6:=hwz.cell 6 (.int .i64 0) rfl
 have k7:=hwz.cell 7 (.bool false) rfl
 have k8:=hwz.cell 8 (.slice none 0 0) rfl
 have k9:=hwz.cell 9 (.slice none 0 0) rfl
 have k10:=hwz.cell 10 (.slice none 0 0) rfl
 have HZ:=aj hbz
 clear hz hwz hbz
 exact bodyPost_ret (v := .tuple #[aM fU noS,.int .i64 6]) (by simp [results,Tryz.results11,go_sem,k0,k1,k2,k3,k4,k5,k6,k7,k8,k9,k10]) rfl (bH rfl HZ.out)
end
end Rp
end Go.Proofs.YtpcmlopbkehffaaGreat
namespace Go.Proofs.YtpcmlopbkehffaaGreat
open Go.RowKit Rg Bl Re Wl Dsk Fm
namespace Rp
section
variable {B:Nat} {w0 w w':World} {gr gl gd bm:Nat} {X F E:Nat→Prop} {d d':ak} {most:Int} {L L':List FS} {R R':List au} {dn dn':Bool} {N N':Nat}
end
end Rp
end Go.Proofs.YtpcmlopbkehffaaGreat
