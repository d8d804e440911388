/-
  The program's first of a file's contents, Cut and lay.
-/
import Derived.Test.YtpcmlopbkehffaaGreatOGAF
import Derived.Test.YtpcmlopbkehffaaGreatOGBA
import Derived.Lib.SlBytesConst
set_option linter.unusedSimpArgs false
set_option linter.unusedVariables false
namespace Go.Proofs.YtpcmlopbkehffaaGreat
open Go.RowKit
open Go.Maps (Keyed)
open Go.Proofs Go.Shelf
namespace Dsk
set_option maxRecDepth 100000 in
theorem abI (A:Option Addr) (n c:Nat) (l:List UInt8) (ff m:Nat) (w:World) (h:Own 0 w A n c l) (hm:m≤n) (hn:n≤1048576) :
  Calls Tryz.prog 51 #[.agg #[.slice A n c,.int .i64 (ff:Nat)],.int .i64 (m:Nat)] w (fun e w'=>∃ A' c',e = .returned (.agg #[.slice A' m c',.int .i64 (m:Nat)])∧Own w.heap.size w' A' m c' (l.take m)∧Below w.heap.size w w'):=by
 have hs:=h.sl
 have hc:=hs.cap
 have hcm:=hs.max
 have Hs:=aj ((hs.upto m hm).below ((((Below.refl w.heap.size w).alloc (Nat.le_refl _) (.cells #[.slice A n c,.int .i64 (ff:Nat)] 119))).alloc (by simp) (.cells #[.slice none 0 0,.int .i64 0] 119)))
 have HR:=aj (lG ((w.alloc (.cells #[.slice A n c,.int .i64 (ff:Nat)] 119))) (w.heap.size+1) 119 #[.slice none 0 0,.int .i64 0] (by simp))
 have Hb0:=aj ((((Below.refl w.heap.size w).alloc (Nat.le_refl _) (.cells #[.slice A n c,.int .i64 (ff:Nat)] 119))).alloc (by simp) (.cells #[.slice none 0 0,.int .i64 0] 119))
 have y1:(0:Int)≤(m:Int):=by omega
 have y2:(m:Int)≤(c:Int):=by omega
 clear h hs
 go_enter Tryz.func51,Tryz.ntmps51
 go_wp2_with (first
  | (at_builtin;refine lH rfl (.const (.slice none 0 0)) (.tmp 8) rfl (w.heap.size+1+1) none 0 0 [] rfl (Own.none _ _) A m c (l.take m) rfl Hs.out m (l.take m) (by omega) (by simp) (by omega) (by simp) ?_;intro A1 c1 w1 ho hb;have Ho:=aj ho;have R1:=aj (HR.out.below hb (by omega));have Hb1:=aj (Hb0.out.trans (hb.mono (by omega)));have r0:=R1.out.cell 0 _ rfl;have r1:=R1.out.cell 1 _ rfl;have f0:=R1.out.free 0;have f1:=R1.out.free 1;clear ho hb)
  | fail)
 exact bodyPost_ret (v := .agg #[.slice A1 m c1,.int .i64 (m:Nat)]) (by simp [results,Tryz.results51,go_sem,r0,r1]) rfl ⟨A1,c1,rfl,(Ho.out.stands (fun k hk=>by
  have h9:=World.ownsRow.lt Ho.out k (by rw [fT];exact hk)
  rw [Below.heap_setCell _ _ _ k (by show k≠w.heap.size+1;omega),Below.heap_setCell _ _ _ k (by show k≠w.heap.size+1;omega)])).mono (by omega),(Hb1.out.setCell (p:=⟨w.heap.size+1,0,none⟩) (by simp) _).setCell (p:=⟨w.heap.size+1,1,none⟩) (by simp) _⟩
theorem yU {w:World} {b n:Nat} {D:DataW Value} (hown:w.ownsMap Tryz.prog 3 eu b n D) (hn:n<maxLen) {k:Int} (hk:keyOf Tryz.prog 3 (.int .i64 k)=some (kx k)) (val:Value) :
  ∃ w',(Instr.mapUpdate 75 (.map (some b)) (.int .i64 k) val).run Tryz.prog w = .ok () w'∧w'.ownsMap Tryz.prog 3 eu b (n+1) (D.put (kx k) (.held val))∧w.grownBy w' (some b) :=
 hown.update (t:=75) kI Tryz.underlying75 hn hk (d := .held val) (ps:=[]) rfl
set_option maxRecDepth 100000 in
set_option maxHeartbeats 4000000 in
theorem aft (x size:Int) (h1 : -9223372036854775808≤x) (h2:x≤9223372036854775807) (g:Nat) (Q:Nat→Prop) (d:ak) (w:World) (h:Dk w g Q d) :
  Calls Tryz.prog 123 #[.pointer (some ⟨g,0,none⟩),.int .i64 x,.int .i64 size] w (eH w g Q (.int .i64 (iA d x size)) (gV d x size)):=by
 rcases ask_cases d x h.ok with ⟨hk,hd,j,f,rfl,hj,hf⟩ | hk
 ·rcases h.mem with ⟨m1,m2⟩ | ⟨b,D,V,m1,m2⟩
  ·exact (qX hf m2).elim
  have Hf:=aj (um g b Q d D V w m1 m2 h.qlt hd j hj f hf)
  have hlen:=uF h.ok hj hf
  have hgl:=m1.lt
  by_cases hbad:size<0∨(f.all.length:Int)<size
  ·have Hk:=aj (show iA d (j:Nat) size=1 by unfold iA;rw [if_pos hk,Int.toNat_natCast,gG hf,if_pos hbad])
   have HD:=aj (show gV d (j:Nat) size=d by unfold gV;rw [Hk.out];rfl)
   have H:=aj h
   clear h hk hd hf m1 m2
   generalize (V j).1=A at *
   generalize (V j).2=c at *
   generalize f.all.length=n at *
   generalize f.fast=ff at *
   generalize gV d (j:Nat) size=d' at *
   generalize iA d (j:Nat) size=k' at *
   rcases hbad with hbad | hbad
   ·have e1:decide (size<0)=true:=decide_eq_true hbad
    go_enter Tryz.func123,Tryz.ntmps123
    go_wp2_with fail
    refine Calls.mono Hf.out ?_
    rintro e w1 ⟨rfl,hb⟩
    have Hb:=aj (hb.alloc hb.size (.cells #[.slice A n c,.int .i64 (ff:Nat)] 119))
    clear hb
    go_wp2_with fail
    go_ret
    exact mR Hk.out.symm H.out HD.out Hb.out
   ·have e1:decide (size<0)=false:=decide_eq_false (by omega)
    have e2:decide (size>(n:Int))=true:=decide_eq_true hbad
    have e3:decide ((n:Int)<size)=true:=decide_eq_true hbad
    go_enter Tryz.func123,Tryz.ntmps123
    go_wp2_with fail
    refine Calls.mono Hf.out ?_
    rintro e w1 ⟨rfl,hb⟩
    have Hb:=aj (hb.alloc hb.size (.cells #[.slice A n c,.int .i64 (ff:Nat)] 119))
    clear hb
    go_wp2_with fail
    go_ret
    exact mR Hk.out.symm H.out HD.out Hb.out
  ·obtain ⟨m,rfl⟩:=Int.eq_ofNat_of_zero_le (show 0≤size by omega)
   have hmn:m≤f.all.length:=by omega
   have Hk:=aj (show iA d (j:Nat) (m:Nat)=0 by unfold iA;rw [if_pos hk,Int.toNat_natCast,gG hf,if_neg hbad])
   have HD:=aj (show gV d (j:Nat) (m:Nat)=dM d (aW d.F j (some ⟨f.all.take m,m⟩)) by unfold gV;rw [if_pos ⟨Hk.out,hk⟩,Int.toNat_natCast,Int.toNat_natCast];unfold qY;rw [gG hf])
   have Hown:=aj (m2.owns h.ok.high)
   have Hend:=aj (fun (wa w':World) (A':Option Addr) (c' n':Nat) (hb:Below w.heap.size w wa) (ho:Own w.heap.size wa A' m c' (f.all.take m)) (hm:w'.ownsMap Tryz.prog 3 eu b n' (D.put (kx (j:Nat)) (.held (.agg #[.slice A' m c',.int .i64 (m:Nat)])))) (hg:wa.grownBy w' (some b)) =>
    show eH w g Q (.int .i64 (iA d (j:Nat) (m:Nat))) (gV d (j:Nat) (m:Nat)) (.returned (.int .i64 0)) w' from by
     have hbl:=h.qlt b m2.bq
     have hq:∀ q,Q q→q≠b→w'.heap[q]? = w.heap[q]? := fun q hq hne=>(hg.block q (Nat.lt_of_lt_of_le (h.qlt q hq) hb.size) (by intro e;injection e with e;exact hne e)).trans (hb.block q (h.qlt q hq))
     have hD:=wS h.ok (j:Nat) (m:Nat)
     have hlm:m=(f.all.take m).length:=by rw [List.length_take];omega
     have hge:∀ k,aB A'=some k→w.heap.size≤k:=fun k e=>(World.ownsRow.lt ho k (by rw [fT];exact e)).1
     rw [HD.out] at hD ⊢
     obtain ⟨Q',h1,h2⟩:=h.put m1 m2 j A' m c' ⟨f.all.take m,m⟩ hlm _ rfl (Nat.le_trans hb.size hg.size) ⟨_,hm⟩
      (((ho.stands (fun k e=>hg.block k (ho.dB k e) (by intro e2;injection e2 with e2;have:=hge k e;omega))).mono (Nat.zero_le _)).at_ rfl rfl) (fun k e => .inr (hge k e)) (fun q hq1 hq2 _=>hq q hq1 hq2) hD
     exact jQ (by rw [Hk.out]) h1 rfl ((Tn.of_below hb).grown hg (fun k e=>by injection e with e;exact .inl (e ▸ m2.bq))) h2)
   have Hfi:=aj (fun (W:World) (hb:Below w.heap.size w W)=>abI (V j).1 f.all.length (V j).2 f.all f.fast m W ((m2.row j f hf).later hb) hmn hlen)
   obtain ⟨c0,c1,c2,c3,c4,-⟩:=gW m1
   clear h hk hd hf m1 m2 hbad
   generalize (V j).1=A at *
   generalize (V j).2=c at *
   generalize f.all.take m=lm at *
   generalize f.all.length=n at *
   generalize f.fast=ff at *
   have e1:decide ((m:Int)<0)=false:=decide_eq_false (by omega)
   have e2:decide (n<m)=false:=decide_eq_false (by omega)
   go_enter Tryz.func123,Tryz.ntmps123
   go_wp2_with fail
   refine Calls.mono Hf.out ?_
   rintro e w1 ⟨rfl,hb⟩
   have hz:=hb.size
   obtain ⟨wz,Hwz,z1,z2,z3,Hb⟩:∃ wz,wz=w1.alloc (.cells #[.slice A n c,.int .i64 (ff:Nat)] 119)∧wz.cell? ⟨g,1,none⟩=some (.map (some b))∧wz.cell? ⟨w1.heap.size,0,none⟩=some (.slice A n c)∧wz.cell? ⟨w1.heap.size,1,none⟩=some (.int .i64 (ff:Nat))∧Hid (Below w.heap.size w wz):=by
    refine ⟨_,rfl,?_,?_,?_,aj (hb.alloc hb.size _)⟩
    ·rw [(hb.alloc hb.size _).cell (p:=⟨g,1,none⟩) hgl];exact c1
    ·exact (aP w1 _ _).cell 0 _ rfl
    ·exact (aP w1 _ _).cell 1 _ rfl
   have Hwz':=aj Hwz
   have hlt1:=lt_of_cell z1
   have hlt2:=lt_of_cell z2
   clear hb Hwz
   go_wp2_with fail
   rw [← Hwz'.out]
   clear Hwz'
   have Hbd:=aj Hb.out.drew
   have z1d:wz.drew.cell? ⟨g,1,none⟩=some (.map (some b)):=z1
   have z2d:wz.drew.cell? ⟨w1.heap.size,0,none⟩=some (.slice A n c):=z2
   have z3d:wz.drew.cell? ⟨w1.heap.size,1,none⟩=some (.int .i64 (ff:Nat)):=z3
   go_region_law (first
    | (go_simp;go_at_call 51;(with_reducible refine Calls.mono (Hfi.out _ Hbd.out) ?_);rintro e w2 ⟨A',c',rfl,ho2,hb2⟩;have Ho2:=aj (Own.mono ho2 Hbd.out.size);have Hb2:=aj (Hbd.out.trans (hb2.mono Hbd.out.size));have z1e:w2.cell? ⟨g,1,none⟩=some (.map (some b)):=(hb2.cell (p:=⟨g,1,none⟩) hlt1).trans z1;obtain ⟨w3,hrun3,hm3,hg3⟩:=yU (World.ownsMap.kept Hown.out (rD Hb2.out (Nat.le_refl _) none) (by simp)) (by unfold maxLen;omega) (lW h1 h2) (.agg #[.slice A' m c',.int .i64 (m:Nat)]);have Hm3:=aj hm3;have Hg3:=aj hg3;clear ho2 hb2 hm3 hg3)
    | fail)
   all_goals
    go_wp2_with fail
    go_ret
    exact Hend.out w2 w3 A' c' _ Hb2.out Ho2.out Hm3.out Hg3.out
 ·have Hk:=aj (show iA d x size=bE d x by unfold iA;rw [if_neg hk])
  have HD:=aj (show gV d x size=d by unfold gV;rw [if_neg (fun hc=>hk hc.2)])
  have Hf:=aj (uj g Q d w h x h1 h2 hk)
  have hk':(bE d x==0)=false:=beq_eq_false_iff_ne.2 hk
  have hk2:(bE d x != 0)=true:=by simp [bne,hk']
  have H:=aj h
  clear h hk
  generalize gV d x size=d' at *
  generalize iA d x size=k' at *
  generalize bE d x=k at *
  go_enter Tryz.func123,Tryz.ntmps123
  go_wp2_with fail
  refine Calls.mono Hf.out ?_
  rintro e w1 ⟨rfl,hb⟩
  have Hb:=aj (hb.alloc hb.size (.cells #[.slice none 0 0,.int .i64 0] 119))
  clear hb
  go_wp2_with fail
  go_ret
  exact mR Hk.out.symm H.out HD.out Hb.out
end Dsk
end Go.Proofs.YtpcmlopbkehffaaGreat
namespace Go.Proofs.YtpcmlopbkehffaaGreat
open Go.RowKit
open Go.Maps (Keyed)
open Go.Proofs Go.Shelf
namespace Dsk
theorem ab6 {d:ak} (h:DOk d) {j:Nat} (hj:j<64) {b:List UInt8} (hb:bR d.F+b.length≤d.room):DOk (dM d (cO d.F j b)):=by
 refine ⟨h.ko,h.fM,?_,ab7 h.fast j _,?_,h.left⟩
 ·show bR (cO d.F j _)≤d.room
  rw [sO _ _ hj]
  omega
 ·intro i hi
  show cO d.F j _ i=none
  rw [cO,cZ _ _ (by omega)]
  exact h.high i hi
theorem dN.slot {w:World} {g b:Nat} {Q:Nat→Prop} {F:Files} {D:DataW Value} {V:Nat→Option Addr×Nat} (h:dN w g b Q F D V) (j:Nat) (hj:j<64) :
  ∃ A c,(Instr.lookup 75 (.map (some b)) (.int .i64 (j:Nat)) false).run Tryz.prog w = .ok (.agg #[.slice A (fileAt F j).all.length c,.int .i64 ((fileAt F j).fast:Nat)]) w ∧
    Own 0 w A (fileAt F j).all.length c (fileAt F j).all∧∀ k,aB A=some k→(F j).isSome=true∧aB (V j).1=some k:=by
 have h3:=h.look (j:Nat) (by omega) (by omega) false
 rw [if_neg (by decide),Int.toNat_natCast] at h3
 cases hf:F j with
 | none =>
   rw [hf,if_neg (by simp)] at h3
   have e:fileAt F j=⟨[],0⟩:=by simp [fileAt,hf]
   rw [e]
   exact ⟨none,0,h3,Own.none _ _,fun k e=>by cases e⟩
 | some f =>
   rw [hf,if_pos ⟨by omega,rfl⟩,gG hf] at h3
   rw [gG hf]
   exact ⟨(V j).1,(V j).2,h3,h.row j f hf,fun k e=>⟨rfl,e⟩⟩
theorem ag8 (b:Nat) (W:World):Sem.run Tryz.prog (binOp BinOp.eql 75 (.map (some b)) (.map none)) W = .ok (.bool false) W:=by kernel_rfl
theorem ag9 (W:World):Sem.run Tryz.prog (binOp BinOp.eql 75 (.map none) (.map none)) W = .ok (.bool true) W:=by kernel_rfl
set_option maxRecDepth 100000 in
set_option maxHeartbeats 4000000 in
theorem agE (j:Nat) (hj:j<64) (Ab:Option Addr) (nb cb:Nat) (bs:List UInt8) (g b:Nat) (Q:Nat→Prop) (d:ak) (D:DataW Value) (V:Nat→Option Addr×Nat) (w:World) (h:Dk w g Q d) (m1:Whole w g 77 (cellsD (some b) d)) (m2:dN w g b Q d.F D V)
  (hb:Sl w Ab nb cb bs) (hroom:bR d.F+bs.length≤d.room) :
  Calls Tryz.prog 88 #[.pointer (some ⟨g,0,none⟩),.int .i64 (j:Nat),.slice Ab nb cb] w (eH w g Q (.tuple #[]) (dM d (cO d.F j bs))):=by
 obtain ⟨A,c,hlook,hown,hblk⟩:=m2.slot j hj
 have hgl:=m1.lt
 have hlen:(fileAt d.F j).all.length+bs.length≤1048576:=by
  have:=qo d.F hj
  rw [sK] at this
  have:=h.ok.fM
  omega
 have Hown:=aj (m2.owns h.ok.high)
 have hgA:aB A≠some g:=fun e=>(m2.blk j g (hblk g e).1 (hblk g e).2).2.2 rfl
 have hbA:aB A≠some b:=fun e=>(m2.blk j b (hblk b e).1 (hblk b e).2).2.1 rfl
 have hlA:∀ k,aB A=some k→k<w.heap.size:=hown.dB
 have hnb:nb=bs.length:=hb.len.symm
 have Hend:=aj (fun (w1 w2 w':World) (A':Option Addr) (N c' n':Nat) (hN:N=(fileAt d.F j).all.length+nb) (ho:Own 0 w1 A' N c' ((fileAt d.F j).all++bs)) (hg1:(w.alloc (.cells #[.slice A (fileAt d.F j).all.length c,.int .i64 ((fileAt d.F j).fast:Nat)] 119)).grownBy w1 (aB A)) (hat:aB A'=aB A∨aB A'=some (w.heap.size+1))
   (hg2:w1.grownBy w2 (some w.heap.size)) (hm:w'.ownsMap Tryz.prog 3 eu b n' (D.put (kx (j:Nat)) (.held (.agg #[.slice A' N c',.int .i64 ((fileAt d.F j).fast:Nat)])))) (hg3:w2.grownBy w' (some b)) =>
  show eH w g Q (.tuple #[]) (dM d (cO d.F j bs)) (.returned (.tuple #[])) w' from by
   have hbl:=h.qlt b m2.bq
   have hs1:w.heap.size+1≤w1.heap.size:=by have:=hg1.size;simpa using this
   have hs2:w1.heap.size≤w2.heap.size:=hg2.size
   have hs3:w2.heap.size≤w'.heap.size:=hg3.size
   have hq:∀ q,q<w.heap.size→q≠b→aB A≠some q→w'.heap[q]? = w.heap[q]? := fun q hq hne hnA =>
    (hg3.block q (by omega) (by intro e;injection e with e;exact hne e)).trans ((hg2.block q (by omega) (by intro e;injection e with e;omega)).trans ((hg1.block q (by simp;omega) (fun e=>hnA e.symm)).trans (Below.heap_alloc _ _ q hq)))
   have hA':∀ k,aB A'=some k→((d.F j).isSome=true∧aB (V j).1=some k)∨w.heap.size≤k:=by
    intro k e
    rcases hat with e2 | e2
    ·rw [e2] at e;exact .inl (hblk k e)
    ·rw [e2] at e;injection e with e;exact .inr (by omega)
   have hw1:∀ k,aB A'=some k→k≠b∧k≠w.heap.size∧k<w1.heap.size:=by
    intro k e
    refine ⟨?_,?_,ho.dB k e⟩
    ·rcases hA' k e with ⟨h1,h2⟩ | h1
     ·exact (m2.blk j k h1 h2).2.1
     ·omega
    ·rcases hat with e2 | e2
     ·rw [e2] at e;have:=hlA k e;omega
     ·rw [e2] at e;injection e with e;omega
   have hD:=ab6 h.ok hj hroom
   obtain ⟨Q',h1,h2⟩:=h.put m1 m2 j A' N c' ⟨(fileAt d.F j).all++bs,(fileAt d.F j).fast⟩ (show N=((fileAt d.F j).all++bs).length by rw [List.length_append];omega) _ rfl (by omega) ⟨_,hm⟩
    (ho.stands (fun k e=>(hg3.block k (by have:=(hw1 k e).2.2;omega) (by intro e2;injection e2 with e2;exact (hw1 k e).1 e2)).trans (hg2.block k (hw1 k e).2.2 (by intro e2;injection e2 with e2;exact (hw1 k e).2.1 e2))))
    hA' (fun q hq1 hq2 hq3=>hq q (h.qlt q hq1) hq2 (fun e=>hq3 (hblk q e).1 (hblk q e).2)) hD
   refine jQ rfl h1 rfl ?_ h2
   refine ((((Tn.refl Q w).alloc _).grown hg1 (fun k e=>?_)).grown hg2 (fun k e=>?_)).grown hg3 (fun k e=>?_)
   ·exact .inl (m2.blk j k (hblk k e).1 (hblk k e).2).1
   ·injection e with e;exact .inr (by omega)
   ·injection e with e;exact .inl (e ▸ m2.bq))
 obtain ⟨c0,c1,c2,c3,c4,-⟩:=gW m1
 have HownA:=aj (hown.alloc (.cells #[.slice A (fileAt d.F j).all.length c,.int .i64 ((fileAt d.F j).fast:Nat)] 119))
 have HslB:=aj (hb.below ((Below.refl _ _).alloc (Nat.le_refl _) (.cells #[.slice A (fileAt d.F j).all.length c,.int .i64 ((fileAt d.F j).fast:Nat)] 119)))
 have HB:=aj (aP w 119 #[.slice A (fileAt d.F j).all.length c,.int .i64 ((fileAt d.F j).fast:Nat)])
 have HG:=aj (m1.alloc (.cells #[.slice A (fileAt d.F j).all.length c,.int .i64 ((fileAt d.F j).fast:Nat)] 119))
 have HownM:=aj (World.ownsMap.alloc Hown.out (.cells #[.slice A (fileAt d.F j).all.length c,.int .i64 ((fileAt d.F j).fast:Nat)] 119))
 have HbA:=aj hbA
 have HgA:=aj hgA
 have HlA:=aj hlA
 clear h m1 m2 hb hown hblk hgA hbA hlA hroom
 generalize dM d (cO d.F j bs)=d' at *
 generalize (fileAt d.F j).all=l at *
 generalize (fileAt d.F j).fast=ff at *
 have Hnb:=aj hnb
 obtain ⟨n,hn⟩:∃ n,n=l.length:=⟨_,rfl⟩
 have hnn:n+nb≤1048576:=by omega
 simp only [← hn] at *
 clear hn hnb hlen
 have heq:=ag8 b
 go_enter Tryz.func88,Tryz.ntmps88
 go_wp2_with (first
  | (at_builtin;refine vF rfl (.tmp 23) (.tmp 24) rfl 0 A n c l rfl HownA.out Ab nb cb bs rfl HslB.out (n+nb) (l++bs) rfl rfl (by omega) (Nat.zero_le _) ?_;intro A' c' w1 ho hb hg hat;rw [fT] at hg hat;rw [fT] at hat;have Ho:=aj ho;have Hg:=aj hg;have Hat:=aj hat;have B1:=aj (kC HB.out hg (fun e=>by have:=HlA.out _ e;omega));have G1:=aj (kC HG.out hg HgA.out);have M1:=aj (World.ownsMap.kept HownM.out hg (fun e=>HbA.out e.symm));have b0:=B1.out.cell 0 _ rfl;have bf:=B1.out.free 0;have hz1:w.heap.size+1≤w1.heap.size:=(by have:=hg.size;simpa using this);clear ho hb hg hat)
  | fail)
 have B2:=aj (B1.out.store 0 (.slice A' (n+nb) c'))
 have hgne:g≠w.heap.size:=by omega
 have G2:=aj (G1.out.far (p:=⟨w.heap.size,0,none⟩) hgne (.slice A' (n+nb) c'))
 have hbl:b<w.heap.size:=Hown.out.lt
 have hbne:b≠w.heap.size:=by omega
 have M2:=aj (World.ownsMap.setCell M1.out (a:=⟨w.heap.size,0,none⟩) hbne (.slice A' (n+nb) c'))
 have Hg2:=aj (xC w1 w.heap.size 0 (.slice A' (n+nb) c'))
 clear b0 bf
 generalize hwz:w1.setCell ⟨w.heap.size,0,none⟩ (.slice A' (n+nb) c')=wz at *
 clear hwz
 have z1:=G2.out.cell 1 _ rfl
 have z2:=B2.out.cell 0 _ rfl
 have z3:=B2.out.cell 1 _ rfl
 go_still_tail 6,(by kernel_rfl)
 have M3:=aj M2.out.drew
 have Hg3:=aj (abX Hg2.out)
 go_wp2_with (first
  | (at_mapUpdate;refine wpList_mapUpdate_own _ rfl _ _ _ 75 rfl 3 119 kI Tryz.underlying75 _ b 64 _ rfl M3.out (by unfold maxLen;omega) _ _ _ rfl rfl (lW (by omega) (by omega)) (.held (.agg #[.slice A' (n+nb) c',.int .i64 (ff:Nat)])) [] rfl ?_;intro w2 hm hg)
  | fail)
 go_end0
 exact Hend.out w1 _ w2 A' (n+nb) c' 65 (by rw [Hnb.out]) Ho.out Hg.out (by simpa using Hat.out) Hg3.out hm hg
end Dsk
end Go.Proofs.YtpcmlopbkehffaaGreat
namespace Go.Proofs.YtpcmlopbkehffaaGreat
open Go.RowKit
open Go.Maps (Keyed)
open Go.Proofs Go.Shelf
namespace Dsk
theorem afD {w wA w':World} {g:Nat} {Q QA:Nat→Prop} {v:Value} {d:ak} {e:Ending} (h0:Tn Q w wA) (hq:∀ q,QA q→Q q∨w.heap.size≤q) (hs:w.heap.size≤wA.heap.size) (h:eH wA g QA v d e w'):eH w g Q v d e w':=by
 obtain ⟨he,Q',h1,h2,h3⟩:=h
 refine ⟨he,Q',h1,h0.trans h2 hq,fun q hq2=>?_⟩
 rcases h3 q hq2 with h4 | h4
 ·exact hq q h4
 ·exact .inr (by omega)
set_option maxRecDepth 100000 in
set_option maxHeartbeats 4000000 in
theorem agD (j:Nat) (hj:j<64) (Ab:Option Addr) (nb cb:Nat) (bs:List UInt8) (g:Nat) (Q:Nat→Prop) (d:ak) (w:World) (h0:Dk w g Q d) (m0:Whole w g 77 (cellsD none d)) (hF:d.F=noF)
  (hb0:Sl w Ab nb cb bs) (hQb:∀ a,Ab=some a→bs≠[]→a.block≠g) (hroom:bR d.F+bs.length≤d.room) :
  Calls Tryz.prog 88 #[.pointer (some ⟨g,0,none⟩),.int .i64 (j:Nat),.slice Ab nb cb] w (eH w g Q (.tuple #[]) (dM d (cO d.F j bs))):=by
 have hgl0:=m0.lt
 obtain ⟨c00,c10,c20,c30,c40,cf0⟩:=gW m0
 have cf1:=cf0 1
 obtain ⟨wA,HwA,m1,m2,h,hb,H0,HqA,hszA⟩:∃ wA,(w.alloc (.map #[] 0)).setCell ⟨g,1,none⟩ (.map (some w.heap.size))=wA∧Whole wA g 77 (cellsD (some w.heap.size) d)∧dN wA g w.heap.size (fun q=>Q q∨q=w.heap.size) d.F (.map []) (fun _=>(none,0))∧Dk wA g (fun q=>Q q∨q=w.heap.size) d∧Sl wA Ab nb cb bs∧Hid (Tn Q w wA)∧Hid (∀ q,(Q q∨q=w.heap.size)→Q q∨w.heap.size≤q)∧w.heap.size≤wA.heap.size:=by
  have e1:Whole ((w.alloc (.map #[] 0)).setCell ⟨g,1,none⟩ (.map (some w.heap.size))) g 77 (cellsD (some w.heap.size) d):=(m0.alloc (.map #[] 0)).store 1 _
  have e2:dN ((w.alloc (.map #[] 0)).setCell ⟨g,1,none⟩ (.map (some w.heap.size))) g w.heap.size (fun q=>Q q∨q=w.heap.size) d.F (.map []) (fun _=>(none,0)):=by
   rw [hF]
   exact (afU w g w.heap.size rfl (by omega) _ (.inr rfl)).stands (fun q hq hne=>Below.heap_setCell _ _ _ q hne)
  refine ⟨_,rfl,e1,e2,⟨h0.ok,.inl h0.qg,?_,.inr ⟨_,_,_,e1,e2⟩⟩,?_,aj (((Tn.refl Q w).alloc _).set (.inl h0.qg) 1 _),aj (fun q hq=>?_),by simp⟩
  ·rintro q (hq | rfl)
   ·have:=h0.qlt q hq;simp;omega
   ·simp
  ·exact ak2 (hb0.below ((Below.refl _ _).alloc (Nat.le_refl _) _)) hQb 1 _
  ·rcases hq with hq | hq
   ·exact .inl hq
   ·exact .inr (by omega)
 clear h0 m0 hb0 hF hQb
 obtain ⟨A,c,hlook,hown,hblk⟩:=m2.slot j hj
 have hgl:=m1.lt
 have hlen:(fileAt d.F j).all.length+bs.length≤1048576:=by
  have:=qo d.F hj
  rw [sK] at this
  have:=h.ok.fM
  omega
 have Hown:=aj (m2.owns h.ok.high)
 have hgA:aB A≠some g:=fun e=>(m2.blk j g (hblk g e).1 (hblk g e).2).2.2 rfl
 have hbA:aB A≠some w.heap.size:=fun e=>(m2.blk j w.heap.size (hblk w.heap.size e).1 (hblk w.heap.size e).2).2.1 rfl
 have hlA:∀ k,aB A=some k→k<wA.heap.size:=hown.dB
 have hnb:nb=bs.length:=hb.len.symm
 have Hend:=aj (fun (w1 w2 w':World) (A':Option Addr) (N c' n':Nat) (hN:N=(fileAt d.F j).all.length+nb) (ho:Own 0 w1 A' N c' ((fileAt d.F j).all++bs)) (hg1:(wA.alloc (.cells #[.slice A (fileAt d.F j).all.length c,.int .i64 ((fileAt d.F j).fast:Nat)] 119)).grownBy w1 (aB A)) (hat:aB A'=aB A∨aB A'=some (wA.heap.size+1))
   (hg2:w1.grownBy w2 (some wA.heap.size)) (hm:w'.ownsMap Tryz.prog 3 eu w.heap.size n' ((DataW.map []:DataW Value).put (kx (j:Nat)) (.held (.agg #[.slice A' N c',.int .i64 ((fileAt d.F j).fast:Nat)])))) (hg3:w2.grownBy w' (some w.heap.size)) =>
  show eH wA g (fun q=>Q q∨q=w.heap.size) (.tuple #[]) (dM d (cO d.F j bs)) (.returned (.tuple #[])) w' from by
   have hbl:=h.qlt w.heap.size m2.bq
   have hs1:wA.heap.size+1≤w1.heap.size:=by have:=hg1.size;simpa using this
   have hs2:w1.heap.size≤w2.heap.size:=hg2.size
   have hs3:w2.heap.size≤w'.heap.size:=hg3.size
   have hq:∀ q,q<wA.heap.size→q≠w.heap.size→aB A≠some q→w'.heap[q]? = wA.heap[q]? := fun q hq hne hnA =>
    (hg3.block q (by omega) (by intro e;injection e with e;exact hne e)).trans ((hg2.block q (by omega) (by intro e;injection e with e;omega)).trans ((hg1.block q (by simp;omega) (fun e=>hnA e.symm)).trans (Below.heap_alloc _ _ q hq)))
   have hA':∀ k,aB A'=some k→((d.F j).isSome=true∧aB ((fun _:Nat=>((none:Option Addr),0)) j).1=some k)∨wA.heap.size≤k:=by
    intro k e
    rcases hat with e2 | e2
    ·rw [e2] at e;exact .inl (hblk k e)
    ·rw [e2] at e;injection e with e;exact .inr (by omega)
   have hw1:∀ k,aB A'=some k→k≠w.heap.size∧k≠wA.heap.size∧k<w1.heap.size:=by
    intro k e
    refine ⟨?_,?_,ho.dB k e⟩
    ·rcases hA' k e with ⟨h1,h2⟩ | h1
     ·exact (m2.blk j k h1 h2).2.1
     ·omega
    ·rcases hat with e2 | e2
     ·rw [e2] at e;have:=hlA k e;omega
     ·rw [e2] at e;injection e with e;omega
   have hD:=ab6 h.ok hj hroom
   obtain ⟨Q',h1,h2⟩:=h.put m1 m2 j A' N c' ⟨(fileAt d.F j).all++bs,(fileAt d.F j).fast⟩ (show N=((fileAt d.F j).all++bs).length by rw [List.length_append];omega) _ rfl (by omega) ⟨_,hm⟩
    (ho.stands (fun k e=>(hg3.block k (by have:=(hw1 k e).2.2;omega) (by intro e2;injection e2 with e2;exact (hw1 k e).1 e2)).trans (hg2.block k (hw1 k e).2.2 (by intro e2;injection e2 with e2;exact (hw1 k e).2.1 e2))))
    hA' (fun q hq1 hq2 hq3=>hq q (h.qlt q hq1) hq2 (fun e=>hq3 (hblk q e).1 (hblk q e).2)) hD
   refine jQ rfl h1 rfl ?_ h2
   refine ((((Tn.refl _ wA).alloc _).grown hg1 (fun k e=>?_)).grown hg2 (fun k e=>?_)).grown hg3 (fun k e=>?_)
   ·exact .inl (m2.blk j k (hblk k e).1 (hblk k e).2).1
   ·injection e with e;exact .inr (by omega)
   ·injection e with e;exact .inl (e ▸ m2.bq))
 obtain ⟨c0,c1,c2,c3,c4,-⟩:=gW m1
 have HownA:=aj (hown.alloc (.cells #[.slice A (fileAt d.F j).all.length c,.int .i64 ((fileAt d.F j).fast:Nat)] 119))
 have HslB:=aj (hb.below ((Below.refl _ _).alloc (Nat.le_refl _) (.cells #[.slice A (fileAt d.F j).all.length c,.int .i64 ((fileAt d.F j).fast:Nat)] 119)))
 have HB:=aj (aP wA 119 #[.slice A (fileAt d.F j).all.length c,.int .i64 ((fileAt d.F j).fast:Nat)])
 have HG:=aj (m1.alloc (.cells #[.slice A (fileAt d.F j).all.length c,.int .i64 ((fileAt d.F j).fast:Nat)] 119))
 have HownM:=aj (World.ownsMap.alloc Hown.out (.cells #[.slice A (fileAt d.F j).all.length c,.int .i64 ((fileAt d.F j).fast:Nat)] 119))
 have HbA:=aj hbA
 have HgA:=aj hgA
 have HlA:=aj hlA
 clear h m1 m2 hb hown hblk hgA hbA hlA hroom
 generalize dM d (cO d.F j bs)=d' at *
 generalize (fileAt d.F j).all=l at *
 generalize (fileAt d.F j).fast=ff at *
 have Hnb:=aj hnb
 obtain ⟨n,hn⟩:∃ n,n=l.length:=⟨_,rfl⟩
 have hnn:n+nb≤1048576:=by omega
 simp only [← hn] at *
 clear hn hnb hlen
 have heq:=ag9
 have hmm:=@run_makeMap Tryz.prog
 go_enter Tryz.func88,Tryz.ntmps88
 go_wp2_with (first
  | (at_builtin;refine vF rfl (.tmp 23) (.tmp 24) rfl 0 A n c l rfl HownA.out Ab nb cb bs rfl HslB.out (n+nb) (l++bs) rfl rfl (by omega) (Nat.zero_le _) ?_;intro A' c' w1 ho hb hg hat;rw [fT] at hg hat;rw [fT] at hat;have Ho:=aj ho;have Hg:=aj hg;have Hat:=aj hat;have B1:=aj (kC HB.out hg (fun e=>by have:=HlA.out _ e;omega));have G1:=aj (kC HG.out hg HgA.out);have M1:=aj (World.ownsMap.kept HownM.out hg (fun e=>HbA.out e.symm));have b0:=B1.out.cell 0 _ rfl;have bf:=B1.out.free 0;have hz1:wA.heap.size+1≤w1.heap.size:=(by have:=hg.size;simpa using this);clear ho hb hg hat)
  | fail)
 have B2:=aj (B1.out.store 0 (.slice A' (n+nb) c'))
 have hgne:g≠wA.heap.size:=by omega
 have G2:=aj (G1.out.far (p:=⟨wA.heap.size,0,none⟩) hgne (.slice A' (n+nb) c'))
 have hbl:w.heap.size<wA.heap.size:=Hown.out.lt
 have hbne:w.heap.size≠wA.heap.size:=by omega
 have M2:=aj (World.ownsMap.setCell M1.out (a:=⟨wA.heap.size,0,none⟩) hbne (.slice A' (n+nb) c'))
 have Hg2:=aj (xC w1 wA.heap.size 0 (.slice A' (n+nb) c'))
 clear b0 bf
 generalize hwz:w1.setCell ⟨wA.heap.size,0,none⟩ (.slice A' (n+nb) c')=wz at *
 clear hwz
 have z1:=G2.out.cell 1 _ rfl
 have z2:=B2.out.cell 0 _ rfl
 have z3:=B2.out.cell 1 _ rfl
 go_still_tail 6,(by kernel_rfl)
 have M3:=aj M2.out.drew
 have Hg3:=aj (abX Hg2.out)
 go_wp2_with (first
  | (at_mapUpdate;refine wpList_mapUpdate_own _ rfl _ _ _ 75 rfl 3 119 kI Tryz.underlying75 _ w.heap.size 64 _ rfl M3.out (by unfold maxLen;omega) _ _ _ rfl rfl (lW (by omega) (by omega)) (.held (.agg #[.slice A' (n+nb) c',.int .i64 (ff:Nat)])) [] rfl ?_;intro w2 hm hg)
  | fail)
 go_end0
 exact afD H0.out HqA.out hszA (Hend.out w1 _ w2 A' (n+nb) c' 65 (by rw [Hnb.out]) Ho.out Hg.out (by simpa using Hat.out) Hg3.out hm hg)
end Dsk
end Go.Proofs.YtpcmlopbkehffaaGreat
namespace Go.Proofs.YtpcmlopbkehffaaGreat
open Go.RowKit
open Go.Maps (Keyed)
open Go.Proofs Go.Shelf
namespace Dsk
theorem agC (j:Nat) (hj:j<64) (Ab:Option Addr) (nb cb:Nat) (bs:List UInt8) (g:Nat) (Q:Nat→Prop) (d:ak) (w:World) (h:Dk w g Q d)
  (hb:Sl w Ab nb cb bs) (hQb:∀ a,Ab=some a→bs≠[]→a.block≠g) (hroom:bR d.F+bs.length≤d.room) :
  Calls Tryz.prog 88 #[.pointer (some ⟨g,0,none⟩),.int .i64 (j:Nat),.slice Ab nb cb] w (eH w g Q (.tuple #[]) (dM d (cO d.F j bs))):=by
 rcases h.mem with ⟨m1,m2⟩ | ⟨b,D,V,m1,m2⟩
 ·exact agD j hj Ab nb cb bs g Q d w h m1 m2 hb hQb hroom
 ·exact agE j hj Ab nb cb bs g b Q d D V w h m1 m2 hb hroom
theorem append_nil (x:Int) (Ab:Option Addr) (nb cb:Nat) (w:World):Calls Tryz.prog 56 #[.pointer none,.int .i64 x,.slice Ab nb cb] w (fun e w'=>e = .returned (.int .i64 13)∧w=w'):=by
 go_enter Tryz.func56,Tryz.ntmps56
 go_wp2_with fail
 refine Calls.mono (alY _) ?_
 rintro e w1 ⟨rfl,rfl⟩
 go_wp2_with fail
 go_ret
 exact ⟨rfl,rfl⟩
theorem wF (x:Int) (Ab:Option Addr) (nb cb:Nat) (g:Nat) (Q:Nat→Prop) (d:ak) (w:World) (h:Dk w g Q d) (hd:d.down=true):Calls Tryz.prog 56 #[.pointer (some ⟨g,0,none⟩),.int .i64 x,.slice Ab nb cb] w (eH w g Q (.int .i64 10) d):=by
 have Hu:=aj (qy g Q d w h)
 rw [hd] at Hu
 have H:=aj h
 clear h hd
 go_enter Tryz.func56,Tryz.ntmps56
 go_wp2_with fail
 refine Calls.mono Hu.out ?_
 rintro e w1 ⟨rfl,rfl⟩
 go_wp2_with fail
 go_ret
 exact mR rfl H.out rfl (Below.refl _ _)
theorem aeI (x:Int) (hx:x<0∨64≤x) (Ab:Option Addr) (nb cb:Nat) (g:Nat) (Q:Nat→Prop) (d:ak) (w:World) (h:Dk w g Q d) (hd:d.down=false):Calls Tryz.prog 56 #[.pointer (some ⟨g,0,none⟩),.int .i64 x,.slice Ab nb cb] w (eH w g Q (.int .i64 1) d):=by
 have Hu:=aj (qy g Q d w h)
 rw [hd] at Hu
 have H:=aj h
 clear h hd
 rcases hx with hx | hx
 ·have e1:decide (x<0)=true:=decide_eq_true hx
  go_enter Tryz.func56,Tryz.ntmps56
  go_wp2_with fail
  refine Calls.mono Hu.out ?_
  rintro e w1 ⟨rfl,rfl⟩
  go_wp2_with fail
  go_ret
  exact mR rfl H.out rfl (Below.refl _ _)
 ·have e1:decide (x<0)=false:=decide_eq_false (by omega)
  have e2:decide (64≤x)=true:=decide_eq_true hx
  go_enter Tryz.func56,Tryz.ntmps56
  go_wp2_with fail
  refine Calls.mono Hu.out ?_
  rintro e w1 ⟨rfl,rfl⟩
  go_wp2_with fail
  go_ret
  exact mR rfl H.out rfl (Below.refl _ _)
set_option maxRecDepth 100000 in
set_option maxHeartbeats 2000000 in
theorem aeJ (j:Nat) (hj:j<64) (Ab:Option Addr) (nb cb:Nat) (bs:List UInt8) (g:Nat) (Q:Nat→Prop) (d:ak) (w:World) (h:Dk w g Q d) (hd:d.down=false)
  (hb:Sl w Ab nb cb bs) (hQb:∀ a,Ab=some a→bs≠[]→¬ Q a.block) (hnb:nb≤140737488355328) :
  Calls Tryz.prog 56 #[.pointer (some ⟨g,0,none⟩),.int .i64 (j:Nat),.slice Ab nb cb] w (eH w g Q (.int .i64 (bU d (j:Nat) bs.length)) (bX d (j:Nat) bs)):=by
 have Hu:=aj (qy g Q d w h)
 rw [hd] at Hu
 have H:=aj h
 have hlen:bs.length=nb:=hb.len
 have hcb:=hb.cap
 have hcm:=hb.max
 have hused:=h.ok.used
 have hroom2:=h.ok.fM
 have ej1:decide ((j:Int)<0)=false:=decide_eq_false (by omega)
 have ej2:decide (64≤j)=false:=decide_eq_false (by omega)
 have ej3:decide ((64:Int)≤(j:Int))=false:=decide_eq_false (by omega)
 have ej4:decide ((j:Int) ≥ (64:Int))=false:=decide_eq_false (by omega)
 have HUs:=aj (fun (W:World) (hb:Below w.heap.size w W)=>alZ g Q d W (h.below hb))
 obtain ⟨mm,m0⟩:=h.cells
 obtain ⟨c0,c1,c2,c3,c4,-⟩:=gW m0
 have hgl:=m0.lt
 have Hd:=aj hd
 clear m0
 by_cases hfull:d.room<bR d.F+nb
 ·have HK:=aj (show bU d (j:Nat) bs.length=9 by unfold bU;rw [hd,hlen];simp only [Bool.false_eq_true,if_false];rw [if_neg (by omega),if_pos hfull])
  have HD:=aj (show bX d (j:Nat) bs=d by unfold bX;rw [hd,hlen];simp only [Bool.false_eq_true,if_false];rw [if_neg (by omega),if_pos hfull])
  clear h hd hb hQb hlen
  generalize bU d (j:Nat) bs.length=k' at *
  generalize bX d (j:Nat) bs=d' at *
  rcases d with ⟨room,F,armed,left,down⟩
  simp only at *
  generalize hu:bR F=u at *
  clear hu
  have e3:IntKind.i64.wrap ((room:Int)-(u:Int))=(room:Int)-(u:Int):=IntWalk.i64_in _ (by omega)
  have e4:decide ((nb:Int)>(room:Int)-(u:Int))=true:=decide_eq_true (by omega)
  have e5:decide ((room:Int)-(u:Int)<(nb:Int))=true:=decide_eq_true (by omega)
  go_enter Tryz.func56,Tryz.ntmps56
  go_wp2_with fail
  refine Calls.mono Hu.out ?_
  rintro e w1 ⟨rfl,rfl⟩
  go_wp2_with fail
  have Hbd:=aj (Below.drew (Below.refl w.heap.size w))
  have c0d:w.drew.cell? ⟨g,0,none⟩=some (.int .i64 (room:Nat)):=c0
  go_region_law (first
   | (go_simp;go_at_call 86;(with_reducible refine Calls.mono (HUs.out _ Hbd.out) ?_);rintro e w2 ⟨rfl,hb2⟩;have Hb2:=aj (Hbd.out.trans (hb2.mono Hbd.out.size));have c0e:w2.cell? ⟨g,0,none⟩=some (.int .i64 (room:Nat)):=(hb2.cell (p:=⟨g,0,none⟩) hgl).trans c0;clear hb2)
   | fail)
  all_goals
   go_wp2_with fail
   go_ret
   exact mR HK.out.symm H.out HD.out Hb2.out
 ·have hQ0:∀ a,Ab=some a→bs≠[]→a.block≠g:=fun a e hne e2=>hQb a e hne (e2 ▸ h.qg)
  have hle:=ad2 d nb
  have HTk:=aj (fun (W:World) (hb:Below w.heap.size w W)=>alu nb (by omega) g Q d W (h.below hb))
  have HLay:=aj (fun (wa wb:World) (Qa:Nat→Prop) (hba:Below w.heap.size w wa) (hD:Dk wb g Qa (takeD d nb)) (hT:Tn Q wa wb) =>
   agC j hj Ab (takeN d nb) cb (bs.take (takeN d nb)) g Qa (takeD d nb) wb hD (((hb.below hba).tn hT hQb).upto (takeN d nb) hle) (fun a e hne=>hQ0 a e (fun e2=>hne (by rw [e2];simp)))
    (by show bR d.F+_≤d.room;rw [List.length_take];omega))
  have hK:bU d (j:Nat) bs.length=if takeN d nb<nb then 10 else 0:=by unfold bU;rw [hd,hlen];simp only [Bool.false_eq_true,if_false];rw [if_neg (by omega),if_neg hfull]
  have hD:bX d (j:Nat) bs=⟨d.room,cO d.F j (bs.take (takeN d nb)),d.armed,iN d nb,if takeN d nb<nb then true else false⟩:=by
   unfold bX;rw [hd,hlen];simp only [Bool.false_eq_true,if_false];rw [if_neg (by omega),if_neg hfull];unfold nJ;rw [hlen,hd,Int.toNat_natCast]
  have hOk:=wB h.ok (j:Nat) bs
  have HE1:=aj (fun (hlt:takeN d nb<nb) (w2 w3:World) (Q2 Q3:Nat→Prop) (h2:Tn Q w w2) (hq2:∀ q,Q2 q→Q q∨w.heap.size≤q) (h3:Dk w3 g Q3 (dM (takeD d nb) (cO (takeD d nb).F j (bs.take (takeN d nb))))) (h4:Tn Q2 w2 w3) (hq3:∀ q,Q3 q→Q2 q∨w2.heap.size≤q) =>
   show eH w g Q (.int .i64 (bU d (j:Nat) bs.length)) (bX d (j:Nat) bs) (.returned (.int .i64 10)) (w3.setCell ⟨g,4,none⟩ (.bool true)) from by
    rw [hK,if_pos hlt]
    have hc:=h3.cell (d':=bX d (j:Nat) bs) hOk (by rw [hD];rfl) 4 (.bool true) (fun m=>by rw [hD,if_pos hlt];rfl)
    refine jQ rfl hc rfl ((h2.trans h4 hq2).set (.inl h.qg) 4 _) (fun q hq=>?_)
    rcases hq3 q hq with h5 | h5
    ·exact hq2 q h5
    ·have:=h2.size;exact .inr (by omega))
  have HE0:=aj (fun (hlt:¬ takeN d nb<nb) (w2 w3:World) (Q2 Q3:Nat→Prop) (h2:Tn Q w w2) (hq2:∀ q,Q2 q→Q q∨w.heap.size≤q) (h3:Dk w3 g Q3 (dM (takeD d nb) (cO (takeD d nb).F j (bs.take (takeN d nb))))) (h4:Tn Q2 w2 w3) (hq3:∀ q,Q3 q→Q2 q∨w2.heap.size≤q) =>
   show eH w g Q (.int .i64 (bU d (j:Nat) bs.length)) (bX d (j:Nat) bs) (.returned (.int .i64 0)) w3 from by
    rw [hK,if_neg hlt]
    refine jQ rfl h3 (by rw [hD,if_neg hlt];unfold dM takeD;rw [hd]) (h2.trans h4 hq2) (fun q hq=>?_)
    rcases hq3 q hq with h5 | h5
    ·exact hq2 q h5
    ·have:=h2.size;exact .inr (by omega))
  clear h hb hQb hQ0 hlen hK hD hOk
  generalize dM (takeD d nb) (cO (takeD d nb).F j (bs.take (takeN d nb)))=dl at *
  generalize bU d (j:Nat) bs.length=k' at *
  generalize bX d (j:Nat) bs=d' at *
  generalize takeD d nb=dt at *
  generalize takeN d nb=tk at *
  rcases d with ⟨room,F,armed,left,down⟩
  simp only at *
  subst hd
  generalize hu:bR F=u at *
  clear hu
  have e3:IntKind.i64.wrap ((room:Int)-(u:Int))=(room:Int)-(u:Int):=IntWalk.i64_in _ (by omega)
  have e4:decide ((nb:Int)>(room:Int)-(u:Int))=false:=decide_eq_false (by omega)
  have e5:decide ((room:Int)-(u:Int)<(nb:Int))=false:=decide_eq_false (by omega)
  have y1:(0:Int)≤(tk:Int):=by omega
  have y2:(tk:Int)≤(cb:Int):=by omega
  go_enter Tryz.func56,Tryz.ntmps56
  go_wp2_with fail
  refine Calls.mono Hu.out ?_
  rintro e w1 ⟨rfl,rfl⟩
  go_wp2_with fail
  have Hbd:=aj (Below.drew (Below.refl w.heap.size w))
  have c0d:w.drew.cell? ⟨g,0,none⟩=some (.int .i64 (room:Nat)):=c0
  go_region_law (first
   | (go_simp;go_at_call 86;(with_reducible refine Calls.mono (HUs.out _ Hbd.out) ?_);rintro e w2 ⟨rfl,hb2⟩;have Hb2:=aj (Hbd.out.trans (hb2.mono Hbd.out.size));have c0e:w2.cell? ⟨g,0,none⟩=some (.int .i64 (room:Nat)):=(hb2.cell (p:=⟨g,0,none⟩) hgl).trans c0;clear hb2)
   | fail)
  all_goals
   go_wp2_with fail
   refine Calls.mono (HTk.out _ Hb2.out) ?_
   rintro e w3 ⟨rfl,Q3,hk3,ht3,hq3⟩
   have Hk3:=aj hk3
   have Ht3:=aj ht3
   have Hw3:=aj (Tn.trans (Tn.of_below Hb2.out) ht3 (fun q hq => .inl hq))
   have Hq3:=aj (fun q (hq:Q3 q)=>show Q q∨w.heap.size≤q from by
    rcases hq3 q hq with h5 | h5
    ·exact .inl h5
    ·have:=Hb2.out.size;exact .inr (by omega))
   clear hk3 ht3 hq3
   go_wp2_with fail
   refine Calls.mono (HLay.out _ w3 Q3 Hb2.out Hk3.out Ht3.out) ?_
   rintro e w4 ⟨rfl,Q4,hk4,ht4,hq4⟩
   have Hk4:=aj hk4
   have Ht4:=aj ht4
   have Hq4:=aj hq4
   obtain ⟨m4,hm4⟩:=hk4.cells
   have a4:=hm4.cell 4 _ rfl
   have f4:=hm4.free 4
   clear hk4 ht4 hq4 hm4
   by_cases hlt:tk<nb
   ·have e6:decide (tk<nb)=true:=decide_eq_true hlt
    have Hlt:=aj hlt
    go_wp2_with fail
    go_ret
    exact HE1.out Hlt.out w3 w4 Q3 Q4 Hw3.out Hq3.out Hk4.out Ht4.out Hq4.out
   ·have e6:decide (tk<nb)=false:=decide_eq_false hlt
    have Hlt:=aj hlt
    go_wp2_with fail
    go_ret
    exact HE0.out Hlt.out w3 w4 Q3 Q4 Hw3.out Hq3.out Hk4.out Ht4.out Hq4.out
theorem qK (x:Int) (Ab:Option Addr) (nb cb:Nat) (bs:List UInt8) (g:Nat) (Q:Nat→Prop) (d:ak) (w:World) (h:Dk w g Q d)
  (hb:Sl w Ab nb cb bs) (hQb:∀ a,Ab=some a→bs≠[]→¬ Q a.block) (hnb:nb≤140737488355328) :
  Calls Tryz.prog 56 #[.pointer (some ⟨g,0,none⟩),.int .i64 x,.slice Ab nb cb] w (eH w g Q (.int .i64 (bU d x bs.length)) (bX d x bs)):=by
 cases hd:d.down
 ·by_cases hx:x<0∨64≤x
  ·have e1:bU d x bs.length=1:=by unfold bU;rw [hd];simp only [Bool.false_eq_true,if_false];rw [if_pos hx]
   have e2:bX d x bs=d:=by unfold bX;rw [hd];simp only [Bool.false_eq_true,if_false];rw [if_pos hx]
   rw [e1,e2]
   exact aeI x hx Ab nb cb g Q d w h hd
  ·obtain ⟨j,rfl⟩:=Int.eq_ofNat_of_zero_le (show 0≤x by omega)
   exact aeJ j (by omega) Ab nb cb bs g Q d w h hd hb hQb hnb
 ·have e1:bU d x bs.length=10:=by unfold bU;rw [hd];rfl
  have e2:bX d x bs=d:=by unfold bX;rw [hd];rfl
  rw [e1,e2]
  exact wF x Ab nb cb g Q d w h hd
end Dsk
end Go.Proofs.YtpcmlopbkehffaaGreat
namespace Go.Proofs.YtpcmlopbkehffaaGreat
open Go.RowKit
open Go.Maps (Keyed)
open Go.Proofs Go.Shelf
namespace Dsk
def jT (zs:List Int):List Value:=zs.map (Value.int .i64)
theorem xE (zs:List Int):(jT zs).length=zs.length:=List.length_map ..
theorem Row.kH {w:World} {A:Option Addr} {n c:Nat} {zs:List Int} (h:Row w A n c (jT zs)) {k:Nat} (hk:k<zs.length):∃ b off,A=some ⟨b,off,none⟩∧w.cell? ⟨b,off+k,none⟩=some (.int .i64 zs[k]):=by
 obtain ⟨b,off,e,hc⟩:=h.at_ (k:=k) (by rw [xE];exact hk)
 exact ⟨b,off,e,by rw [hc];simp [jT]⟩
theorem Row.tn {Q:Nat→Prop} {w w':World} {A:Option Addr} {n c:Nat} {vs:List Value} (h:Row w A n c vs) (k:Tn Q w w') (ha:∀ a,A=some a→vs≠[]→¬ Q a.block):Row w' A n c vs:=by
 refine ⟨?_,h.len,h.cap,h.max,h.nil⟩
 intro hne
 obtain ⟨b,off,e,hc⟩:=h.holds hne
 refine ⟨b,off,e,fun i u hu=>?_⟩
 have h1:=hc i u hu
 rw [← h1]
 exact World.cell?_of_block (k.block b (lt_of_cell h1) (ha _ e hne))
structure mG (w1:World) (g:Nat) (Q:Nat→Prop) (d:ak) (keep:List Int) (k:Nat) (wr:World):Prop where
 dk:∃ Q',Dk wr g Q' (dM d (eU d.F keep k))∧∀ q,Q' q→Q q∨w1.heap.size≤q
 tn:Tn Q w1 wr
theorem mG.start {w1:World} {g:Nat} {Q:Nat→Prop} {d:ak} {keep:List Int} (h:Dk w1 g Q d):mG w1 g Q d keep 0 w1 :=
 ⟨⟨Q,by rw [afn];exact h,fun q hq => .inl hq⟩,Tn.refl _ _⟩
theorem mG.step {w1 wr wa w':World} {g b:Nat} {Q Q1:Nat→Prop} {d:ak} {keep:List Int} {k j:Nat} {f:fV} {D:DataW Value} {V:Nat→Option Addr×Nat} (hd:DOk d) (hf:d.F j=some f) (hr:rank d.F j=k)
  (h:Dk wr g Q1 (dM d (eU d.F keep k))) (hq1:∀ q,Q1 q→Q q∨w1.heap.size≤q) (ht:Tn Q w1 wr) (m1:Whole wr g 77 (cellsD (some b) (dM d (eU d.F keep k)))) (m2:dN wr g b Q1 (eU d.F keep k) D V)
  (A':Option Addr) (m c' n':Nat) (hm:m=f.fast+jm keep k (f.all.length-f.fast)) (hb:Below wr.heap.size wr wa) (ho:Own wr.heap.size wa A' m c' (f.all.take m))
  (hmap:w'.ownsMap Tryz.prog 3 eu b n' (D.put (kx (j:Nat)) (.held (.agg #[.slice A' m c',.int .i64 (m:Nat)])))) (hg:wa.grownBy w' (some b)):mG w1 g Q d keep (k+1) w':=by
 have hfast:=hd.fast j f hf
 have hkl:=uE keep k (f.all.length-f.fast)
 have hbl:=h.qlt b m2.bq
 have hq:∀ q,Q1 q→q≠b→w'.heap[q]? = wr.heap[q]? := fun q hq hne=>(hg.block q (Nat.lt_of_lt_of_le (h.qlt q hq) hb.size) (by intro e;injection e with e;exact hne e)).trans (hb.block q (h.qlt q hq))
 have hge:∀ k,aB A'=some k→wr.heap.size≤k:=fun k e=>(World.ownsRow.lt ho k (by rw [fT];exact e)).1
 have hOk:=wR hd keep (k+1)
 rw [abh d.F keep hr hf] at hOk
 have e1:crashed keep k f=⟨f.all.take m,m⟩:=by unfold crashed;rw [hm]
 rw [e1] at hOk
 obtain ⟨Q',h1,h2⟩:=h.put m1 m2 j A' m c' ⟨f.all.take m,m⟩ (show m=(f.all.take m).length by rw [List.length_take];omega) m rfl (Nat.le_trans hb.size hg.size) ⟨_,hmap⟩
  ((ho.stands (fun k e=>hg.block k (ho.dB k e) (by intro e2;injection e2 with e2;have:=hge k e;omega))).mono (Nat.zero_le _)) (fun k e => .inr (hge k e)) (fun q hq1 hq2 _=>hq q hq1 hq2) hOk
 refine ⟨⟨Q',?_,fun q hq2=>?_⟩,?_⟩
 ·rw [abh d.F keep hr hf,e1]
  exact h1
 ·rcases h2 q hq2 with h3 | h3
  ·exact hq1 q h3
  ·have:=ht.size;exact .inr (by omega)
 ·exact (ht.iQ hb).grown hg (fun k e=>by injection e with e;exact hq1 k (e ▸ m2.bq))
theorem afp {w w1 wr:World} {g:Nat} {Q:Nat→Prop} {d:ak} {keep:List Int} (hd:DOk d) (hqg:Q g) (h1:Below w.heap.size w w1) (hql:∀ q,Q q→q<w.heap.size) (s:mG w1 g Q d keep (dW d.F).length wr) :
  eH w g Q (.tuple #[]) (iL d keep) (.returned (.tuple #[])) (((wr.setCell ⟨g,2,none⟩ (.bool false)).setCell ⟨g,3,none⟩ (.int .i64 0)).setCell ⟨g,4,none⟩ (.bool false)):=by
 obtain ⟨⟨Q',hk,hq⟩,ht⟩:=s
 have hO:=wR hd keep (dW d.F).length
 have a1:=hk.cell (d':=⟨d.room,mQ d.F keep,false,d.left,d.down⟩) ⟨hO.ko,hO.fM,hO.used,hO.fast,hO.high,hO.left⟩ rfl 2 (.bool false) (fun m=>rfl)
 have a2:=a1.cell (d':=⟨d.room,mQ d.F keep,false,0,d.down⟩) ⟨hO.ko,hO.fM,hO.used,hO.fast,hO.high,Nat.zero_le _⟩ rfl 3 (.int .i64 0) (fun m=>rfl)
 have a3:=a2.cell (d':=iL d keep) (wQ hd keep) rfl 4 (.bool false) (fun m=>rfl)
 refine jQ rfl a3 rfl (((((Tn.of_below h1).trans ht (fun q hq => .inl hq)).set (.inl hqg) 2 _).set (.inl hqg) 3 _).set (.inl hqg) 4 _) (fun q hq2=>?_)
 rcases hq q hq2 with h3 | h3
 ·exact .inl h3
 ·have:=h1.size;exact .inr (by omega)
set_option maxRecDepth 100000 in
set_option maxHeartbeats 4000000 in
theorem afo (Ak:Option Addr) (nk ck:Nat) (keep:List Int) (g:Nat) (Q:Nat→Prop) (d:ak) (w:World) (h:Dk w g Q d) (hk:Row w Ak nk ck (jT keep)) (hQk:∀ a,Ak=some a→jT keep≠[]→¬ Q a.block) :
  Calls Tryz.prog 19 #[.pointer (some ⟨g,0,none⟩),.slice Ak nk ck] w (eH w g Q (.tuple #[]) (iL d keep)):=by
 have Hf:=aj (qW g Q d w h)
 have hnk:nk=keep.length:=by have:=hk.len;rw [xE] at this;exact this.symm
 have Hnk:=aj hnk
 have hnk2:=hk.le
 have Hk:=aj hk
 have HQk:=aj hQk
 have Hd:=aj h.ok
 have H:=aj h
 have Hql:=aj h.qlt
 have hgl:=h.qlt g h.qg
 have hL:=xu d.F
 clear h hk hQk hnk
 go_enter Tryz.func19,Tryz.ntmps19
 go_wp2_with fail
 refine Calls.mono Hf.out ?_
 rintro e w1 ⟨Af,cf,rfl,ho,hb⟩
 have Hb:=aj hb
 have Ho:=aj ho
 have S0:=aj (mG.start (keep:=keep) (H.out.below hb))
 have hgl1:w.heap.size≤w1.heap.size:=hb.size
 clear ho hb Hf
 generalize hLn:(dW d.F).length=L at *
 have HLn:=aj hLn
 clear hLn
 go_wp2_with fail
 go_loopw [13] (fun v wr=>∃ k:Nat,k≤L∧v = .int .i64 (k:Nat)∧Hid (mG w1 g Q d keep k wr)) (fun v _=>L-(intOf v).toNat)
 case atStart=>exact ⟨0,Nat.zero_le _,rfl,S0⟩
 case round =>
  obtain ⟨k,hkL,rfl,HS⟩:=hrel
  by_cases hlt:k<L
  ·have hkF:k<(dW d.F).length:=by have:=HLn.out;omega
   obtain ⟨hr,hs,hj⟩:=abC d.F 64 k hkF
   obtain ⟨bf,off,rfl,hcell⟩:=Ho.out.row.at_ (k:=k) (by unfold jW;rw [List.length_map];exact hkF)
   have hcell2:w1.cell? ⟨bf,off+k,none⟩=some (.int .i64 ((dW d.F)[k]:Nat)):=by rw [hcell];simp [jW]
   have hbf:w.heap.size≤bf:=(eY.from_ Ho.out bf rfl).1
   change rank d.F (dW d.F)[k]=k at hr
   change (d.F (dW d.F)[k]).isSome=true at hs
   change (dW d.F)[k]<64 at hj
   generalize (dW d.F)[k]=j at *
   obtain ⟨f,hf⟩:=Option.isSome_iff_exists.1 hs
   obtain ⟨⟨Q1,hdk,hq1⟩,htn⟩:=HS.out
   have hfk:(dM d (eU d.F keep k)).F j=some f:=afm d.F keep (by omega) hf
   have zc:wr.cell? ⟨bf,off+k,none⟩=some (.int .i64 (j:Nat)):=by
    rw [← hcell2]
    exact World.cell?_of_block (htn.block bf (lt_of_cell hcell2) (fun hq=>by have:=Hql.out bf hq;omega))
   rcases hdk.mem with ⟨m1,m2⟩ | ⟨b,D,V,m1,m2⟩
   ·exact (qX hfk m2).elim
   obtain ⟨A,c,hlook,hown,-⟩:=m2.slot j hj
   change eU d.F keep k j=some f at hfk
   rw [show (dM d (eU d.F keep k)).F=eU d.F keep k from rfl,gG hfk] at hlook hown
   have hfast:=Hd.out.fast j f hf
   have hlen:=uF Hd.out hj hf
   have HEnd:=aj (fun (wa w':World) (A':Option Addr) (m c' n':Nat) (hm:m=f.fast+jm keep k (f.all.length-f.fast)) (hb:Below wr.heap.size wr wa) (ho:Own wr.heap.size wa A' m c' (f.all.take m)) (hmap) (hg) =>
    (mG.step (w':=w') Hd.out hf hr hdk hq1 htn m1 m2 A' m c' n' hm hb ho hmap hg))
   have HownM:=aj (m2.owns hdk.ok.high)
   have Hfi:=aj (fun (m:Nat) (hm:m≤f.all.length) (W:World) (hb:Below wr.heap.size wr W)=>abI A f.all.length c f.all f.fast m W (hown.later hb) hm hlen)
   obtain ⟨z0,z1,z2,z3,z4,-⟩:=gW m1
   have hgl2:=m1.lt
   have Hkr:=aj (Row.tn Hk.out ((Tn.of_below Hb.out).trans htn (fun q hq => .inl hq)) HQk.out)
   have HwB:=aj (Below.refl wr.heap.size wr)
   clear hdk hq1 htn m1 m2 hown hfk hf hr hs hcell hcell2
   generalize hlf:f.all=l at *
   generalize hff:f.fast=ff at *
   obtain ⟨n,hn⟩:∃ n,n=l.length:=⟨_,rfl⟩
   simp only [← hn] at *
   obtain ⟨lo,hlo⟩:∃ lo,n=ff+lo:=⟨n-ff,by omega⟩
   have e1:(n:Int)-(ff:Int)=(lo:Nat):=by omega
   have e2:IntKind.i64.wrap ((n:Int)-(ff:Int))=(lo:Nat):=by rw [e1];exact IntWalk.i64_in _ (by omega)
   have e3:n-ff=lo:=by omega
   rw [e3] at HEnd
   clear hn hlf hff hlo e3
   by_cases hkk:nk≤k
   ·have e4:decide (k<nk)=false:=decide_eq_false (by omega)
    have HK0:=aj (show ff=ff+jm keep k lo by unfold jm;rw [dif_neg (by have:=Hnk.out;omega)];rfl)
    have HSt:=aj (Hfi.out ff (by omega))
    have y3:IntKind.i64.wrap (ff:Int)=(ff:Int):=IntWalk.i64_in _ (by omega)
    have y4:IntKind.i64.wrap ((ff:Int)+0)=(ff:Int):=by rw [Int.add_zero];exact y3
    have HBox:=aj (aP wr 119 #[.slice A n c,.int .i64 (ff:Nat)])
    obtain ⟨wz,Hwz,b1,b2,b3,HB1⟩:∃ wz,wz=wr.alloc (.cells #[.slice A n c,.int .i64 (ff:Nat)] 119)∧wz.cell? ⟨g,1,none⟩=some (.map (some b))∧wz.cell? ⟨wr.heap.size,0,none⟩=some (.slice A n c)∧wz.cell? ⟨wr.heap.size,1,none⟩=some (.int .i64 (ff:Nat))∧Hid (Below wr.heap.size wr wz):=by
     refine ⟨_,rfl,?_,?_,?_,aj (HwB.out.alloc (Nat.le_refl _) _)⟩
     ·rw [(HwB.out.alloc (Nat.le_refl _) _).cell (p:=⟨g,1,none⟩) hgl2];exact z1
     ·exact HBox.out.cell 0 _ rfl
     ·exact HBox.out.cell 1 _ rfl
    have Hwz':=aj Hwz
    have hlt1:=lt_of_cell b1
    clear HBox Hwz
    have hlt2:=lt_of_cell b2
    go_wp2_with fail
    rw [← Hwz'.out]
    clear Hwz'
    have HB2:=aj HB1.out.drew
    have b1d:wz.drew.cell? ⟨g,1,none⟩=some (.map (some b)):=b1
    have b2d:wz.drew.cell? ⟨wr.heap.size,0,none⟩=some (.slice A n c):=b2
    have b3d:wz.drew.cell? ⟨wr.heap.size,1,none⟩=some (.int .i64 (ff:Nat)):=b3
    go_region_law (first
     | (go_simp;go_at_call 51;(with_reducible refine Calls.mono (HSt.out _ HB2.out) ?_);rintro e w2 ⟨A',c',rfl,ho2,hb2⟩;have Ho2:=aj (Own.mono ho2 HB2.out.size);have Hb2:=aj (HB2.out.trans (hb2.mono HB2.out.size));have z1e:w2.cell? ⟨g,1,none⟩=some (.map (some b)):=(hb2.cell (p:=⟨g,1,none⟩) hlt1).trans b1;have z2e:w2.cell? ⟨wr.heap.size,0,none⟩=some (.slice A n c):=(hb2.cell (p:=⟨wr.heap.size,0,none⟩) hlt2).trans b2;have z3e:w2.cell? ⟨wr.heap.size,1,none⟩=some (.int .i64 (ff:Nat)):=(hb2.cell (p:=⟨wr.heap.size,1,none⟩) hlt2).trans b3;obtain ⟨w3,hrun3,hm3,hg3⟩:=yU (World.ownsMap.kept HownM.out (rD Hb2.out (Nat.le_refl _) none) (by simp)) (by unfold maxLen;omega) (lW (x:=(j:Nat)) (by omega) (by omega)) (.agg #[.slice A' ff c',.int .i64 (ff:Nat)]);have Hm3:=aj hm3;have Hg3:=aj hg3;clear ho2 hb2 hm3 hg3)
     | fail)
    all_goals
     go_wp2_with fail
     go_roundw
     case rel=>exact ⟨k+1,by omega,by go_num,aj (HEnd.out w2 w3 A' ff c' _ HK0.out Hb2.out Ho2.out Hm3.out Hg3.out)⟩
     case measure=>simp [intOf];omega
   ·have e4:decide (k<nk)=true:=decide_eq_true (by omega)
    have hkl:k<keep.length:=by have:=Hnk.out;omega
    obtain ⟨bk,ok,rfl,hck⟩:=Row.kH Hkr.out hkl
    have HkN:=aj (show jm keep k lo=min (keep[k].toNat) lo by unfold jm;rw [dif_pos hkl])
    generalize keep[k]=z at *
    have HBox:=aj (aP wr 119 #[.slice A n c,.int .i64 (ff:Nat)])
    obtain ⟨wz,Hwz,b1,b2,b3,b4,HB1⟩:∃ wz,wz=wr.alloc (.cells #[.slice A n c,.int .i64 (ff:Nat)] 119)∧wz.cell? ⟨g,1,none⟩=some (.map (some b))∧wz.cell? ⟨wr.heap.size,0,none⟩=some (.slice A n c)∧wz.cell? ⟨wr.heap.size,1,none⟩=some (.int .i64 (ff:Nat))∧wz.cell? ⟨bk,ok+k,none⟩=some (.int .i64 z)∧Hid (Below wr.heap.size wr wz):=by
     refine ⟨_,rfl,?_,?_,?_,?_,aj (HwB.out.alloc (Nat.le_refl _) _)⟩
     ·rw [(HwB.out.alloc (Nat.le_refl _) _).cell (p:=⟨g,1,none⟩) hgl2];exact z1
     ·exact HBox.out.cell 0 _ rfl
     ·exact HBox.out.cell 1 _ rfl
     ·rw [(HwB.out.alloc (Nat.le_refl _) _).cell (p:=⟨bk,ok+k,none⟩) (lt_of_cell hck)];exact hck
    have Hwz':=aj Hwz
    have hlt1:=lt_of_cell b1
    clear HBox Hwz
    have hlt2:=lt_of_cell b2
    obtain ⟨st,hst⟩:∃ st,st=ff+min z.toNat lo:=⟨_,rfl⟩
    have hst2:st≤n:=by omega
    have HK0:=aj (show st=ff+jm keep k lo by rw [HkN.out,hst])
    have HSt:=aj (Hfi.out st (by omega))
    have y3:IntKind.i64.wrap ((ff:Int)+min (max z 0) (lo:Int))=((st:Nat):Int):=by rw [IntWalk.i64_in _ (by omega)];omega
    clear hst
    go_wp2_with fail
    rw [← Hwz'.out]
    go_quiet (fail)
    generalize hwy:World.drewN wz _=wy
    have HB3:Hid (Below wr.heap.size wr wy):=hwy ▸ aj (show Below wr.heap.size wr (World.drewN wz _) from ⟨HB1.out.os,HB1.out.tape,HB1.out.output,HB1.out.size,HB1.out.block⟩)
    replace b1:wy.cell? ⟨g,1,none⟩=some (.map (some b)):=hwy ▸ b1
    replace b2:wy.cell? ⟨wr.heap.size,0,none⟩=some (.slice A n c):=hwy ▸ b2
    replace b3:wy.cell? ⟨wr.heap.size,1,none⟩=some (.int .i64 (ff:Nat)):=hwy ▸ b3
    replace hlt1:g<wy.heap.size:=lt_of_cell b1
    replace hlt2:wr.heap.size<wy.heap.size:=lt_of_cell b2
    clear hwy Hwz' b4
    go_wp2_with fail
    have HB2:=aj HB3.out.drew
    have b1d:wy.drew.cell? ⟨g,1,none⟩=some (.map (some b)):=b1
    have b2d:wy.drew.cell? ⟨wr.heap.size,0,none⟩=some (.slice A n c):=b2
    have b3d:wy.drew.cell? ⟨wr.heap.size,1,none⟩=some (.int .i64 (ff:Nat)):=b3
    go_region_law (first
     | (go_simp;go_at_call 51;(with_reducible refine Calls.mono (HSt.out _ HB2.out) ?_);rintro e w2 ⟨A',c',rfl,ho2,hb2⟩;have Ho2:=aj (Own.mono ho2 HB2.out.size);have Hb2:=aj (HB2.out.trans (hb2.mono HB2.out.size));have z1e:w2.cell? ⟨g,1,none⟩=some (.map (some b)):=(hb2.cell (p:=⟨g,1,none⟩) hlt1).trans b1;have z2e:w2.cell? ⟨wr.heap.size,0,none⟩=some (.slice A n c):=(hb2.cell (p:=⟨wr.heap.size,0,none⟩) hlt2).trans b2;have z3e:w2.cell? ⟨wr.heap.size,1,none⟩=some (.int .i64 (ff:Nat)):=(hb2.cell (p:=⟨wr.heap.size,1,none⟩) hlt2).trans b3;obtain ⟨w3,hrun3,hm3,hg3⟩:=yU (World.ownsMap.kept HownM.out (rD Hb2.out (Nat.le_refl _) none) (by simp)) (by unfold maxLen;omega) (lW (x:=(j:Nat)) (by omega) (by omega)) (.agg #[.slice A' st c',.int .i64 ((st:Nat):Nat)]);have Hm3:=aj hm3;have Hg3:=aj hg3;clear ho2 hb2 hm3 hg3)
     | fail)
    all_goals
     go_wp2_with fail
     go_roundw
     case rel=>exact ⟨k+1,by omega,by go_num,aj (HEnd.out w2 w3 A' st c' _ HK0.out Hb2.out Ho2.out Hm3.out Hg3.out)⟩
     case measure=>simp [intOf];omega
  ·obtain rfl:k=L:=by omega
   have hltf:decide (k<k)=false:=decide_eq_false (by omega)
   obtain ⟨⟨Q',hk',-⟩,-⟩:=HS.out
   obtain ⟨m',hm'⟩:=hk'.cells
   obtain ⟨z0,z1,z2,z3,z4,zf⟩:=gW hm'
   clear hk' hm'
   go_wp2_with fail
   go_end0
   exact afp Hd.out H.out.qg Hb.out Hql.out (by rw [HLn.out];exact HS.out)
end Dsk
end Go.Proofs.YtpcmlopbkehffaaGreat
namespace Go.Proofs.YtpcmlopbkehffaaGreat
open Go.RowKit
open Go.Maps (Keyed)
open Go.Proofs Go.Shelf
namespace Dsk
structure DkB (B:Nat) (w0 w:World) (g:Nat) (Q:Nat→Prop) (d:ak):Prop where
 dk:Dk w g Q d
 below:Below B w0 w
 own:∀ q,Q q→B≤q
 base:B≤w0.heap.size
theorem DkB.size {B:Nat} {w0 w:World} {g:Nat} {Q:Nat→Prop} {d:ak} (h:DkB B w0 w g Q d):B≤w.heap.size:=Nat.le_trans h.base h.below.size
theorem DkB.post {B:Nat} {w0 w w':World} {g:Nat} {Q:Nat→Prop} {d d':ak} {v:Value} {e:Ending} (h:DkB B w0 w g Q d) (k:eH w g Q v d' e w'):e = .returned v∧(∃ Q',DkB B w0 w' g Q' d'∧∀ q,Q' q→Q q∨w.heap.size≤q)∧Tn Q w w':=by
 obtain ⟨he,Q',h1,h2,h3⟩:=k
 refine ⟨he,⟨Q',⟨h1,h2.below h.below h.own h.size,fun q hq=>?_,h.base⟩,h3⟩,h2⟩
 rcases h3 q hq with h4 | h4
 ·exact h.own q h4
 ·have:=h.size;omega
theorem DkB.later {B:Nat} {w0 w w':World} {g:Nat} {Q:Nat→Prop} {d:ak} (h:DkB B w0 w g Q d) (k:Below w.heap.size w w'):DkB B w0 w' g Q d:=⟨h.dk.below k,h.below.trans (k.mono h.size),h.own,h.base⟩
theorem DkB.alloc {B:Nat} {w0 w:World} {g:Nat} {Q:Nat→Prop} {d:ak} (h:DkB B w0 w g Q d) (o:Obj):DkB B w0 (w.alloc o) g Q d:=h.later ((Below.refl _ _).alloc (Nat.le_refl _) o)
theorem DkB.drew {B:Nat} {w0 w:World} {g:Nat} {Q:Nat→Prop} {d:ak} (h:DkB B w0 w g Q d):DkB B w0 w.drew g Q d:=h.later (Below.drew (Below.refl _ _))
def a0:ak:=mV 10
def a1:ak:=bX a0 1 [97,98]
def a2:ak:=eF a1 1
def a3:ak:=bX a2 1 [99,100]
def a4:ak:=iL a3 [1]
end Dsk
end Go.Proofs.YtpcmlopbkehffaaGreat
