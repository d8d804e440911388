/-
  Contracts of the library's functions at this program: what the shelf's own theorems ask of it; laid by the guide's program.
-/
import Derived.Test.YtpcmlopbkehffaaGreatOGAA
import Derived.Test.YtpcmlopbkehffaaGreatOGAE
import Derived.Shelf.SlIterI.Nil
import Derived.Shelf.SortM.Plain
import Derived.Shelf.SortM.SortNone
import Derived.Shelf.SlicesE.Clone
import Derived.Shelf.LaySoft
import Derived.Test.YtpcmlopbkehffaaGreatProg
import Derived.StillTailTactics
import Derived.Deep.RegionHeld3
import Derived.Deep.RegionLaw
set_option linter.unusedSimpArgs false
set_option linter.unusedVariables false
namespace Go.Proofs.YtpcmlopbkehffaaGreat
open Go.Shelf Go.Proofs
shelf_try shelf_lay_g SlLaysE0.n41 Slgn 41 at Tryz 84 as Sh.cloneBytes
shelf_try shelf_lay_g SlLaysZI.n7 Ggz 7 at Tryz 78 as Sh.keysI
shelf_try shelf_lay_g SlLaysZI.n6 Ggz 6 at Tryz 77 as Sh.sortedI
shelf_try shelf_lay_g SlLaysM.n5 Slgm 5 at Tryz 106 as Sh.sortI
shelf_tried
end Go.Proofs.YtpcmlopbkehffaaGreat
namespace Go.Proofs.YtpcmlopbkehffaaGreat
open Go.RowKit
open Go.Maps (Keyed)
open Go.Proofs Go.Shelf
namespace Dsk
theorem adO (m:Nat):AnyZI.SortsIn Tryz.prog Sh.sortedI_ren Fence.wide m :=
 ⟨fun blk off cap ss W hH hblk hsz=>callsIn_wide.2 (AnyM.slices_Sort_int Sh.sortI blk off cap ss W hH hblk hsz),
  fun p cap W=>callsIn_wide.2 (AnyM.slices_Sort_int_none Sh.sortI p cap W)⟩
theorem ab5 (mb:Option Nat) (W:World):Calls Tryz.prog 78 #[.map mb] W (fun e w'=>e = .returned (.func (.func 107) #[] #[.pointer (some ⟨W.heap.size,0,none⟩)])∧w'=W.alloc (.cells #[.map mb] 75)) :=
 (callsIn_wide (n:=5)).1 (AnyZI.keys_in Sh.keysI Fence.wide 5 trivial rfl mb W)
theorem ak7 (b nn:Nat) (D0:DataW Value) (w:World) (hown:w.ownsMap Tryz.prog 3 eu b nn D0) (hmax:Maps.size D0≤maxLen) (hbytes:Maps.size D0*8≤140737488355328) :
  Calls Tryz.prog 77 #[.func (.func 107) #[] #[.pointer (some ⟨w.heap.size,0,none⟩)]] (w.alloc (.cells #[.map (some b)] 75)) (fun e w'=>∃ (v:Value) (ss:List Int),e = .returned v∧ss.Perm (intKeys D0) ∧
   w'.ownsRow (w.alloc (.cells #[.map (some b)] 75)).heap.size 3 1 v ss.length ((ss.mergeSort (fun x y=>decide (x≤y))).map encZ)∧(v = .slice none 0 0 ↔ ss=[])∧Below (w.alloc (.cells #[.map (some b)] 75)).heap.size (w.alloc (.cells #[.map (some b)] 75)) w'):=by
 have hbl:=hown.lt
 have hseq:SeqGives Fence.wide 2 Tryz.prog 107 #[.pointer (some ⟨w.heap.size,0,none⟩)] encZ (fun ss=>ss.Perm (intKeys D0)) (Maps.size D0) (w.alloc (.cells #[.map (some b)] 75)) :=
  AnyZI.keys_gives (ρ:=Sh.keysI_ren) {Sh.keysI with} Fence.wide _ trivial rfl (by omega) w.heap.size b nn D0 _ (by simp) (by simp) (by
   obtain ⟨es,clock,hb,Ft,hs,hD⟩:=hown
   exact ⟨es,clock,(Below.heap_alloc _ _ b hbl).trans hb,Ft,hs,hD⟩)
 exact (callsIn_wide (n:=5)).1 (AnyZI.sorted_in Sh.sortedI Fence.wide 5 trivial trivial trivial trivial rfl (by omega) (adO _) (enters_of Tryz.func106 (by kernel_rfl) rfl) 107 #[.pointer (some ⟨w.heap.size,0,none⟩)] trivial (enters_of Tryz.func107 (by kernel_rfl) rfl) _ _ hmax hbytes _ hseq)
theorem ak6 (w:World) :
  Calls Tryz.prog 77 #[.func (.func 107) #[] #[.pointer (some ⟨w.heap.size,0,none⟩)]] (w.alloc (.cells #[.map none] 75)) (fun e w'=>e = .returned (.slice none 0 0)∧Below (w.alloc (.cells #[.map none] 75)).heap.size (w.alloc (.cells #[.map none] 75)) w'):=by
 have hseq:SeqGives Fence.wide 2 Tryz.prog 107 #[.pointer (some ⟨w.heap.size,0,none⟩)] encZ (fun ss:List Int=>ss=[]) 0 (w.alloc (.cells #[.map none] 75)) :=
  AnyZI.keys_gives_nil (ρ:=Sh.keysI_ren) {Sh.keysI with} Fence.wide _ trivial rfl w.heap.size _ (by simp) (by simp)
 refine Calls.mono ((callsIn_wide (n:=5)).1 (AnyZI.sorted_in Sh.sortedI Fence.wide 5 trivial trivial trivial trivial rfl (by omega) (adO _) (enters_of Tryz.func106 (by kernel_rfl) rfl) 107 #[.pointer (some ⟨w.heap.size,0,none⟩)] trivial (enters_of Tryz.func107 (by kernel_rfl) rfl) _ 0 (Nat.zero_le _) (by omega) _ hseq)) ?_
 rintro e w' ⟨v,ss,rfl,rfl,_,hnil,hb⟩
 exact ⟨by rw [hnil.2 rfl],hb⟩
def jW (l:List Nat):List Value:=l.map (fun j:Nat => .int .i64 (j:Nat))
def mI (F:Files) (w:World) (e:Ending) (w':World):Prop:=∃ A c,e = .returned (.slice A (dW F).length c)∧eY 3 w.heap.size w' A (dW F).length c (jW (dW F))∧Below w.heap.size w w'
theorem afS {w w':World} {F:Files} (h:F=noF) (hb:Below w.heap.size w w'):mI F w (.returned (.slice none 0 0)) w':=by
 subst h
 exact ⟨none,0,rfl,eY.none _ _ _,hb⟩
theorem afT {w w1 w':World} {g b:Nat} {Q:Nat→Prop} {F:Files} {D:DataW Value} {V:Nat→Option Addr×Nat} (h:dN w g b Q F D V) (hh:∀ j,64≤j→F j=none) {v:Value} {ss:List Int} (hs:ss.Perm (intKeys D))
  (ho:w'.ownsRow w1.heap.size 3 1 v ss.length ((ss.mergeSort (fun x y=>decide (x≤y))).map encZ)) (h1:w.heap.size≤w1.heap.size) (hb:Below w.heap.size w w'):mI F w (.returned v) w':=by
 have e1:ss.length=(dW F).length:=by rw [hs.length_eq,← (h.keys hh).length_eq,List.length_map]
 rw [h.agx hh hs,List.map_map,e1] at ho
 obtain ⟨hx,hr⟩:=ho
 obtain ⟨A,c,rfl,-⟩:=mY (show w'.ownsRow w1.heap.size 3 1 v _ _ from ⟨hx,hr⟩)
 refine ⟨A,c,rfl,⟨hx,?_⟩,hb⟩
 rcases hr with hr | ⟨g',cap,cur,e,hg,r⟩
 ·exact .inl hr
 ·exact .inr ⟨g',cap,cur,e,by omega,r⟩
theorem qW (g:Nat) (Q:Nat→Prop) (d:ak) (w:World) (h:Dk w g Q d):Calls Tryz.prog 50 #[.pointer (some ⟨g,0,none⟩)] w (mI d.F w):=by
 rcases h.mem with ⟨h1,h2⟩ | ⟨b,D,V,h1,h2⟩
 ·obtain ⟨c0,c1,c2,c3,c4,-⟩:=gW h1
  have H2:=aj h2
  clear h h1 h2
  go_enter Tryz.func50,Tryz.ntmps50
  go_wp2_with fail
  refine Calls.mono (ab5 none w) ?_
  rintro e w1 ⟨rfl,rfl⟩
  go_wp2_with fail
  refine Calls.mono (ak6 w) ?_
  rintro e w2 ⟨rfl,hb2⟩
  have Hb:=aj (((Below.refl w.heap.size w).alloc (Nat.le_refl _) (.cells #[.map none] 75)).trans (hb2.mono (by simp)))
  clear hb2
  go_wp2
  go_ret
  exact afS H2.out Hb.out
 ·obtain ⟨c0,c1,c2,c3,c4,-⟩:=gW h1
  have H2:=aj h2
  have Hh:=aj h.ok.high
  have Hs:=aj (ak7 b 64 D w (h2.owns h.ok.high) (by have:=h2.size h.ok.high;unfold maxLen;omega) (by have:=h2.size h.ok.high;omega))
  clear h h1 h2
  go_enter Tryz.func50,Tryz.ntmps50
  go_wp2_with fail
  refine Calls.mono (ab5 (some b) w) ?_
  rintro e w1 ⟨rfl,rfl⟩
  go_wp2_with fail
  refine Calls.mono Hs.out ?_
  rintro e w2 ⟨v,ss,rfl,hp,ho,-,hb2⟩
  have Hp:=aj hp
  have Ho:=aj ho
  have Hb:=aj (((Below.refl w.heap.size w).alloc (Nat.le_refl _) (.cells #[.map (some b)] 75)).trans (hb2.mono (by simp)))
  clear hp ho hb2 Hs
  go_wp2
  go_ret
  exact afT H2.out Hh.out Hp.out Ho.out (by simp) Hb.out
end Dsk
end Go.Proofs.YtpcmlopbkehffaaGreat
namespace Go.Proofs.YtpcmlopbkehffaaGreat
open Go.RowKit
open Go.Maps (Keyed)
open Go.Proofs Go.Shelf
namespace Dsk
theorem zV (g:Nat) (m:Option Nat) (d:ak) (w:World) (hw:Whole w g 77 (cellsD m d)):Calls Tryz.prog 85 #[.pointer (some ⟨g,0,none⟩)] w (fun e w'=>e = .returned (.int .i64 (if d.down then 10 else 0))∧w=w'):=by
 obtain ⟨c0,c1,c2,c3,c4,-⟩:=gW hw
 clear hw
 rcases d with ⟨room,F,armed,left,_ | _⟩
 ·go_enter Tryz.func85,Tryz.ntmps85
  go_wp2
  go_ret
  exact ⟨rfl,rfl⟩
 ·go_enter Tryz.func85,Tryz.ntmps85
  go_wp2
  go_ret
  exact ⟨rfl,rfl⟩
set_option maxRecDepth 100000 in
theorem afW (g:Nat) (m:Option Nat) (d:ak) (w:World) (hw:Whole w g 77 (cellsD m d)) (hd:d.down=false) (x:Int) (A:Option Addr) (n cc:Nat) (f:Int)
  (hl:∀ W,Below w.heap.size w W→(Instr.lookup 75 (.map m) (.int .i64 x) true).run Tryz.prog W = .ok (.tuple #[.agg #[.slice A n cc,.int .i64 f],.bool true]) W) :
  Calls Tryz.prog 83 #[.pointer (some ⟨g,0,none⟩),.int .i64 x] w (fun e w'=>e = .returned (.tuple #[.agg #[.slice A n cc,.int .i64 f],.int .i64 0])∧Below w.heap.size w w'):=by
 have hgl:=hw.lt
 have Hu:=aj (zV g m d _ (hw.alloc (.cells #[.slice none 0 0,.int .i64 0] 119)))
 obtain ⟨c0,c1,c2,c3,c4,-⟩:=gW hw
 have hl':=hl (w.alloc (.cells #[.slice none 0 0,.int .i64 0] 119)) ((Below.refl _ _).alloc (Nat.le_refl _) _)
 rw [hd] at Hu c4
 clear hl hw hd
 go_enter Tryz.func83,Tryz.ntmps83
 go_wp2_with fail
 refine Calls.mono Hu.out ?_
 rintro e w1 ⟨rfl,rfl⟩
 go_wp2_with fail
 exact bodyPost_ret (v := .tuple #[.agg #[.slice A n cc,.int .i64 f],.int .i64 0]) (by simp [results,Tryz.results83,go_sem]) rfl ⟨rfl,(by repeat (first | exact Below.refl _ _ | refine Below.setCell ?_ (Nat.le_refl _) _ | refine Below.setCell ?_ (by simp) _ | refine Below.alloc ?_ (Nat.le_refl _) _ | refine Below.alloc ?_ (by simp) _))⟩
set_option maxRecDepth 100000 in
theorem abG (g:Nat) (m:Option Nat) (d:ak) (w:World) (hw:Whole w g 77 (cellsD m d)) (hd:d.down=false) (x:Int)
  (hl:∀ W,Below w.heap.size w W→(Instr.lookup 75 (.map m) (.int .i64 x) true).run Tryz.prog W = .ok (.tuple #[.agg #[.slice none 0 0,.int .i64 0],.bool false]) W) :
  Calls Tryz.prog 83 #[.pointer (some ⟨g,0,none⟩),.int .i64 x] w (fun e w'=>e = .returned (.tuple #[.agg #[.slice none 0 0,.int .i64 0],.int .i64 11])∧Below w.heap.size w w'):=by
 have hgl:=hw.lt
 have Hu:=aj (zV g m d _ (hw.alloc (.cells #[.slice none 0 0,.int .i64 0] 119)))
 obtain ⟨c0,c1,c2,c3,c4,-⟩:=gW hw
 have hl':=hl (w.alloc (.cells #[.slice none 0 0,.int .i64 0] 119)) ((Below.refl _ _).alloc (Nat.le_refl _) _)
 rw [hd] at Hu c4
 clear hl hw hd
 go_enter Tryz.func83,Tryz.ntmps83
 go_wp2_with fail
 refine Calls.mono Hu.out ?_
 rintro e w1 ⟨rfl,rfl⟩
 go_wp2_with fail
 exact bodyPost_ret (v := .tuple #[.agg #[.slice none 0 0,.int .i64 0],.int .i64 11]) (by simp [results,Tryz.results83,go_sem]) rfl ⟨rfl,(by repeat (first | exact Below.refl _ _ | refine Below.setCell ?_ (Nat.le_refl _) _ | refine Below.setCell ?_ (by simp) _ | refine Below.alloc ?_ (Nat.le_refl _) _ | refine Below.alloc ?_ (by simp) _))⟩
set_option maxRecDepth 100000 in
theorem abF (g:Nat) (m:Option Nat) (d:ak) (w:World) (hw:Whole w g 77 (cellsD m d)) (hd:d.down=true) (x:Int) :
  Calls Tryz.prog 83 #[.pointer (some ⟨g,0,none⟩),.int .i64 x] w (fun e w'=>e = .returned (.tuple #[.agg #[.slice none 0 0,.int .i64 0],.int .i64 10])∧Below w.heap.size w w'):=by
 have hgl:=hw.lt
 have Hu:=aj (zV g m d _ (hw.alloc (.cells #[.slice none 0 0,.int .i64 0] 119)))
 rw [hd] at Hu
 clear hw hd
 go_enter Tryz.func83,Tryz.ntmps83
 go_wp2_with fail
 refine Calls.mono Hu.out ?_
 rintro e w1 ⟨rfl,rfl⟩
 go_wp2_with fail
 exact bodyPost_ret (v := .tuple #[.agg #[.slice none 0 0,.int .i64 0],.int .i64 10]) (by simp [results,Tryz.results83,go_sem]) rfl ⟨rfl,(by repeat (first | exact Below.refl _ _ | refine Below.setCell ?_ (Nat.le_refl _) _ | refine Below.setCell ?_ (by simp) _ | refine Below.alloc ?_ (Nat.le_refl _) _ | refine Below.alloc ?_ (by simp) _))⟩
theorem uj (g:Nat) (Q:Nat→Prop) (d:ak) (w:World) (h:Dk w g Q d) (x:Int) (h1 : -9223372036854775808≤x) (h2:x≤9223372036854775807) (hk:bE d x≠0) :
  Calls Tryz.prog 83 #[.pointer (some ⟨g,0,none⟩),.int .i64 x] w (fun e w'=>e = .returned (.tuple #[.agg #[.slice none 0 0,.int .i64 0],.int .i64 (bE d x)])∧Below w.heap.size w w'):=by
 cases hd:d.down
 ·have hn:¬ (0≤x∧(d.F x.toNat).isSome=true):=by
   intro hc
   apply hk
   unfold bE
   rw [hd]
   simp [hc]
  have ek:bE d x=11:=by
   unfold bE
   rw [hd]
   simp only [Bool.false_eq_true,if_false,if_neg hn]
  rw [ek]
  rcases h.mem with ⟨m1,m2⟩ | ⟨b,D,V,m1,m2⟩
  ·exact abG g none d w m1 hd x (fun W hb=>ag3 W x h1 h2 true)
  ·refine abG g (some b) d w m1 hd x (fun W hb=>?_)
   have h3:=(m2.stands (w':=W) (fun q hq _=>hb.block q (h.qlt q hq))).look x h1 h2 true
   rw [if_pos rfl,if_neg hn] at h3
   rw [h3]
   have:(decide (0≤x)&&(d.F x.toNat).isSome)=false:=by
    by_cases h0:0≤x
    ·cases hs:(d.F x.toNat).isSome
     ·simp
     ·exact absurd ⟨h0,hs⟩ hn
    ·simp [h0]
   rw [this]
   rfl
 ·have ek:bE d x=10:=by
   unfold bE
   rw [hd]
   rfl
  rw [ek]
  rcases h.mem with ⟨m1,m2⟩ | ⟨b,D,V,m1,m2⟩
  ·exact abF g none d w m1 hd x
  ·exact abF g (some b) d w m1 hd x
theorem um (g b:Nat) (Q:Nat→Prop) (d:ak) (D:DataW Value) (V:Nat→Option Addr×Nat) (w:World) (m1:Whole w g 77 (cellsD (some b) d)) (m2:dN w g b Q d.F D V) (hq:∀ q,Q q→q<w.heap.size) (hd:d.down=false) (j:Nat) (hj:j<64) (f:fV) (hf:d.F j=some f) :
  Calls Tryz.prog 83 #[.pointer (some ⟨g,0,none⟩),.int .i64 (j:Nat)] w (fun e w'=>e = .returned (.tuple #[.agg #[.slice (V j).1 f.all.length (V j).2,.int .i64 (f.fast:Nat)],.int .i64 0])∧Below w.heap.size w w'):=by
 refine afW g (some b) d w m1 hd _ _ _ _ _ (fun W hb=>?_)
 have h3:=(m2.stands (w':=W) (fun q hq2 _=>hb.block q (hq q hq2))).look (j:Nat) (by omega) (by omega) true
 rw [if_pos rfl,Int.toNat_natCast,if_pos ⟨by omega,by rw [hf];rfl⟩,hf,gG hf] at h3
 rw [h3]
 simp [elemV]
end Dsk
end Go.Proofs.YtpcmlopbkehffaaGreat
namespace Go.Proofs.YtpcmlopbkehffaaGreat
open Go.RowKit
open Go.Maps (Keyed)
open Go.Proofs Go.Shelf
namespace Dsk
theorem afh (A:Option Addr) (n c:Nat) (l:List UInt8) (w:World) (h:Own 0 w A n c l) (hn:n≤140737488355328) :
  Calls Tryz.prog 84 #[.slice A n c] w (fun e w'=>∃ A' c',e = .returned (.slice A' n c')∧Own w.heap.size w' A' n c' l∧Below w.heap.size w w'):=by
 obtain ⟨i0,hi0,hz0,hz1,hz2⟩:=info_parts uz
 rcases A with _ | ⟨g,off,sp⟩
 ·refine Calls.mono (AnyE.slices_Clone_nil Sh.cloneBytes n c w) ?_
  rintro e w' ⟨rfl,rfl⟩
  obtain ⟨hx,⟨e,rfl⟩ | ⟨g,cap,cur,e,_⟩⟩:=h
  ·obtain rfl:l=[]:=List.eq_nil_of_length_eq_zero (by rw [← lS,hx])
   exact ⟨none,0,rfl,Own.none _ _,Below.refl _ _⟩
  ·cases e
 ·have hs:=h.sl
  have e0:off=0∧sp=none:=by
   obtain ⟨hx,⟨e,_⟩ | ⟨g,cap,cur,e,_⟩⟩:=h
   ·cases e
   ·cases e;exact ⟨rfl,rfl⟩
  obtain ⟨rfl,rfl⟩:=e0
  refine Calls.mono (AnyE.slices_Clone Sh.cloneBytes i0 _ 1 1 hi0 hz0 hz1 hz2 rfl (by omega) (fun w=>by kernel_rfl) g 0 n c (bytes l) w (by rw [lS,hs.len];omega) (by unfold maxLen;omega) (by omega) (fun j u hu=>?_) (aa2 l)) ?_
  ·obtain ⟨b,o,e,hc⟩:=hs.holds (by rintro hh;rw [hh] at hu;simp at hu)
   cases e
   exact hc j u hu
  ·rintro e w' ⟨v',rfl,ho,_,hb⟩
   obtain ⟨A',c',rfl,-⟩:=mY ho
   exact ⟨A',c',rfl,ho,hb⟩
def qH (w:World) (l:List UInt8) (k:Int) (e:Ending) (w':World):Prop:=∃ A c,e = .returned (.tuple #[.slice A l.length c,.int .i64 k])∧Own w.heap.size w' A l.length c l∧Below w.heap.size w w'
theorem ajm {w w':World} {k k':Int} (e:k=k') (hb:Below w.heap.size w w'):qH w [] k' (.returned (.tuple #[.slice none 0 0,.int .i64 k])) w':=⟨none,0,by rw [e];rfl,Own.none _ _,hb⟩
theorem ajl {w w':World} {l l':List UInt8} {k k':Int} {A:Option Addr} {c n:Nat} (e:k=k') (el:l=l') (en:n=l.length) (ho:Own w.heap.size w' A n c l) (hb:Below w.heap.size w w'):qH w l' k' (.returned (.tuple #[.slice A n c,.int .i64 k])) w':=by
 subst e el en
 exact ⟨A,c,rfl,ho,hb⟩
theorem uF {d:ak} (h:DOk d) {j:Nat} {f:fV} (hj:j<64) (hf:d.F j=some f):f.all.length≤1048576:=by
 have h1:=qo d.F hj
 rw [vv hf] at h1
 have:=h.used
 have:=h.fM
 omega
theorem qX {d:ak} {j:Nat} {f:fV} (hf:d.F j=some f) (e:d.F=noF):False:=by
 rw [e] at hf
 cases hf
theorem yY (x:Int) (h1 : -9223372036854775808≤x) (h2:x≤9223372036854775807) (g:Nat) (Q:Nat→Prop) (d:ak) (w:World) (h:Dk w g Q d) :
  Calls Tryz.prog 55 #[.pointer (some ⟨g,0,none⟩),.int .i64 x] w (qH w (kV d x) (bE d x)):=by
 rcases ask_cases d x h.ok with ⟨hk,hd,j,f,rfl,hj,hf⟩ | hk
 ·have HR:=aj (show kV d (j:Nat)=f.all by unfold kV;rw [if_pos hk,Int.toNat_natCast,gG hf])
  have Hk:=aj hk
  have hlen:=uF h.ok hj hf
  rcases h.mem with ⟨m1,m2⟩ | ⟨b,D,V,m1,m2⟩
  ·exact (qX hf m2).elim
  have Hf:=aj (um g b Q d D V w m1 m2 h.qlt hd j hj f hf)
  have Ho:=aj (fun (W:World) (hb:Below w.heap.size w W)=>afh (V j).1 f.all.length (V j).2 f.all W ((m2.row j f hf).later hb) (by omega))
  clear h hk hd hf m1 m2
  generalize (V j).1=A at *
  generalize (V j).2=c at *
  generalize hfa:f.all=l at *
  clear hfa
  generalize hn:l.length=n at *
  have Hn:=aj hn
  clear hn
  go_enter Tryz.func55,Tryz.ntmps55
  go_wp2_with fail
  refine Calls.mono Hf.out ?_
  rintro e w1 ⟨rfl,hb⟩
  have Hb:=aj (hb.alloc hb.size (.cells #[.slice A n c,.int .i64 (f.fast:Nat)] 119))
  clear hb
  go_wp2_with fail
  refine Calls.mono (Ho.out _ Hb.out) ?_
  rintro e w2 ⟨A',c',rfl,ho,hb2⟩
  have Hb2:=aj (Hb.out.trans (hb2.mono Hb.out.size))
  have Ho2:=aj (Own.mono ho Hb.out.size)
  clear ho hb2
  go_wp2_with fail
  go_ret2
  exact ajl Hk.out.symm HR.out.symm Hn.out.symm Ho2.out Hb2.out
 ·have HR:=aj (show kV d x=[] by unfold kV;rw [if_neg hk])
  have Hf:=aj (uj g Q d w h x h1 h2 hk)
  have hk':(bE d x==0)=false:=beq_eq_false_iff_ne.2 hk
  have hk2:(bE d x != 0)=true:=by simp [bne,hk']
  clear h hk
  generalize bE d x=k at *
  go_enter Tryz.func55,Tryz.ntmps55
  go_wp2_with fail
  refine Calls.mono Hf.out ?_
  rintro e w1 ⟨rfl,hb⟩
  have Hb:=aj (hb.alloc hb.size (.cells #[.slice none 0 0,.int .i64 0] 119))
  clear hb
  go_wp2_with fail
  go_ret2
  rw [HR.out]
  exact ajm rfl Hb.out
end Dsk
end Go.Proofs.YtpcmlopbkehffaaGreat
namespace Go.Proofs.YtpcmlopbkehffaaGreat
open Go.RowKit
open Go.Maps (Keyed)
open Go.Proofs Go.Shelf
namespace Dsk
theorem mR {w w':World} {g:Nat} {Q:Nat→Prop} {k k':Int} {d d':ak} (e:k=k') (h:Dk w g Q d) (ed:d'=d) (hb:Below w.heap.size w w'):eH w g Q (.int .i64 k') d' (.returned (.int .i64 k)) w' :=
 jQ (by rw [e]) (h.below hb) ed.symm (Tn.of_below hb) (fun _ hq => .inl hq)
set_option maxRecDepth 100000 in
theorem ad1 (x:Int) (h1 : -9223372036854775808≤x) (h2:x≤9223372036854775807) (g:Nat) (Q:Nat→Prop) (d:ak) (w:World) (h:Dk w g Q d) :
  Calls Tryz.prog 61 #[.pointer (some ⟨g,0,none⟩),.int .i64 x] w (eH w g Q (.int .i64 (bE d x)) (eF d x)):=by
 rcases ask_cases d x h.ok with ⟨hk,hd,j,f,rfl,hj,hf⟩ | hk
 ·have HD:=aj (show eF d (j:Nat)=dM d (aW d.F j (some ⟨f.all,f.all.length⟩)) by unfold eF;rw [if_pos hk,Int.toNat_natCast];unfold zN;rw [gG hf])
  have Hk:=aj hk
  have HOk:=aj (zM h.ok (j:Nat))
  rcases h.mem with ⟨m1,m2⟩ | ⟨b,D,V,m1,m2⟩
  ·exact (qX hf m2).elim
  have Hf:=aj (um g b Q d D V w m1 m2 h.qlt hd j hj f hf)
  have hlen:=uF h.ok hj hf
  have hgl:=m1.lt
  have Hown:=aj (m2.owns h.ok.high)
  have Hend:=aj (fun (w2 w':World) (hb:Below w.heap.size w w2) (n':Nat) (hm:w'.ownsMap Tryz.prog 3 eu b n' (D.put (kx (j:Nat)) (.held (.agg #[.slice (V j).1 f.all.length (V j).2,.int .i64 (f.all.length:Nat)])))) (hg:w2.grownBy w' (some b)) =>
   show eH w g Q (.int .i64 (bE d (j:Nat))) (eF d (j:Nat)) (.returned (.int .i64 0)) w' from by
    have hq:∀ q,Q q→q≠b→w'.heap[q]? = w.heap[q]? := fun q hq hne=>(hg.block q (Nat.lt_of_lt_of_le (h.qlt q hq) hb.size) (by intro e;injection e with e;exact hne e)).trans (hb.block q (h.qlt q hq))
    have hD:=zM h.ok (j:Nat)
    rw [HD.out] at hD ⊢
    obtain ⟨Q',h1,h2⟩:=h.put m1 m2 j (V j).1 _ (V j).2 ⟨f.all,f.all.length⟩ rfl _ rfl (Nat.le_trans hb.size hg.size) ⟨_,hm⟩
     ((m2.row j f hf).stands (fun k e=>by have h9:=m2.blk j k (by rw [hf];rfl) e;exact hq k h9.1 h9.2.1)) (fun k e => .inl ⟨by rw [hf];rfl,e⟩) (fun q hq1 hq2 _=>hq q hq1 hq2) hD
    exact jQ (by rw [hk]) h1 rfl ((Tn.of_below hb).grown hg (fun k e=>by injection e with e;exact .inl (e ▸ m2.bq))) h2)
  obtain ⟨c0,c1,c2,c3,c4,-⟩:=gW m1
  clear h hk hd hf m1 m2
  generalize (V j).1=A at *
  generalize (V j).2=c at *
  generalize f.all=l at *
  generalize f.fast=ff at *
  generalize hn:l.length=n at *
  clear hn
  go_enter Tryz.func61,Tryz.ntmps61
  go_wp2_with fail
  refine Calls.mono Hf.out ?_
  rintro e w1 ⟨rfl,hb⟩
  have hz:=hb.size
  obtain ⟨wz,Hwz,z1,z2,z3,Hb⟩:∃ wz,wz=w1.alloc (.cells #[.slice A n c,.int .i64 (n:Nat)] 119)∧wz.cell? ⟨g,1,none⟩=some (.map (some b))∧wz.cell? ⟨w1.heap.size,0,none⟩=some (.slice A n c)∧wz.cell? ⟨w1.heap.size,1,none⟩=some (.int .i64 (n:Nat))∧Hid (Below w.heap.size w wz):=by
   refine ⟨_,rfl,?_,?_,?_,aj (hb.alloc hb.size _)⟩
   ·rw [(hb.alloc hb.size _).cell (p:=⟨g,1,none⟩) hgl];exact c1
   ·exact (aP w1 _ _).cell 0 _ rfl
   ·exact (aP w1 _ _).cell 1 _ rfl
  have Hwz':=aj Hwz
  clear hb Hwz
  go_wp2_with fail
  rw [← Hwz'.out]
  clear Hwz'
  go_still_tail 6,(by kernel_rfl)
  have Hbd:=aj Hb.out.drew
  have Hown2:=aj (World.ownsMap.kept Hown.out (rD Hbd.out (Nat.le_refl _) none) (by simp))
  go_wp2_with (first
   | (at_mapUpdate;refine wpList_mapUpdate_own _ rfl _ _ _ 75 rfl 3 119 kI Tryz.underlying75 _ b 64 _ rfl Hown2.out (by unfold maxLen;omega) _ _ _ rfl rfl (lW h1 h2) (.held (.agg #[.slice A n c,.int .i64 (n:Nat)])) [] rfl ?_;intro w2 hm hg)
   | fail)
  go_ret
  exact Hend.out _ _ Hbd.out 65 hm hg
 ·have HD:=aj (show eF d x=d by unfold eF;rw [if_neg hk])
  have Hf:=aj (uj g Q d w h x h1 h2 hk)
  have hk':(bE d x==0)=false:=beq_eq_false_iff_ne.2 hk
  have hk2:(bE d x != 0)=true:=by simp [bne,hk']
  have H:=aj h
  clear h hk
  generalize eF d x=d' at *
  generalize bE d x=k at *
  go_enter Tryz.func61,Tryz.ntmps61
  go_wp2_with fail
  refine Calls.mono Hf.out ?_
  rintro e w1 ⟨rfl,hb⟩
  have Hb:=aj (hb.alloc hb.size (.cells #[.slice none 0 0,.int .i64 0] 119))
  clear hb
  go_wp2_with fail
  go_ret
  exact mR rfl H.out HD.out Hb.out
set_option maxRecDepth 100000 in
theorem zn (x:Int) (h1 : -9223372036854775808≤x) (h2:x≤9223372036854775807) (g:Nat) (Q:Nat→Prop) (d:ak) (w:World) (h:Dk w g Q d) :
  Calls Tryz.prog 75 #[.pointer (some ⟨g,0,none⟩),.int .i64 x] w (eH w g Q (.int .i64 (bE d x)) (fG d x)):=by
 rcases ask_cases d x h.ok with ⟨hk,hd,j,f,rfl,hj,hf⟩ | hk
 ·have HD:=aj (show fG d (j:Nat)=dM d (aW d.F j none) by unfold fG;rw [if_pos hk,Int.toNat_natCast])
  rcases h.mem with ⟨m1,m2⟩ | ⟨b,D,V,m1,m2⟩
  ·exact (qX hf m2).elim
  have Hf:=aj (um g b Q d D V w m1 m2 h.qlt hd j hj f hf)
  have hgl:=m1.lt
  have Hown:=aj (m2.owns h.ok.high)
  have Hend:=aj (fun (w2 w':World) (hb:Below w.heap.size w w2) (n':Nat) (hm:w'.ownsMap Tryz.prog 3 eu b n' (D.del (kx (j:Nat)))) (hg:w2.grownBy w' (some b)) =>
   show eH w g Q (.int .i64 (bE d (j:Nat))) (fG d (j:Nat)) (.returned (.int .i64 0)) w' from by
    have hq:∀ q,Q q→q≠b→w'.heap[q]? = w.heap[q]? := fun q hq hne=>(hg.block q (Nat.lt_of_lt_of_le (h.qlt q hq) hb.size) (by intro e;injection e with e;exact hne e)).trans (hb.block q (h.qlt q hq))
    have hD:=uT h.ok (j:Nat)
    rw [HD.out] at hD ⊢
    exact jQ (by rw [hk]) (Q':=Q) ⟨hD,h.qg,fun q hq2=>Nat.lt_of_lt_of_le (h.qlt q hq2) (Nat.le_trans hb.size hg.size),.inr ⟨b,_,_,(hq g h.qg (fun e=>m2.bg e.symm)).trans m1,m2.del j ⟨_,hm⟩ (fun q hq1 _ hq3=>hq q hq1 hq3)⟩⟩ rfl
     ((Tn.of_below hb).grown hg (fun k e=>by injection e with e;exact .inl (e ▸ m2.bq))) (fun q hq2 => .inl hq2))
  obtain ⟨c0,c1,c2,c3,c4,-⟩:=gW m1
  clear h hk hd hf m1 m2
  generalize (V j).1=A at *
  generalize (V j).2=c at *
  generalize f.all.length=n at *
  generalize f.fast=ff at *
  go_enter Tryz.func75,Tryz.ntmps75
  go_wp2_with fail
  refine Calls.mono Hf.out ?_
  rintro e w1 ⟨rfl,hb⟩
  have hz:=hb.size
  have hc:∀ b o,b<w.heap.size→w1.cell? ⟨b,o,none⟩=w.cell? ⟨b,o,none⟩:=fun b o h=>hb.cell (p:=⟨b,o,none⟩) h
  have hgl1:g<w1.heap.size:=by omega
  have Hb:=aj (hb.alloc hb.size (.cells #[.slice A n c,.int .i64 (ff:Nat)] 119))
  have Hown2:=aj (World.ownsMap.kept Hown.out (rD Hb.out (Nat.le_refl _) none) (by simp))
  clear hb
  go_wp2_with (first
   | (at_delete;refine wpList_delete_own _ rfl _ _ 75 3 rfl 119 kI Tryz.underlying75 _ b 64 _ rfl Hown2.out _ _ rfl (lW h1 h2) ?_;intro w2 hm hg)
   | fail)
  go_ret
  exact Hend.out _ _ Hb.out 64 hm hg.grown
 ·have HD:=aj (show fG d x=d by unfold fG;rw [if_neg hk])
  have Hf:=aj (uj g Q d w h x h1 h2 hk)
  have hk':(bE d x==0)=false:=beq_eq_false_iff_ne.2 hk
  have hk2:(bE d x != 0)=true:=by simp [bne,hk']
  have H:=aj h
  clear h hk
  generalize fG d x=d' at *
  generalize bE d x=k at *
  go_enter Tryz.func75,Tryz.ntmps75
  go_wp2_with fail
  refine Calls.mono Hf.out ?_
  rintro e w1 ⟨rfl,hb⟩
  have Hb:=aj (hb.alloc hb.size (.cells #[.slice none 0 0,.int .i64 0] 119))
  clear hb
  go_wp2_with fail
  go_ret
  exact mR rfl H.out HD.out Hb.out
end Dsk
end Go.Proofs.YtpcmlopbkehffaaGreat
