/-
  What the program's Name answers.
-/
import Derived.Test.YtpcmlopbkehffaaGreatOGBA
import Derived.Test.YtpcmlopbkehffaaGreatOGBB
import Derived.Lib.Walk
import Derived.Lib.Slices
import Derived.Laws.Strings3
import Derived.Laws.RangeAny
set_option linter.unusedSimpArgs false
set_option linter.unusedVariables false
namespace Go.Proofs.YtpcmlopbkehffaaGreat
open Go.RowKit Ru
set_option maxHeartbeats 1000000 in
theorem ai1 (s p:ByteArray) (w:World) :
  Calls Tryz.prog 187 #[.string s,.string p] w fun e w'=>e = .returned (.bool (Lib.hasPrefix s.data.toList p.data.toList))∧w'=w:=by
 rw [← Lib.hasPrefix_of_take,← Lib.size_eq,← Lib.size_eq]
 go_enter Tryz.func187,Tryz.ntmps187
 go_wp2
 ·rename_i h
  go_ret
  refine ⟨?_,rfl⟩
  show Ending.returned (Value.bool ((s.extract 0 p.size).toList==p.toList))=_
  rw [Lib.extract_toList,Lib.toList_data]
  simp [h]
 ·rename_i h
  go_ret
  refine ⟨?_,rfl⟩
  show Ending.returned (Value.bool false)=_
  simp [h]
theorem ai0 (s:ByteArray) (i:Nat) (w:World) :
  Calls Tryz.prog 187 #[.string (s.extract i s.size),.string ⟨#[239,191,189]⟩] w fun e w'=>e = .returned (.bool (oI s i))∧w=w' :=
 (ai1 (s.extract i s.size) ⟨#[239,191,189]⟩ w).mono fun _ _ ⟨h1,h2⟩=>⟨h1,h2.symm⟩
set_option maxHeartbeats 1000000 in
theorem aiZ (s:ByteArray) (i:Nat) (w:World) :
  Calls Tryz.prog 182 #[.string (s.extract i s.size),.string ⟨#[239,191,189]⟩] w fun e w'=>e = .returned (.bool (oI s i))∧w=w':=by
 go_enter Tryz.func182,Tryz.ntmps182
 go_wp2_with (go_at_call 187;refine (ai0 s i _).mono ?_;rintro e w' ⟨rfl,rfl⟩)
 go_ret
 exact ⟨rfl,rfl⟩
set_option maxHeartbeats 2000000 in
theorem acB (s:ByteArray) (w:World) (hs:s.size≤9223372036854775807) :
  Calls Tryz.prog 171 #[.string s] w (gQ w (mU s)):=by
 by_cases h1:s.size<1
 ·have Hk:=aj (jJ (uK (.inl h1)))
  have e1:decide ((s.size:Int)<1)=true:=decide_eq_true (by omega)
  clear h1
  go_enter Tryz.func171,Tryz.ntmps171
  go_wp2
  go_ret
  exact bG Hk.out (Below.refl _ _)
 have e1:decide ((s.size:Int)<1)=false:=decide_eq_false (by omega)
 by_cases h2:32<s.size
 ·have Hk:=aj (jJ (uK (.inr h2)))
  have e2:decide ((32:Int)<(s.size:Int))=true:=decide_eq_true (by omega)
  go_enter Tryz.func171,Tryz.ntmps171
  go_wp2
  go_ret
  exact bG Hk.out (Below.refl _ _)
 have e2:decide ((32:Int)<(s.size:Int))=false:=decide_eq_false (by omega)
 go_enter Tryz.func171,Tryz.ntmps171
 go_wp2
 go_loopw [] (fun w'=>∃ pos,w'=w.iter s pos∧nG s pos) (fun w'=>s.size-w'.iterPos w.heap.size)
 case atStart=>exact ⟨0,rfl,ahq s⟩
 case round =>
  obtain ⟨pos,rfl,hat⟩:=hrel
  have hle:=ahp hat
  have Hat:=aj hat
  clear hat
  by_cases hp:pos<s.size
  ·have hnx:∀ ty,(Instr.next (.pointer (some ⟨w.heap.size,0,none⟩)) true ty).run Tryz.prog (w.iter s pos)=_:=fun ty=>run_next_any w s pos ty hp
   have hwd:=width_pos s pos hp
   have hd1:=decode_le s pos
   have Hwhole:=aj (akw (s:=s) hp)
   have Hbroken:=aj (aku (s:=s) hp)
   have Hplain:=aj (akv (s:=s) hp)
   have Hpre:=aj (aiZ s pos)
   by_cases hr:(Utf8.decode s pos).1=65533
   ·have er:(((Utf8.decode s pos).1:Int)==65533)=true:=by rw [beq_iff_eq];omega
    cases hf:oI s pos
    ·have Hk:=aj (ahn Hat.out hp (Hbroken.out hr hf))
     have Hf:=aj hf
     have Hr:=aj hr
     clear hr hf
     go_wp2_with (go_at_call 182;(with_reducible refine Calls.mono (Hpre.out _) ?_);rintro e w' ⟨rfl,rfl⟩;rw [Hf.out])
     go_ret
     exact bG Hk.out ((Below.refl _ _).alloc (Nat.le_refl _) _)
    ·obtain ⟨hru,hw3⟩:=Hwhole.out hf
     have Hst:=aj (acA Hat.out hp _ _ hru (by omega) (by decide))
     have Hf:=aj hf
     have Hr:=aj hr
     have Hw3:=aj hw3
     have b1:decide (((Utf8.decode s pos).1:Int)<32)=false:=decide_eq_false (by omega)
     have b2:decide ((127:Int)≤((Utf8.decode s pos).1:Int))=true:=decide_eq_true (by omega)
     have b3:decide (((Utf8.decode s pos).1:Int)≤159)=false:=decide_eq_false (by omega)
     clear hr hf hru hw3
     go_wp2_with (go_at_call 182;(with_reducible refine Calls.mono (Hpre.out _) ?_);rintro e w' ⟨rfl,rfl⟩;rw [Hf.out])
     go_roundw
     case rel=>exact ⟨pos+(Utf8.decode s pos).2,rfl,by rw [Hw3.out];exact Hst.out⟩
     case measure=>simp;omega
   ·have er:(((Utf8.decode s pos).1:Int)==65533)=false:=by rw [beq_eq_false_iff_ne];omega
    have hru:=Hplain.out hr
    cases hb:iX (Utf8.decode s pos).1
    ·have Hst:=aj (acA Hat.out hp (Utf8.decode s pos).1 (Utf8.decode s pos).2 hru (Nat.ne_of_gt hwd) hb)
     have hb2:32≤(Utf8.decode s pos).1∧((Utf8.decode s pos).1<127∨159<(Utf8.decode s pos).1):=by
      unfold iX at hb
      simp at hb
      omega
     have Hru:=aj hru
     clear hru hb hr
     obtain ⟨g1,g2⟩:=hb2
     rcases g2 with g2 | g2
     ·have g4:¬ 127≤(Utf8.decode s pos).1:=by omega
      go_wp2_with fail
      go_roundw
      case rel=>exact ⟨pos+(Utf8.decode s pos).2,rfl,Hst.out⟩
      case measure=>simp;omega
     ·have g3:127≤(Utf8.decode s pos).1:=by omega
      go_wp2_with fail
      go_roundw
      case rel=>exact ⟨pos+(Utf8.decode s pos).2,rfl,Hst.out⟩
      case measure=>simp;omega
    ·have Hk:=aj (ahm Hat.out hp (Utf8.decode s pos).1 (Utf8.decode s pos).2 hru (Nat.ne_of_gt hwd) hb)
     have hb2:(Utf8.decode s pos).1<32∨(32≤(Utf8.decode s pos).1∧127≤(Utf8.decode s pos).1∧(Utf8.decode s pos).1≤159):=by
      unfold iX at hb
      simp at hb
      omega
     have Hru:=aj hru
     clear hru hb hr
     rcases hb2 with g1 | ⟨g0,g1,g2⟩
     all_goals
      go_wp2_with fail
      go_ret
      exact bG Hk.out ((Below.refl _ _).alloc (Nat.le_refl _) _)
  ·have hnx:∀ ty,(Instr.next (.pointer (some ⟨w.heap.size,0,none⟩)) true ty).run Tryz.prog (w.iter s pos)=_:=fun ty=>run_next_end w s pos ty hp
   obtain rfl:pos=s.size:=by omega
   have Hk:=aj (aho Hat.out (by omega) (by omega))
   go_wp2_with fail
   go_ret
   exact bG Hk.out ((Below.refl _ _).alloc (Nat.le_refl _) _)
end Go.Proofs.YtpcmlopbkehffaaGreat
namespace Go.Proofs.YtpcmlopbkehffaaGreat
open Go.RowKit Ru
abbrev alA (s:ay):Value := .agg #[.string s.service,.string s.name]
abbrev amy (s:ay):Value := .agg #[.int .u64 (s.trace:Nat),.int .u64 (s.id:Nat),.int .u64 (s.parent:Nat),.int .u64 (s.start:Nat),.int .u64 (s.len:Nat)]
def aax (w:World) (v:Value) (e:Ending) (w':World):Prop:=e = .returned v∧Below w.heap.size w w'
theorem al3 {w w':World} {v:Value} (hb:Below w.heap.size w w'):aax w v (.returned v) w':=⟨rfl,hb⟩
set_option maxHeartbeats 1000000 in
theorem alB (s:ay) (w:World) :
  Calls Tryz.prog 170 #[jv s] w (aax w (alA s)):=by
 obtain ⟨t,i,p,st,ln,sv,nm,f⟩:=s
 go_enter Tryz.func170,Tryz.ntmps170
 go_wp2_with fail
 refine bodyPost_ret (v := .agg #[.string sv,.string nm]) (by simp [results,Tryz.results170,go_sem]) rfl ?_
 exact al3 (((Below.refl _ _).alloc (Nat.le_refl _) _).alloc (by simp) _)
set_option maxHeartbeats 1000000 in
theorem akf (s:ay) (w:World) (ha:jw s=true) :
  Calls Tryz.prog 146 #[jv s] w (gQ w (fq s)):=by
 obtain ⟨t,i,p,st,ln,sv,nm,f⟩:=s
 have Hk:=aj (zx ha)
 have h1:=aaU ha
 simp only at h1
 clear ha
 rcases h1 with h1 | ⟨h0,h1⟩ | ⟨h0,h0',h1⟩ | ⟨h0,h0',h0'',h1⟩
 ·have e1:((t:Int)==0)=true:=by rw [beq_iff_eq];omega
  have H:=aj h1
  clear h1
  go_enter Tryz.func146,Tryz.ntmps146
  go_wp2_with fail
  go_ret
  exact bG Hk.out ((Below.refl _ _).alloc (Nat.le_refl _) _)
 ·have e1:((t:Int)==0)=false:=by rw [beq_eq_false_iff_ne];omega
  have e2:((i:Int)==0)=true:=by rw [beq_iff_eq];omega
  have H:=aj h1
  clear h1 h0
  go_enter Tryz.func146,Tryz.ntmps146
  go_wp2_with fail
  go_ret
  exact bG Hk.out ((Below.refl _ _).alloc (Nat.le_refl _) _)
 ·have e1:((t:Int)==0)=false:=by rw [beq_eq_false_iff_ne];omega
  have e2:((i:Int)==0)=false:=by rw [beq_eq_false_iff_ne];omega
  clear h0 h0'
  go_enter Tryz.func146,Tryz.ntmps146
  go_wp2_with fail
  go_ret
  exact bG Hk.out ((Below.refl _ _).alloc (Nat.le_refl _) _)
 ·have e1:((t:Int)==0)=false:=by rw [beq_eq_false_iff_ne];omega
  have e2:((i:Int)==0)=false:=by rw [beq_eq_false_iff_ne];omega
  clear h0 h0'
  go_enter Tryz.func146,Tryz.ntmps146
  go_wp2_with fail
  go_ret
  exact bG Hk.out ((Below.refl _ _).alloc (Nat.le_refl _) _)
def textAt (s:ay) (k:Nat):ByteArray:=if k=0 then s.service else s.name
set_option maxHeartbeats 2000000 in
theorem zw (s:ay) (w:World) (hs:s.Wf) :
  Calls Tryz.prog 146 #[jv s] w (gQ w (fq s)):=by
 cases ha:jw s
 rotate_left
 ·exact akf s w ha
 have Ha:=aj ha
 obtain ⟨h0,h0',h1,h2⟩:=wG ha
 have Hsv:=aj (fun W=>acB s.service W hs.service)
 have Hnm:=aj (fun W=>acB s.name W hs.name)
 have Ht:=aj (fun W=>alB s W)
 clear ha hs
 have Hr1:=aj (fun h=>uW Ha.out (.inl h))
 have Hr2:=aj (fun h=>uW Ha.out (.inr h))
 have Hr3:=aj (ads Ha.out)
 obtain ⟨t,i,p,st,ln,sv,nm,f⟩:=s
 simp only at h0 h0' h1 h2
 have e1:((t:Int)==0)=false:=by rw [beq_eq_false_iff_ne];omega
 have e2:((i:Int)==0)=false:=by rw [beq_eq_false_iff_ne];omega
 clear h0 h0'
 go_enter Tryz.func146,Tryz.ntmps146
 go_wp2_with fail
 refine (Ht.out _).mono ?_
 rintro e w1 ⟨rfl,hb⟩
 have Hb1:=aj (((Below.refl w.heap.size w).alloc (Nat.le_refl _) _).trans (hb.mono (by simp)))
 clear hb
 have i0:∀ w,(Instr.index 252 (.agg #[.string sv,.string nm]) (.int .i64 0)).run Tryz.prog w = .ok (.string sv) w:=fun _=>by kernel_rfl
 have i1:∀ w,(Instr.index 252 (.agg #[.string sv,.string nm]) (.int .i64 1)).run Tryz.prog w = .ok (.string nm) w:=fun _=>by kernel_rfl
 go_wp2_with fail
 go_loopw [26] (fun vi wr=>∃ k:Nat,k≤2∧vi = .int .i64 (k:Nat)∧Below w.heap.size w wr∧Hid (1≤k→fC sv=true)∧Hid (2≤k→fC nm=true)) (fun vi _=>2-(intOf vi).toNat)
 case atStart=>exact ⟨0,by omega,rfl,Hb1.out,aj (by omega),aj (by omega)⟩
 case round =>
  obtain ⟨k,hk,rfl,hb,H1,H2⟩:=hrel
  have Hb:=aj hb
  clear hb
  rcases (show k=0∨k=1∨k=2 by omega) with rfl | rfl | rfl
  ·go_wp2_with fail
   refine (Hsv.out _).mono ?_
   rintro e w2 ⟨rfl,hb2⟩
   have Hb2:=aj (Hb.out.trans (hb2.mono Hb.out.size))
   clear hb2
   cases hsv:fC sv
   ·rw [jJ hsv]
    have Hk:=aj (Hr1.out hsv)
    clear hsv
    go_wp2_with fail
    go_ret
    exact bG Hk.out Hb2.out
   ·rw [pQ hsv]
    have Hn:=aj hsv
    clear hsv
    go_wp2_with fail
    go_roundw
    case rel=>exact ⟨1,by omega,rfl,Hb2.out,aj (fun _=>Hn.out),aj (by omega)⟩
    case measure=>simp [intOf]
  ·go_wp2_with fail
   refine (Hnm.out _).mono ?_
   rintro e w2 ⟨rfl,hb2⟩
   have Hb2:=aj (Hb.out.trans (hb2.mono Hb.out.size))
   clear hb2
   cases hnm:fC nm
   ·rw [jJ hnm]
    have Hk:=aj (Hr2.out hnm)
    clear hnm
    go_wp2_with fail
    go_ret
    exact bG Hk.out Hb2.out
   ·rw [pQ hnm]
    have Hn:=aj hnm
    clear hnm
    go_wp2_with fail
    go_roundw
    case rel=>exact ⟨2,by omega,rfl,Hb2.out,aj (fun _=>H1.out (by omega)),aj (fun _=>Hn.out)⟩
    case measure=>simp [intOf]
  ·have Hk:=aj (Hr3.out (H1.out (by omega)) (H2.out (by omega)))
   go_wp2_with fail
   go_ret
   exact bG Hk.out Hb.out
end Go.Proofs.YtpcmlopbkehffaaGreat
