/-
  What the reference's Rune answers.
-/
import Derived.Test.YtpcmlopbkehffaaGreatOGAA
import Derived.Test.YtpcmlopbkehffaaGreatOGBA
import Derived.Laws.StructEq
import Derived.Deep.RegionLaw
set_option linter.unusedSimpArgs false
set_option linter.unusedVariables false
namespace Go.Proofs.YtpcmlopbkehffaaGreat
open Go.RowKit Ru
theorem kH {k:IntKind} {a b:Int} (h:a=b):Value.int k a=Value.int k b:=by rw [h]
def oo (w:World) (s:ByteArray) (e:Ending) (w':World):Prop:=e = .returned (.tuple #[.int .i32 ((dR s).1:Nat),.int .i64 ((dR s).2:Nat)])∧w=w'
theorem gJ {w:World} {s:ByteArray} {r n:Nat} (h:dR s=(r,n)):oo w s (.returned (.tuple #[.int .i32 (r:Nat),.int .i64 (n:Nat)])) w:=⟨by rw [h],rfl⟩
set_option maxRecDepth 100000 in
set_option maxHeartbeats 1000000 in
theorem ajR (s:ByteArray) (w:World) (hp:0<s.size) (hs:s.size≤9223372036854775807) (h1:s[0].toNat<128) :
  Calls Tryz.prog 175 #[.string s] w (oo w s):=by
 have e0:((s.size:Int)==0)=false:=by rw [beq_eq_false_iff_ne];omega
 have Hr:=aj (show dR s=(s[0].toNat,1) by unfold dR;rw [get_eq s 0 hp];exact akE _ _ _ _ _ (by omega) h1)
 go_enter Tryz.func175,Tryz.ntmps175
 go_wp2
 go_ret2
 exact gJ Hr.out
set_option maxRecDepth 100000 in
set_option maxHeartbeats 1000000 in
theorem ajS (s:ByteArray) (w:World) (hp:0<s.size) (hs:s.size≤9223372036854775807) (h1:128≤s[0].toNat) (h2:¬ (194≤s[0].toNat∧s[0].toNat≤244)) :
  Calls Tryz.prog 175 #[.string s] w (oo w s):=by
 have e0:((s.size:Int)==0)=false:=by rw [beq_eq_false_iff_ne];omega
 have Hr:=aj (show dR s=(0,0) by unfold dR;exact akK _ _ _ _ _ (by rw [get_eq s 0 hp];omega) (by rw [get_eq s 0 hp];omega) (UInt8.toNat_lt _))
 by_cases hlow:s[0].toNat<194
 ·clear h2
  go_enter Tryz.func175,Tryz.ntmps175
  go_wp2
  go_ret2
  exact gJ Hr.out
 ·have hhigh:244<s[0].toNat:=by omega
  clear h2
  go_enter Tryz.func175,Tryz.ntmps175
  go_wp2
  go_ret2
  exact gJ Hr.out
set_option maxRecDepth 100000 in
set_option maxHeartbeats 4000000 in
theorem ajN (s:ByteArray) (w:World) (hp:0<s.size) (hs:s.size≤9223372036854775807) (h1:194≤s[0].toNat) (h2:s[0].toNat≤223) :
  Calls Tryz.prog 175 #[.string s] w (oo w s):=by
 have e0:((s.size:Int)==0)=false:=by rw [beq_eq_false_iff_ne];omega
 have Hg0:=aj (get_eq s 0 hp)
 have C:=aj (show 194≤(s.get! 0).toNat∧(s.get! 0).toNat≤223 by rw [Hg0.out];exact ⟨h1,h2⟩)
 by_cases hf:s.size<2
 ·have Hr:=aj (show dR s=(0,0) from akF _ _ _ _ _ C.out hf)
  go_enter Tryz.func175,Tryz.ntmps175
  go_wp2
  go_ret2
  exact gJ Hr.out
 have hf':2≤s.size:=by omega
 clear hf
 have t0:decide ((s[0].toNat:Int)<128)=false:=by simp;omega
 have t1:decide ((194:Int)≤(s[0].toNat:Int))=true:=by simp;omega
 have t2:decide ((s[0].toNat:Int)≤223)=true:=by simp;omega
 have tn:decide ((s.size:Int)<2)=false:=by simp;omega
 go_enter Tryz.func175,Tryz.ntmps175
 go_wp2
 go_loop [7,8] (fun vr vi=>∃ k R:Nat,1≤k∧k≤2∧vi = .int .i64 k∧vr = .int .i32 R∧Hid (acc s ((s.get! 0).toNat-192) k=R)∧Hid (Conts s k)) (fun _ vi=>2-(intOf vi).toNat)
 case atStart=>exact ⟨1,s[0].toNat-192,by omega,by omega,rfl,kH (by omega),aj (by rw [Hg0.out];rfl),aj (Conts.one s)⟩
 case round =>
  obtain ⟨k,R,hk1,hk,rfl,rfl,HR,HC⟩:=hrel
  have hRb:R<64 ^ k:=by rw [← HR.out];exact vW (by have:=C.out;omega) k hk1 (by omega) HC.out
  have hp4:(64:Nat) ^ k≤16777216:=Nat.le_trans (Nat.pow_le_pow_right (by omega) (show k≤4 by omega)) (Nat.le_refl _)
  have hR4:R≤16777216:=by omega
  clear hRb hp4
  by_cases hlt:k<2
  ·have hks:k<s.size:=by omega
   have hgk:=get_eq s k hks
   have bk:s[k].toNat<256:=UInt8.toNat_lt _
   by_cases hc:128≤s[k].toNat∧s[k].toNat≤191
   ·have HC2:=aj (HC.out.succ (by rw [hgk];exact hc))
    have HR2:=aj (show acc s ((s.get! 0).toNat-192) (k+1)=R*64+s[k].toNat-128 by rw [vX _ _ hk1,HR.out,hgk])
    obtain ⟨hca,hcb⟩:=hc
    clear hgk
    go_wp2
    go_round
    case rel=>exact ⟨k+1,R*64+s[k].toNat-128,by omega,by omega,by go_num,kH (by omega),HR2,HC2⟩
    case measure=>simp [intOf];omega
   ·have Hr:=aj (aky C.out k hk1 hlt (by rw [hgk];exact hc))
    clear hgk
    by_cases hlo:s[k].toNat<128
    ·go_wp2
     go_ret2
     exact gJ Hr.out
    ·have hhi:191<s[k].toNat:=by omega
     go_wp2
     go_ret2
     exact gJ Hr.out
  ·obtain rfl:k=2:=by omega
   have hF:=akx C.out hf' HC.out R HR.out
   cases hfit:fits 128 R
   ·rw [if_neg (by rw [hfit];decide)] at hF
    have Hr:=aj hF
    have hno:=ru hfit
    clear hF hfit
    rcases (show R<128∨(128≤R∧1114111<R)∨(128≤R∧R≤1114111∧55296≤R∧R≤57343) by omega) with hx | ⟨hx,hy⟩ | ⟨hx,hy,hz,hz2⟩
    all_goals
     clear hno
     first
      | (exfalso;omega)
      | (go_wp2
         go_ret2
         exact gJ Hr.out)
   ·rw [if_pos hfit] at hF
    have Hr:=aj hF
    obtain ⟨hx,hy,hz⟩:=rz hfit
    clear hF hfit
    by_cases hq:55296≤R
    ·have hq2:57343<R:=by omega
     clear hz
     go_wp2
     go_ret2
     exact gJ Hr.out
    ·clear hz
     first
      | (exfalso;omega)
      | (go_wp2
         go_ret2
         exact gJ Hr.out)
set_option maxRecDepth 100000 in
set_option maxHeartbeats 4000000 in
theorem ajO (s:ByteArray) (w:World) (hp:0<s.size) (hs:s.size≤9223372036854775807) (h1:224≤s[0].toNat) (h2:s[0].toNat≤239) :
  Calls Tryz.prog 175 #[.string s] w (oo w s):=by
 have e0:((s.size:Int)==0)=false:=by rw [beq_eq_false_iff_ne];omega
 have Hg0:=aj (get_eq s 0 hp)
 have C:=aj (show 224≤(s.get! 0).toNat∧(s.get! 0).toNat≤239 by rw [Hg0.out];exact ⟨h1,h2⟩)
 by_cases hf:s.size<3
 ·have Hr:=aj (show dR s=(0,0) from akG _ _ _ _ _ C.out hf)
  go_enter Tryz.func175,Tryz.ntmps175
  go_wp2
  go_ret2
  exact gJ Hr.out
 have hf':3≤s.size:=by omega
 clear hf
 have t0:decide ((s[0].toNat:Int)<128)=false:=by simp;omega
 have t1:decide ((194:Int)≤(s[0].toNat:Int))=true:=by simp;omega
 have t2:decide ((s[0].toNat:Int)≤223)=false:=by simp;omega
 have t3:decide ((224:Int)≤(s[0].toNat:Int))=true:=by simp;omega
 have t4:decide ((s[0].toNat:Int)≤239)=true:=by simp;omega
 have tn:decide ((s.size:Int)<3)=false:=by simp;omega
 go_enter Tryz.func175,Tryz.ntmps175
 go_wp2
 go_loop [7,8] (fun vr vi=>∃ k R:Nat,1≤k∧k≤3∧vi = .int .i64 k∧vr = .int .i32 R∧Hid (acc s ((s.get! 0).toNat-224) k=R)∧Hid (Conts s k)) (fun _ vi=>3-(intOf vi).toNat)
 case atStart=>exact ⟨1,s[0].toNat-224,by omega,by omega,rfl,kH (by omega),aj (by rw [Hg0.out];rfl),aj (Conts.one s)⟩
 case round =>
  obtain ⟨k,R,hk1,hk,rfl,rfl,HR,HC⟩:=hrel
  have hRb:R<64 ^ k:=by rw [← HR.out];exact vW (by have:=C.out;omega) k hk1 (by omega) HC.out
  have hp4:(64:Nat) ^ k≤16777216:=Nat.le_trans (Nat.pow_le_pow_right (by omega) (show k≤4 by omega)) (Nat.le_refl _)
  have hR4:R≤16777216:=by omega
  clear hRb hp4
  by_cases hlt:k<3
  ·have hks:k<s.size:=by omega
   have hgk:=get_eq s k hks
   have bk:s[k].toNat<256:=UInt8.toNat_lt _
   by_cases hc:128≤s[k].toNat∧s[k].toNat≤191
   ·have HC2:=aj (HC.out.succ (by rw [hgk];exact hc))
    have HR2:=aj (show acc s ((s.get! 0).toNat-224) (k+1)=R*64+s[k].toNat-128 by rw [vX _ _ hk1,HR.out,hgk])
    obtain ⟨hca,hcb⟩:=hc
    clear hgk
    go_wp2
    go_round
    case rel=>exact ⟨k+1,R*64+s[k].toNat-128,by omega,by omega,by go_num,kH (by omega),HR2,HC2⟩
    case measure=>simp [intOf];omega
   ·have Hr:=aj (akA C.out k hk1 hlt (by rw [hgk];exact hc))
    clear hgk
    by_cases hlo:s[k].toNat<128
    ·go_wp2
     go_ret2
     exact gJ Hr.out
    ·have hhi:191<s[k].toNat:=by omega
     go_wp2
     go_ret2
     exact gJ Hr.out
  ·obtain rfl:k=3:=by omega
   have hF:=akz C.out hf' HC.out R HR.out
   cases hfit:fits 2048 R
   ·rw [if_neg (by rw [hfit];decide)] at hF
    have Hr:=aj hF
    have hno:=ru hfit
    clear hF hfit
    rcases (show R<2048∨(2048≤R∧1114111<R)∨(2048≤R∧R≤1114111∧55296≤R∧R≤57343) by omega) with hx | ⟨hx,hy⟩ | ⟨hx,hy,hz,hz2⟩
    all_goals
     clear hno
     first
      | (exfalso;omega)
      | (go_wp2
         go_ret2
         exact gJ Hr.out)
   ·rw [if_pos hfit] at hF
    have Hr:=aj hF
    obtain ⟨hx,hy,hz⟩:=rz hfit
    clear hF hfit
    by_cases hq:55296≤R
    ·have hq2:57343<R:=by omega
     clear hz
     go_wp2
     go_ret2
     exact gJ Hr.out
    ·clear hz
     first
      | (exfalso;omega)
      | (go_wp2
         go_ret2
         exact gJ Hr.out)
set_option maxRecDepth 100000 in
set_option maxHeartbeats 4000000 in
theorem ajP (s:ByteArray) (w:World) (hp:0<s.size) (hs:s.size≤9223372036854775807) (h1:240≤s[0].toNat) (h2:s[0].toNat≤244) :
  Calls Tryz.prog 175 #[.string s] w (oo w s):=by
 have e0:((s.size:Int)==0)=false:=by rw [beq_eq_false_iff_ne];omega
 have Hg0:=aj (get_eq s 0 hp)
 have C:=aj (show 240≤(s.get! 0).toNat∧(s.get! 0).toNat≤244 by rw [Hg0.out];exact ⟨h1,h2⟩)
 by_cases hf:s.size<4
 ·have Hr:=aj (show dR s=(0,0) from akH _ _ _ _ _ C.out hf)
  go_enter Tryz.func175,Tryz.ntmps175
  go_wp2
  go_ret2
  exact gJ Hr.out
 have hf':4≤s.size:=by omega
 clear hf
 have t0:decide ((s[0].toNat:Int)<128)=false:=by simp;omega
 have t1:decide ((194:Int)≤(s[0].toNat:Int))=true:=by simp;omega
 have t2:decide ((s[0].toNat:Int)≤223)=false:=by simp;omega
 have t3:decide ((224:Int)≤(s[0].toNat:Int))=true:=by simp;omega
 have t4:decide ((s[0].toNat:Int)≤239)=false:=by simp;omega
 have t5:decide ((240:Int)≤(s[0].toNat:Int))=true:=by simp;omega
 have t6:decide ((s[0].toNat:Int)≤244)=true:=by simp;omega
 have tn:decide ((s.size:Int)<4)=false:=by simp;omega
 go_enter Tryz.func175,Tryz.ntmps175
 go_wp2
 go_loop [7,8] (fun vr vi=>∃ k R:Nat,1≤k∧k≤4∧vi = .int .i64 k∧vr = .int .i32 R∧Hid (acc s ((s.get! 0).toNat-240) k=R)∧Hid (Conts s k)) (fun _ vi=>4-(intOf vi).toNat)
 case atStart=>exact ⟨1,s[0].toNat-240,by omega,by omega,rfl,kH (by omega),aj (by rw [Hg0.out];rfl),aj (Conts.one s)⟩
 case round =>
  obtain ⟨k,R,hk1,hk,rfl,rfl,HR,HC⟩:=hrel
  have hRb:R<64 ^ k:=by rw [← HR.out];exact vW (by have:=C.out;omega) k hk1 (by omega) HC.out
  have hp4:(64:Nat) ^ k≤16777216:=Nat.le_trans (Nat.pow_le_pow_right (by omega) (show k≤4 by omega)) (Nat.le_refl _)
  have hR4:R≤16777216:=by omega
  clear hRb hp4
  by_cases hlt:k<4
  ·have hks:k<s.size:=by omega
   have hgk:=get_eq s k hks
   have bk:s[k].toNat<256:=UInt8.toNat_lt _
   by_cases hc:128≤s[k].toNat∧s[k].toNat≤191
   ·have HC2:=aj (HC.out.succ (by rw [hgk];exact hc))
    have HR2:=aj (show acc s ((s.get! 0).toNat-240) (k+1)=R*64+s[k].toNat-128 by rw [vX _ _ hk1,HR.out,hgk])
    obtain ⟨hca,hcb⟩:=hc
    clear hgk
    go_wp2
    go_round
    case rel=>exact ⟨k+1,R*64+s[k].toNat-128,by omega,by omega,by go_num,kH (by omega),HR2,HC2⟩
    case measure=>simp [intOf];omega
   ·have Hr:=aj (akC C.out k hk1 hlt (by rw [hgk];exact hc))
    clear hgk
    by_cases hlo:s[k].toNat<128
    ·go_wp2
     go_ret2
     exact gJ Hr.out
    ·have hhi:191<s[k].toNat:=by omega
     go_wp2
     go_ret2
     exact gJ Hr.out
  ·obtain rfl:k=4:=by omega
   have hF:=akB C.out hf' HC.out R HR.out
   cases hfit:fits 65536 R
   ·rw [if_neg (by rw [hfit];decide)] at hF
    have Hr:=aj hF
    have hno:=ru hfit
    clear hF hfit
    rcases (show R<65536∨(65536≤R∧1114111<R)∨(65536≤R∧R≤1114111∧55296≤R∧R≤57343) by omega) with hx | ⟨hx,hy⟩ | ⟨hx,hy,hz,hz2⟩
    all_goals
     clear hno
     first
      | (exfalso;omega)
      | (go_wp2
         go_ret2
         exact gJ Hr.out)
   ·rw [if_pos hfit] at hF
    have Hr:=aj hF
    obtain ⟨hx,hy,hz⟩:=rz hfit
    clear hF hfit
    by_cases hq:55296≤R
    ·have hq2:57343<R:=by omega
     clear hz
     go_wp2
     go_ret2
     exact gJ Hr.out
    ·clear hz
     first
      | (exfalso;omega)
      | (go_wp2
         go_ret2
         exact gJ Hr.out)
set_option maxRecDepth 100000 in
theorem ajQ (s:ByteArray) (w:World) (hs:s.size≤9223372036854775807) :
  Calls Tryz.prog 175 #[.string s] w (oo w s):=by
 by_cases h0:s.size=0
 ·have Hr:=aj (show dR s=(0,0) by unfold dR iG;rw [if_pos h0])
  have e0:((s.size:Int)==0)=true:=by simp [h0]
  clear h0
  go_enter Tryz.func175,Tryz.ntmps175
  go_wp2
  go_ret2
  exact gJ Hr.out
 have hp:0<s.size:=by omega
 by_cases h1:s[0].toNat<128
 ·exact ajR s w hp hs h1
 by_cases h2:194≤s[0].toNat∧s[0].toNat≤244
 ·by_cases c2:s[0].toNat≤223
  ·exact ajN s w hp hs h2.1 c2
  by_cases c3:s[0].toNat≤239
  ·exact ajO s w hp hs (by omega) c3
  ·exact ajP s w hp hs (by omega) h2.2
 ·exact ajS s w hp hs (by omega) h2
end Go.Proofs.YtpcmlopbkehffaaGreat
namespace Go.Proofs.YtpcmlopbkehffaaGreat
open Go.RowKit Ru
def ny (rs:List Nat):List Value:=rs.map fun r => .int .i32 (r:Nat)
theorem agk:(Tryz.prog.info? 21).map (fun i=>(i.zero,i.size,i.bytes))=some (some (.int .i32 0),1,4):=by kernel_rfl
def vU (w:World) (s:ByteArray) (e:Ending) (w':World):Prop :=
 ∃ A n c,e = .returned (.tuple #[.slice A n c,.bool (gK s 0).isSome])∧Row w' A n c (ny ((gK s 0).getD []))∧Below w.heap.size w w'
theorem akS {w w':World} {s:ByteArray} (h:gK s 0=none) (hb:Below w.heap.size w w'):vU w s (.returned (.tuple #[.slice none 0 0,.bool false])) w' :=
 ⟨none,0,0,by rw [h];rfl,by rw [h];exact Row.none _,hb⟩
theorem akT {w w':World} {s:ByteArray} {rs:List Nat} {A:Option Addr} {n c:Nat} (h:gK s 0=some rs) (hr:Row w' A n c (ny rs)) (hb:Below w.heap.size w w') :
  vU w s (.returned (.tuple #[.slice A n c,.bool true])) w':=⟨A,n,c,by rw [h];rfl,by rw [h];exact hr,hb⟩
theorem afx (s:ByteArray) (i n:Nat):(s.extract i s.size).extract n (s.extract i s.size).size=s.extract (i+n) s.size:=by
 rw [nY,ByteArray.extract_extract]
 congr 1
 omega
set_option maxHeartbeats 1000000 in
theorem ajT (s:ByteArray) (w:World) (hs:s.size≤35184372088832) :
  Calls Tryz.prog 155 #[.string s] w (vU w s):=by
 go_enter Tryz.func155,Tryz.ntmps155
 go_wp2
 go_loopw [0,4,5,6] (fun v o _ _ wr=>∃ i rs A c,v = .string (s.extract i s.size)∧o = .slice A (rs:List Nat).length c∧eY 21 w.heap.size wr A rs.length c (ny rs)∧oq s rs i∧Below w.heap.size w wr)
  (fun v _ _ _ _=>match v with | .string t=>t.size | _=>0)
 case atStart=>exact ⟨0,[],none,0,by rw [show s.extract 0 s.size=s by simp],rfl,eY.none _ _ _,adC s,Below.refl _ _⟩
 case round =>
  obtain ⟨i,rs,A,c,rfl,rfl,ho,hat,hb⟩:=hrel
  have Ho:=aj ho
  have Hat:=aj hat
  have Hb:=aj hb
  have hi:=hat.1
  have hrl:=hat.2.1
  clear ho hat hb
  have hz:=nY s i
  have Hz:=aj hz
  generalize ht:s.extract i s.size=t at *
  have Ht:=aj ht
  clear ht
  by_cases hlt:i<s.size
  ·have hts:0<t.size:=by omega
   have Hc:=aj (ajQ t wr (by omega))
   have Hra:=aj (show fO s i=dR t by unfold fO;rw [Ht.out])
   have hw:=adz s i
   rw [Hra.out] at hw
   by_cases hk:(dR t).2=0
   ·have Hend:=aj (adA Hat.out hlt (by rw [Hra.out];exact hk))
    have hkb:(((dR t).2:Int)==0)=true:=by rw [hk];rfl
    have Hk:=aj hk
    clear hk hz hw
    go_wp2_with fail
    refine Hc.out.mono ?_
    rintro e w' ⟨rfl,rfl⟩
    go_wp2_with fail
    go_ret2
    exact akS Hend.out Hb.out
   ·have Hst:=aj (zC Hat.out hlt (by rw [Hra.out];exact hk))
    have hkb:(((dR t).2:Int)==0)=false:=by rw [beq_eq_false_iff_ne];omega
    have hle:(dR t).2≤t.size:=by omega
    have hpos:0<(dR t).2:=by omega
    have Hcut:=aj (afx s i (dR t).2)
    clear hk hz hw
    generalize hr:(dR t).1=r
    generalize hm:(dR t).2=m at hkb hle hpos
    have Hr:=aj hr
    have Hm:=aj hm
    clear hr hm
    go_wp2_with fail
    refine Hc.out.mono ?_
    rintro e w' ⟨rfl,rfl⟩
    rw [Hr.out,Hm.out]
    go_wp2_with (at_builtin;refine amd rfl (.tmp 17) (.tmp 19) 235 21 rfl (.int .i32 0) 4 Tryz.underlying235 agk rfl w.heap.size A rs.length c _ rfl (Ho.out.later ((Below.refl _ _).alloc (Nat.le_refl _) _)) wr.heap.size _ rfl (at_new _ _ _) rfl (rs.length+1) (ny (rs++[r])) rfl (by simp [ny]) (by omega) (by omega) (by have:=Hb.out.size;simp;omega) ?_;intro A4 c4 w4 ho' hb' hg' hat';have Ho4:=aj ho';have Hb4:=aj ((Hb.out.alloc Hb.out.size _).trans hb');clear ho' hb' hg' hat')
    go_roundw
    case rel =>
     refine ⟨i+m,rs++[r],A4,c4,?_,?_,?_,?_,Hb4.out⟩
     ·have h:=Hcut.out
      rw [Ht.out,Hm.out] at h
      rw [h]
     ·rw [List.length_append];rfl
     ·rw [List.length_append];exact Ho4.out
     ·have h:=Hst.out
      rw [Hra.out,Hr.out,Hm.out] at h
      exact h
    case measure =>
     show (t.extract m t.size).size<t.size
     rw [nY]
     omega
  ·have Hend:=aj (adB Hat.out (by omega))
   have htz:t.size=0:=by omega
   have hgt:decide ((0:Int)<(t.size:Int))=false:=decide_eq_false (by omega)
   clear hz
   go_wp2
   go_ret2
   exact akT Hend.out Ho.out.row Hb.out
def gQ (w:World) (k:Int) (e:Ending) (w':World):Prop:=e = .returned (.int .i64 k)∧Below w.heap.size w w'
theorem bG {w w':World} {k k':Int} (h:k=k') (hb:Below w.heap.size w w'):gQ w k (.returned (.int .i64 k')) w':=⟨by rw [h],hb⟩
set_option maxHeartbeats 1000000 in
theorem adi (s:ByteArray) (w:World) (hs:s.size≤9223372036854775807) :
  Calls Tryz.prog 132 #[.string s] w (gQ w (mU s)):=by
 by_cases h1:s.size<1
 ·have Hk:=aj (jJ (uK (.inl h1)))
  have e1:decide ((s.size:Int)<1)=true:=decide_eq_true (by omega)
  clear h1
  go_enter Tryz.func132,Tryz.ntmps132
  go_wp2
  go_ret
  exact bG Hk.out (Below.refl _ _)
 have e1:decide ((s.size:Int)<1)=false:=decide_eq_false (by omega)
 by_cases h2:32<s.size
 ·have Hk:=aj (jJ (uK (.inr h2)))
  have e2:decide ((32:Int)<(s.size:Int))=true:=decide_eq_true (by omega)
  go_enter Tryz.func132,Tryz.ntmps132
  go_wp2
  go_ret
  exact bG Hk.out (Below.refl _ _)
 have e2:decide ((32:Int)<(s.size:Int))=false:=decide_eq_false (by omega)
 have Hc:=aj (ajT s w (by omega))
 cases hr:gK s 0 with
 | none =>
   have Hk:=aj (jJ (yh hr))
   have Hr:=aj hr
   clear hr
   go_enter Tryz.func132,Tryz.ntmps132
   go_wp2_with fail
   refine Hc.out.mono ?_
   rintro e w1 ⟨A,n,c,rfl,hrow,hb⟩
   rw [Hr.out] at hrow ⊢
   obtain rfl:n=0:=by rw [← hrow.len];rfl
   have Hb:=aj hb
   clear hrow hb
   go_wp2_with fail
   go_loop [5] (fun vi=>vi = .int .i64 0) (fun _=>0)
   case atStart=>rfl
   case round =>
    subst hrel
    go_wp2_with fail
    go_ret
    exact bG Hk.out Hb.out
 | some rs =>
   have Hr:=aj hr
   clear hr
   go_enter Tryz.func132,Tryz.ntmps132
   go_wp2_with fail
   refine Hc.out.mono ?_
   rintro e w1 ⟨A,n,c,rfl,hrow,hb⟩
   rw [Hr.out] at hrow ⊢
   have hrow':Row w1 A n c (ny rs):=hrow
   obtain rfl:n=rs.length:=by rw [← hrow'.len];simp [ny]
   have hle:=hrow'.le
   have Hb:=aj hb
   have Hrow:=aj hrow'
   clear hrow hrow' hb
   go_wp2_with fail
   go_loop [5] (fun vi=>∃ k:Nat,k≤rs.length∧vi = .int .i64 k∧Hid (∀ j (hj:j<rs.length),j<k→iX rs[j]=false)) (fun vi=>rs.length-(intOf vi).toNat)
   case atStart=>exact ⟨0,by omega,rfl,aj (by intro j _ h;omega)⟩
   case round =>
    obtain ⟨k,hk,rfl,Hg⟩:=hrel
    by_cases hlt:k<rs.length
    ·obtain ⟨b,off,rfl,hc⟩:=Hrow.out.at_ (k:=k) (by simpa [ny] using hlt)
     have hcell:w1.cell? ⟨b,off+k,.none⟩=some (.int .i32 (rs[k]:Nat)):=by rw [hc];simp [ny]
     clear hc
     cases hbr:iX rs[k]
     ·have Hg2:=aj (show ∀ j (hj:j<rs.length),j<k+1→iX rs[j]=false by
       intro j hj h
       by_cases e:j=k
       ·subst e;exact hbr
       ·exact Hg.out j hj (by omega))
      have hb2:32≤rs[k]∧(rs[k]<127∨159<rs[k]):=by
       unfold iX at hbr
       simp at hbr
       omega
      obtain ⟨g1,g2⟩:=hb2
      clear hbr
      generalize rs[k]=r at *
      rcases g2 with g2 | g2
      ·go_wp2_with fail
       go_round
       case rel=>exact ⟨k+1,by omega,by go_num,Hg2⟩
       case measure=>simp [intOf];omega
      ·have g3:127≤r:=by omega
       go_wp2_with fail
       go_round
       case rel=>exact ⟨k+1,by omega,by go_num,Hg2⟩
       case measure=>simp [intOf];omega
     ·have Hk:=aj (jJ (acC Hr.out hlt hbr))
      have hb2:rs[k]<32∨(32≤rs[k]∧127≤rs[k]∧rs[k]≤159):=by
       unfold iX at hbr
       simp at hbr
       omega
      clear hbr
      generalize rs[k]=r at *
      rcases hb2 with g1 | ⟨g0,g1,g2⟩
      all_goals
       go_wp2_with fail
       go_ret
       exact bG Hk.out Hb.out
    ·have Hk:=aj (pQ (acD Hr.out (by omega) (by omega) (fun j hj=>Hg.out j hj (by omega))))
     obtain rfl:k=rs.length:=by omega
     go_wp2_with fail
     go_ret
     exact bG Hk.out Hb.out
end Go.Proofs.YtpcmlopbkehffaaGreat
namespace Go.Proofs.YtpcmlopbkehffaaGreat
open Go.RowKit Ru
end Go.Proofs.YtpcmlopbkehffaaGreat
namespace Go.Proofs.YtpcmlopbkehffaaGreat
open Go.RowKit Ru
theorem aeR {W w1:World} (hb:Below W.heap.size W w1):(∀ b o,b<W.heap.size→w1.cell? ⟨b,o,none⟩=W.cell? ⟨b,o,none⟩)∧(∀ b o,b<W.heap.size→w1.frozen? ⟨b,o,none⟩=W.frozen? ⟨b,o,none⟩) :=
 ⟨fun b o h=>hb.cell (p:=⟨b,o,none⟩) h,fun b o h=>hb.frozen (p:=⟨b,o,none⟩) h⟩
def spanCells (s:ay):Array Value:=#[.int .u64 (s.trace:Nat),.int .u64 (s.id:Nat),.int .u64 (s.parent:Nat),.int .u64 (s.start:Nat),.int .u64 (s.len:Nat),.string s.service,.string s.name,.bool s.fail]
abbrev jv (s:ay):Value := .agg #[.int .u64 (s.trace:Nat),.int .u64 (s.id:Nat),.int .u64 (s.parent:Nat),.int .u64 (s.start:Nat),.int .u64 (s.len:Nat),.string s.service,.string s.name,.bool s.fail]
set_option maxHeartbeats 1000000 in
theorem ajM (s:ay) (w:World) (hs:s.Wf) (ha:jw s=true) :
  Calls Tryz.prog 101 #[jv s] w (gQ w (fq s)):=by
 obtain ⟨t,i,p,st,ln,sv,nm,f⟩:=s
 have Hk:=aj (zx ha)
 have h1:=aaU ha
 simp only at h1
 clear ha hs
 rcases h1 with h1 | ⟨h0,h1⟩ | ⟨h0,h0',h1⟩ | ⟨h0,h0',h0'',h1⟩
 ·have e1:((t:Int)==0)=true:=by rw [beq_iff_eq];omega
  have H:=aj h1
  clear h1
  go_enter Tryz.func101,Tryz.ntmps101
  go_wp2_with fail
  go_ret
  exact bG Hk.out ((Below.refl _ _).alloc (Nat.le_refl _) _)
 ·have e1:((t:Int)==0)=false:=by rw [beq_eq_false_iff_ne];omega
  have e2:((i:Int)==0)=true:=by rw [beq_iff_eq];omega
  have H:=aj h1
  clear h1 h0
  go_enter Tryz.func101,Tryz.ntmps101
  go_wp2_with fail
  go_ret
  exact bG Hk.out ((Below.refl _ _).alloc (Nat.le_refl _) _)
 ·have e1:((t:Int)==0)=false:=by rw [beq_eq_false_iff_ne];omega
  have e2:((i:Int)==0)=false:=by rw [beq_eq_false_iff_ne];omega
  clear h0 h0'
  go_enter Tryz.func101,Tryz.ntmps101
  go_wp2_with fail
  go_ret
  exact bG Hk.out ((Below.refl _ _).alloc (Nat.le_refl _) _)
 ·have e1:((t:Int)==0)=false:=by rw [beq_eq_false_iff_ne];omega
  have e2:((i:Int)==0)=false:=by rw [beq_eq_false_iff_ne];omega
  clear h0 h0'
  go_enter Tryz.func101,Tryz.ntmps101
  go_wp2_with fail
  go_ret
  exact bG Hk.out ((Below.refl _ _).alloc (Nat.le_refl _) _)
set_option maxHeartbeats 1000000 in
theorem ajL (s:ay) (w:World) (hs:s.Wf) :
  Calls Tryz.prog 101 #[jv s] w (gQ w (fq s)):=by
 cases ha:jw s
 rotate_left
 ·exact ajM s w hs ha
 have Ha:=aj ha
 obtain ⟨h0,h0',h1,h2⟩:=wG ha
 have Hsv:=aj (fun W=>adi s.service W hs.service)
 have Hnm:=aj (fun W=>adi s.name W hs.name)
 clear ha hs
 have Hr1:=aj (fun h=>uW Ha.out (.inl h))
 have Hr2:=aj (fun h=>uW Ha.out (.inr h))
 have Hr3:=aj (ads Ha.out)
 obtain ⟨t,i,p,st,ln,sv,nm,f⟩:=s
 simp only at h0 h0' h1 h2
 have e1:((t:Int)==0)=false:=by rw [beq_eq_false_iff_ne];omega
 have e2:((i:Int)==0)=false:=by rw [beq_eq_false_iff_ne];omega
 clear h0 h0'
 cases hsv:fC sv
 ·have Hk:=aj (Hr1.out hsv)
  have Hn:=aj (jJ hsv)
  clear hsv
  go_enter Tryz.func101,Tryz.ntmps101
  go_wp2_with fail
  refine (Hsv.out _).mono ?_
  rintro e w1 ⟨rfl,hb⟩
  rw [Hn.out]
  have Hb:=aj hb
  clear hb
  go_wp2_with fail
  go_ret
  exact bG Hk.out (((Below.refl _ _).alloc (Nat.le_refl _) _).trans (Hb.out.mono (by simp)))
 have Hn:=aj (pQ hsv)
 have Hsvo:=aj hsv
 clear hsv
 go_enter Tryz.func101,Tryz.ntmps101
 go_wp2_with fail
 refine (Hsv.out _).mono ?_
 rintro e w1 ⟨rfl,hb⟩
 rw [Hn.out]
 have Hb:=aj hb
 obtain ⟨hc,hf⟩:=aeR hb
 have hz:w.heap.size<w1.heap.size:=by have:=hb.size;simp at this;omega
 clear hb hf
 go_wp2_with fail
 refine (Hnm.out _).mono ?_
 rintro e w2 ⟨rfl,hb2⟩
 have Hb2:=aj (Below.trans (((Below.refl w.heap.size w).alloc (Nat.le_refl _) _).trans (Hb.out.mono (by simp))) (hb2.mono (by omega)))
 clear hb2 hc
 cases hnm:fC nm
 ·rw [jJ hnm]
  have Hk:=aj (Hr2.out hnm)
  clear hnm
  go_wp2_with fail
  go_ret
  exact bG Hk.out Hb2.out
 ·rw [pQ hnm]
  have Hk:=aj (Hr3.out Hsvo.out hnm)
  clear hnm
  go_wp2_with fail
  go_ret
  exact bG Hk.out Hb2.out
def lessF (a b:ay):Bool:=decide (a.start<b.start)||(decide (a.start=b.start)&&decide (a.id<b.id))
def iw (w:World) (k:Bool) (e:Ending) (w':World):Prop:=e = .returned (.bool k)∧Below w.heap.size w w'
theorem aD {w w':World} {k k':Bool} (h:k=k') (hb:Below w.heap.size w w'):iw w k (.returned (.bool k')) w':=⟨by rw [h],hb⟩
end Go.Proofs.YtpcmlopbkehffaaGreat
namespace Go.Proofs.YtpcmlopbkehffaaGreat
open Go.RowKit Ru
def iJ (a b:ay):Bool:=decide (a.trace=b.trace)&&(decide (a.id=b.id)&&(decide (a.parent=b.parent)&&(decide (a.start=b.start)&&(decide (a.len=b.len)&&(decide (a.service.toList=b.service.toList)&&(decide (a.name.toList=b.name.toList)&&decide (a.fail=b.fail)))))))
theorem qj (a:ay):iJ a a=true:=by simp [iJ]
set_option maxRecDepth 100000 in
set_option maxHeartbeats 1000000 in
theorem alb (a b:ay) (w:World):(Op.equalIn 10000 122 (jv a) (jv b)).run Tryz.prog w = .ok (iJ a b) w:=by
 rw [run_equalIn_agg w 9999 122 _ _ (by kernel_rfl) (by kernel_rfl)]
 simp [Program.fieldsOf,Tryz.underlying122,Op.eqFields,part,go_sem]
 simp only [Int.ofNat_inj]
 unfold iJ
 repeat' split
 all_goals simp_all
theorem alc (a b:ay) (w:World):(binOp .neq 122 (jv a) (jv b)).run Tryz.prog w = .ok (.bool (!iJ a b)) w:=by
 rw [run_neq_struct,alb]
 rfl
end Go.Proofs.YtpcmlopbkehffaaGreat
namespace Go.Proofs.YtpcmlopbkehffaaGreat
open Go.RowKit Ru
structure lM (w:World) (b o:Nat) (s:ay):Prop where
 c0:w.cell? ⟨b,o,none⟩=some (.int .u64 (s.trace:Nat))
 c1:w.cell? ⟨b,o+1,none⟩=some (.int .u64 (s.id:Nat))
 c2:w.cell? ⟨b,o+2,none⟩=some (.int .u64 (s.parent:Nat))
 c3:w.cell? ⟨b,o+3,none⟩=some (.int .u64 (s.start:Nat))
 c4:w.cell? ⟨b,o+4,none⟩=some (.int .u64 (s.len:Nat))
 c5:w.cell? ⟨b,o+5,none⟩=some (.string s.service)
 c6:w.cell? ⟨b,o+6,none⟩=some (.string s.name)
 c7:w.cell? ⟨b,o+7,none⟩=some (.bool s.fail)
theorem lM.lt {w:World} {b o:Nat} {s:ay} (h:lM w b o s):b<w.heap.size:=lt_of_cell h.c0
theorem lM.keep {w w':World} {b o:Nat} {s:ay} (h:lM w b o s) (hk:∀ p:Addr,p.block<w.heap.size→w'.cell? p=w.cell? p):lM w' b o s:=by
 have hl:=h.lt
 refine ⟨?_,?_,?_,?_,?_,?_,?_,?_⟩
 all_goals rw [hk _ hl]
 ·exact h.c0
 ·exact h.c1
 ·exact h.c2
 ·exact h.c3
 ·exact h.c4
 ·exact h.c5
 ·exact h.c6
 ·exact h.c7
structure bW (w:World) (A:Option Addr) (n c:Nat) (ss:List ay):Prop where
 holds:ss≠[]→∃ b off,A=some ⟨b,off,none⟩∧∀ k (h:k<ss.length),lM w b (off+k*8) ss[k]
 len:ss.length=n
 cap:n≤c
 max:c≤9223372036854775807
 nil:A=none→c=0
theorem bW.keep {w w':World} {A:Option Addr} {n c:Nat} {ss:List ay} (h:bW w A n c ss) (hk:∀ p:Addr,p.block<w.heap.size→w'.cell? p=w.cell? p):bW w' A n c ss :=
 ⟨fun hne=>let ⟨b,off,e,hc⟩:=h.holds hne; ⟨b,off,e,fun k hkl=>(hc k hkl).keep hk⟩,h.len,h.cap,h.max,h.nil⟩
theorem bW.below {w w':World} {A:Option Addr} {n c:Nat} {ss:List ay} (h:bW w A n c ss) (hb:Below w.heap.size w w'):bW w' A n c ss:=h.keep fun _ hp=>hb.cell hp
theorem bW.at_ {w:World} {A:Option Addr} {n c:Nat} {ss:List ay} (h:bW w A n c ss) {k:Nat} (hk:k<ss.length):∃ b off,A=some ⟨b,off,none⟩∧lM w b (off+k*8) ss[k]:=by
 obtain ⟨b,off,e,hc⟩:=h.holds (by rintro rfl;simp at hk)
 exact ⟨b,off,e,hc k hk⟩
def cellsOf (s:ay):List Value:=[.int .u64 (s.trace:Nat),.int .u64 (s.id:Nat),.int .u64 (s.parent:Nat),.int .u64 (s.start:Nat),.int .u64 (s.len:Nat),.string s.service,.string s.name,.bool s.fail]
def iH (ss:List ay):List Value:=ss.flatMap cellsOf
theorem qP (s:ay):(cellsOf s).length=8:=rfl
theorem tX (ss:List ay):(iH ss).length=ss.length*8:=by
 induction ss with
 | nil=>rfl
 | cons s ss ih=>rw [iH,List.flatMap_cons,List.length_append,qP,show (ss.flatMap cellsOf).length=ss.length*8 from ih,List.length_cons];omega
theorem ae4 (a b:List ay):iH (a++b)=iH a++iH b:=by simp [iH]
theorem wN:∀ (ss:List ay) {k:Nat} (h:k<ss.length) (j:Nat),j<8→(iH ss)[k*8+j]? = (cellsOf ss[k])[j]?
 | s :: ss,0,_,j,hj=>by
   rw [iH,List.flatMap_cons,Nat.zero_mul,Nat.zero_add,List.getElem?_append_left (by rw [qP];exact hj)]
   rfl
 | s :: ss,k+1,h,j,hj=>by
   rw [iH,List.flatMap_cons,List.getElem?_append_right (by rw [qP];omega),qP,show (k+1)*8+j-8=k*8+j by omega]
   exact wN ss (by simpa using h) j hj
theorem zI {w:World} {b o:Nat} {s:ay} (h:∀ j u,(cellsOf s)[j]? = some u→w.cell? ⟨b,o+j,none⟩=some u):lM w b o s :=
 ⟨h 0 _ rfl,h 1 _ rfl,h 2 _ rfl,h 3 _ rfl,h 4 _ rfl,h 5 _ rfl,h 6 _ rfl,h 7 _ rfl⟩
theorem lM.cell {w:World} {b o:Nat} {s:ay} (h:lM w b o s) (j:Nat) (u:Value) (hu:(cellsOf s)[j]? = some u):w.cell? ⟨b,o+j,none⟩=some u:=by
 match j,hu with
 | 0,hu=>cases hu;exact h.c0
 | 1,hu=>cases hu;exact h.c1
 | 2,hu=>cases hu;exact h.c2
 | 3,hu=>cases hu;exact h.c3
 | 4,hu=>cases hu;exact h.c4
 | 5,hu=>cases hu;exact h.c5
 | 6,hu=>cases hu;exact h.c6
 | 7,hu=>cases hu;exact h.c7
theorem bW.cells {w:World} {A:Option Addr} {n c:Nat} {ss:List ay} (h:bW w A n c ss):Holds w A (iH ss):=by
 intro hne
 obtain ⟨b,off,e,hc⟩:=h.holds (by rintro rfl;exact hne rfl)
 refine ⟨b,off,e,fun k u hu=>?_⟩
 have hk:k<ss.length*8:=by
  have:=(List.getElem?_eq_some_iff.1 hu).1
  rwa [tX] at this
 have h1:k / 8<ss.length:=by omega
 have h2:=wN ss h1 (k % 8) (by omega)
 rw [show k / 8*8+k % 8=k by omega] at h2
 rw [h2] at hu
 have h3:=(hc _ h1).cell (k % 8) u hu
 rwa [show off+k / 8*8+k % 8=off+k by omega] at h3
theorem adP {w:World} {A:Option Addr} {n c:Nat} {ss:List ay} (h:Holds w A (iH ss)) (h1:ss.length=n) (h2:n≤c) (h3:c≤9223372036854775807) (h4:A=none→c=0):bW w A n c ss:=by
 refine ⟨fun hne=>?_,h1,h2,h3,h4⟩
 have hne':iH ss≠[]:=by
  intro e
  have:=congrArg List.length e
  rw [tX] at this
  have:=List.length_pos_iff.2 hne
  simp at *
  omega
 obtain ⟨b,off,e,hc⟩:=h hne'
 refine ⟨b,off,e,fun k hk=>zI fun j u hu=>?_⟩
 have hj:j<8:=(List.getElem?_eq_some_iff.1 hu).1
 have:=hc (k*8+j) u (by rw [wN ss hk j hj];exact hu)
 rwa [← Nat.add_assoc] at this
def eP (B:Nat) (w:World) (A:Option Addr) (n c:Nat) (ss:List ay):Prop:=w.ownsRow B 122 8 (.slice A n c) n (iH ss)
theorem eP.len {B:Nat} {w:World} {A:Option Addr} {n c:Nat} {ss:List ay} (h:eP B w A n c ss):ss.length=n:=by
 have:=h.1
 rw [tX] at this
 omega
theorem eP.row {B:Nat} {w:World} {A:Option Addr} {n c:Nat} {ss:List ay} (h:eP B w A n c ss):bW w A n c ss:=by
 have hh:=oM h
 have hl:=h.len
 obtain ⟨hx,⟨e',_⟩ | ⟨g,cap,cur,e',hg,_,hnc,hcm,hs,hc⟩⟩:=h
 ·injection e' with a b c
  subst a
  subst c
  exact adP hh hl (by omega) (by omega) (fun _=>rfl)
 ·injection e' with a b c
  subst a c
  unfold maxLen at hcm
  exact adP hh hl hnc (by omega) (fun e=>by cases e)
end Go.Proofs.YtpcmlopbkehffaaGreat
namespace Go.Proofs.YtpcmlopbkehffaaGreat
open Go.RowKit Ru
def zQ (s:ByteArray):List UInt8:=UInt8.ofNat s.size::strB s
def acS (s:ay):List Nat:=[s.trace,s.id,s.parent,s.start,s.len]
def jW (s:ay):List Value:=(acS s).map fun n => .int .u64 (n:Nat)
def agb (s:ay) (k:Nat):List UInt8:=((acS s).take k).flatMap eight
def flag (b:Bool):UInt8:=if b then 1 else 0
def yT (s:ay):List UInt8:=agb s 5++[flag s.fail]++zQ s.service++zQ s.name
def ams (w:World) (l0:List UInt8) (s:ay) (e:Ending) (w':World):Prop :=
 (fq s≠0∧e = .returned (.tuple #[.slice none 0 0,.int .i64 (fq s)])∧Below w.heap.size w w') ∨
 (fq s=0∧∃ A n c,e = .returned (.tuple #[.slice A n c,.int .i64 0])∧Own w.heap.size w' A n c (l0++yT s)∧Below w.heap.size w w')
end Go.Proofs.YtpcmlopbkehffaaGreat
namespace Go.Proofs.YtpcmlopbkehffaaGreat
open Go.RowKit Ru
end Go.Proofs.YtpcmlopbkehffaaGreat
namespace Go.Proofs.YtpcmlopbkehffaaGreat
open Go.RowKit Ru
theorem ab2:(Tryz.prog.info? 122).map (fun i=>(i.zero,i.size,i.bytes)) =
  some (some (.agg #[.int .u64 0,.int .u64 0,.int .u64 0,.int .u64 0,.int .u64 0,.string ⟨#[]⟩,.string ⟨#[]⟩,.bool false]),8,80):=by kernel_rfl
theorem ae5 (ss:List ay):∀ u∈iH ss,u.oneCell'=true:=by
 intro u hu
 obtain ⟨s,_,h⟩:=List.mem_flatMap.1 hu
 simp [cellsOf] at h
 rcases h with rfl | rfl | rfl | rfl | rfl | rfl | rfl | rfl
 all_goals rfl
theorem eP.none (B:Nat) (w:World):eP B w .none 0 0 []:=World.ownsRow_nil w B _ _
theorem eP.from_ {B:Nat} {w:World} {A:Option Addr} {n c:Nat} {ss:List ay} (h:eP B w A n c ss):∀ k,(Value.slice A n c).ownBlock=some k→B≤k∧k<w.heap.size:=World.ownsRow.lt h
theorem eP.later {B:Nat} {w w':World} {A:Option Addr} {n c:Nat} {ss:List ay} (h:eP B w A n c ss) (hb:Below w.heap.size w w'):eP B w' A n c ss:=by
 obtain ⟨hx,h | ⟨g,cap,cur,e',hg,hh,r⟩⟩:=h
 ·exact ⟨hx,.inl h⟩
 ·refine ⟨hx,.inr ⟨g,cap,cur,e',hg,?_,r⟩⟩
  have hlt:g<w.heap.size:=(Array.getElem?_eq_some_iff.1 hh).1
  rw [← hh]
  exact hb.block g hlt
theorem eP.at_ {B:Nat} {w:World} {A:Option Addr} {n n' c:Nat} {l l':List ay} (h:eP B w A n c l) (e1:n=n') (e2:l=l'):eP B w A n' c l':=by subst e1 e2;exact h
theorem Own.apart {B:Nat} {w w':World} {A:Option Addr} {n c:Nat} {l:List UInt8} {row:Option Nat} (h:Own B w A n c l) (hg:w.grownBy w' row) (hr:∀ k,row=some k→k<B):Own B w' A n c l:=by
 refine World.ownsRow.kept h hg ?_
 rcases hA:(Value.slice A n c).ownBlock with _ | k
 ·exact .inl rfl
 ·refine .inr fun e=>?_
  have h1:=(World.ownsRow.lt h k hA).1
  have h2:=hr k e.symm
  omega
def putAll (ss:List ay):List UInt8:=ss.flatMap yT
def vH (ss:List ay):Prop:=∀ s∈ss,s.Wf∧fq s=0
theorem vH.drop {ss:List ay} (h:vH ss) (k:Nat):vH (ss.drop k):=fun s hs=>h s (List.mem_of_mem_drop hs)
end Go.Proofs.YtpcmlopbkehffaaGreat
namespace Go.Proofs.YtpcmlopbkehffaaGreat
open Go.RowKit Ru
def ig:Nat→List Nat→Bool
 | _,[]=>true
 | a,x::r=>decide (a<x)&&ig x r
def eB (l:List Nat):Bool:=ig 0 l
theorem sH {a x:Nat} {r:List Nat} (h:x≤a):ig a (x::r)=false:=by
 rw [ig,decide_eq_false (by omega)]
 rfl
theorem sI {a x:Nat} {r:List Nat} (h:a<x):ig a (x::r)=ig x r:=by
 rw [ig,decide_eq_true h]
 rfl
structure aJ where
 id:Nat
 inc:Nat
 state:Int
structure aJ.Wf (m:aJ):Prop where
 id:m.id<18446744073709551616
 inc:m.inc<18446744073709551616
 lo : -9223372036854775808≤m.state
 hi:m.state≤9223372036854775807
abbrev rR (m:aJ):Value := .agg #[.int .u64 (m.id:Nat),.int .u64 (m.inc:Nat),.int .i64 m.state]
def amv (m:aJ):Array Value:=#[.int .u64 (m.id:Nat),.int .u64 (m.inc:Nat),.int .i64 m.state]
def l8 (m:aJ):List Value:=[.int .u64 (m.id:Nat),.int .u64 (m.inc:Nat),.int .i64 m.state]
def kL (ms:List aJ):List Value:=ms.flatMap l8
structure lJ (w:World) (b o:Nat) (m:aJ):Prop where
 c0:w.cell? ⟨b,o,none⟩=some (.int .u64 (m.id:Nat))
 c1:w.cell? ⟨b,o+1,none⟩=some (.int .u64 (m.inc:Nat))
 c2:w.cell? ⟨b,o+2,none⟩=some (.int .i64 m.state)
theorem lJ.lt {w:World} {b o:Nat} {m:aJ} (h:lJ w b o m):b<w.heap.size:=lt_of_cell h.c0
theorem lJ.agv {w w':World} {b o:Nat} {m:aJ} (h:lJ w b o m) (hk:∀ p:Addr,p.block<w.heap.size→w'.cell? p=w.cell? p):lJ w' b o m:=by
 have hl:=h.lt
 refine ⟨?_,?_,?_⟩
 all_goals rw [hk _ hl]
 ·exact h.c0
 ·exact h.c1
 ·exact h.c2
theorem acr {w:World} {b o:Nat} {m:aJ} (h:∀ j u,(l8 m)[j]? = some u→w.cell? ⟨b,o+j,none⟩=some u):lJ w b o m :=
 ⟨h 0 _ rfl,h 1 _ rfl,h 2 _ rfl⟩
theorem lJ.cell {w:World} {b o:Nat} {m:aJ} (h:lJ w b o m) (j:Nat) (u:Value) (hu:(l8 m)[j]? = some u):w.cell? ⟨b,o+j,none⟩=some u:=by
 match j,hu with
 | 0,hu=>cases hu;exact h.c0
 | 1,hu=>cases hu;exact h.c1
 | 2,hu=>cases hu;exact h.c2
structure eO (w:World) (A:Option Addr) (n c:Nat) (ms:List aJ):Prop where
 holds:ms≠[]→∃ b off,A=some ⟨b,off,none⟩∧∀ k (h:k<ms.length),lJ w b (off+k*3) ms[k]
 len:ms.length=n
 cap:n≤c
 max:c≤9223372036854775807
 nil:A=none→c=0
theorem eO.none (w:World):eO w Option.none 0 0 []:=⟨fun h=>absurd rfl h,rfl,Nat.le_refl _,by omega,fun _=>rfl⟩
theorem eO.keep {w w':World} {A:Option Addr} {n c:Nat} {ms:List aJ} (h:eO w A n c ms) (hk:∀ p:Addr,p.block<w.heap.size→w'.cell? p=w.cell? p):eO w' A n c ms :=
 ⟨fun hne=>let ⟨b,off,e,hc⟩:=h.holds hne; ⟨b,off,e,fun k hkl=>(hc k hkl).agv hk⟩,h.len,h.cap,h.max,h.nil⟩
theorem eO.below {w w':World} {A:Option Addr} {n c:Nat} {ms:List aJ} (h:eO w A n c ms) (hb:Below w.heap.size w w'):eO w' A n c ms:=h.keep fun _ hp=>hb.cell hp
theorem eO.at_ {w:World} {A:Option Addr} {n c:Nat} {ms:List aJ} (h:eO w A n c ms) {k:Nat} (hk:k<ms.length):∃ b off,A=some ⟨b,off,Option.none⟩∧lJ w b (off+k*3) ms[k]:=by
 obtain ⟨b,off,e,hc⟩:=h.holds (by rintro rfl;simp at hk)
 exact ⟨b,off,e,hc k hk⟩
theorem uJ (ms:List aJ):(kL ms).length=ms.length*3:=by
 induction ms with
 | nil=>rfl
 | cons r rs ih=>rw [kL,List.flatMap_cons,List.length_append,show (l8 r).length=3 from rfl,show (rs.flatMap l8).length=rs.length*3 from ih,List.length_cons];omega
theorem yg:∀ (rs:List aJ) {k:Nat} (h:k<rs.length) (j:Nat),j<3→(kL rs)[k*3+j]? = (l8 rs[k])[j]?
 | r :: rs,0,_,j,hj=>by
   rw [kL,List.flatMap_cons,Nat.zero_mul,Nat.zero_add,List.getElem?_append_left (by exact hj)]
   rfl
 | r :: rs,k+1,h,j,hj=>by
   rw [kL,List.flatMap_cons,List.getElem?_append_right (by show 3≤_;omega),show (l8 r).length=3 from rfl,show (k+1)*3+j-3=k*3+j by omega]
   exact yg rs (by simpa using h) j hj
theorem ahh (rs:List aJ):∀ u∈kL rs,u.oneCell'=true:=by
 intro u hu
 obtain ⟨r,_,h⟩:=List.mem_flatMap.1 hu
 simp [l8] at h
 rcases h with rfl | rfl | rfl
 all_goals rfl
theorem eO.cells {w:World} {A:Option Addr} {n c:Nat} {rs:List aJ} (h:eO w A n c rs):Holds w A (kL rs):=by
 intro hne
 obtain ⟨b,off,e,hc⟩:=h.holds (by rintro rfl;exact hne rfl)
 refine ⟨b,off,e,fun k u hu=>?_⟩
 have hk:k<rs.length*3:=by
  have:=(List.getElem?_eq_some_iff.1 hu).1
  rwa [uJ] at this
 have h1:k / 3<rs.length:=by omega
 have h2:=yg rs h1 (k % 3) (by omega)
 rw [show k / 3*3+k % 3=k by omega] at h2
 rw [h2] at hu
 have h3:=(hc _ h1).cell (k % 3) u hu
 rwa [show off+k / 3*3+k % 3=off+k by omega] at h3
theorem acs {w:World} {A:Option Addr} {n c:Nat} {rs:List aJ} (h:Holds w A (kL rs)) (h1:rs.length=n) (h2:n≤c) (h3:c≤9223372036854775807) (h4:A=none→c=0):eO w A n c rs:=by
 refine ⟨fun hne=>?_,h1,h2,h3,h4⟩
 have hne':kL rs≠[]:=by
  intro e
  have:=congrArg List.length e
  rw [uJ] at this
  have:=List.length_pos_iff.2 hne
  simp at *
  omega
 obtain ⟨b,off,e,hc⟩:=h hne'
 refine ⟨b,off,e,fun k hk=>acr fun j u hu=>?_⟩
 have hj:j<3:=(List.getElem?_eq_some_iff.1 hu).1
 have:=hc (k*3+j) u (by rw [yg rs hk j hj];exact hu)
 rwa [← Nat.add_assoc] at this
def eG (l:List Nat):List Value:=l.map fun n => .int .u64 (n:Nat)
end Go.Proofs.YtpcmlopbkehffaaGreat
