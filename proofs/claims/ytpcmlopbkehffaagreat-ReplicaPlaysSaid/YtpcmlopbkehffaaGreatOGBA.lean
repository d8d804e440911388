/-
  Texts: their bytes, and appending them to a row of bytes of the call's own.
-/
import Derived.Test.YtpcmlopbkehffaaGreatOGAA
import Derived.Lib.AppendStr
import Derived.Lib.SlBytesRow
import Derived.Laws.BytesArg
import Derived.WalkKit
import Derived.Lib.DecodeN
import Derived.Lib.RuneCountTail
import Derived.Lib.Strings
set_option linter.unusedSimpArgs false
set_option linter.unusedVariables false
namespace Go.Proofs.YtpcmlopbkehffaaGreat
open Go.RowKit
def strB (s:ByteArray):List UInt8:=s.data.toList
def strOf (l:List UInt8):ByteArray:=⟨l.toArray⟩
theorem alo (l:List UInt8):(strOf l).size=l.length:=rfl
theorem adN {w:World} {A:Option Addr} {n c:Nat} {l:List UInt8} (h:Sl w A n c l) :
  (convert 109 9 (.slice A n c)).run Tryz.prog w = .ok (.string (strOf l)) w:=by
 rcases l with _ | ⟨x,l⟩
 ·have hn:n=0:=h.len.symm
  subst hn
  rcases A with _ | ⟨b,off,spot⟩
  ·rw [run_convert_bytes_nil w 109 5 Tryz.underlying109 Tryz.underlying5 0 c 9 Tryz.underlying9]
   rfl
  ·rw [run_convert_bytes_string w 109 9 5 _ 0 c Tryz.underlying109 Tryz.underlying5 Tryz.underlying9,
    run_bytesToString w _ 0 c [] (by simp [loadCells,loadCellsFrom])]
   rfl
 ·obtain ⟨b,off,rfl,hc⟩:=h.holds (by simp [bytes])
  have hs:=Lib.run_convert_whole (P:=Tryz.prog) w 109 5 9 Tryz.underlying109 Tryz.underlying5 Tryz.underlying9 b off (strOf (x::l)) (fun i hi=>hc i _ (wM hi)) c
  rw [alo,h.len] at hs
  exact hs
end Go.Proofs.YtpcmlopbkehffaaGreat
namespace Go.Proofs.YtpcmlopbkehffaaGreat.Ru
open Go.Lib (decodeN)
def iG (n b0 b1 b2 b3:Nat):Nat×Nat :=
 if n=0 then (0,0) else if decodeN n b0 b1 b2 b3=(65533,1) then (0,0) else decodeN n b0 b1 b2 b3
theorem nu {n b0 b1 b2 b3:Nat} (h:decodeN n b0 b1 b2 b3=(65533,1)):iG n b0 b1 b2 b3=(0,0):=by
 unfold iG
 rw [if_pos h]
 split <;> rfl
theorem vg {n b0 b1 b2 b3 r k:Nat} (hn:n≠0) (h:decodeN n b0 b1 b2 b3=(r,k)) (h1:r≠65533∨k≠1):iG n b0 b1 b2 b3=(r,k):=by
 unfold iG
 rw [if_neg hn,if_neg (by rw [h];intro e;injection e;omega),h]
def fits (least r:Nat):Bool:=decide (least≤r∧r≤1114111∧¬ (55296≤r∧r≤57343))
theorem rz {least r:Nat} (h:fits least r=true):least≤r∧r≤1114111∧¬ (55296≤r∧r≤57343):=of_decide_eq_true h
theorem ru {least r:Nat} (h:fits least r=false):¬ (least≤r∧r≤1114111∧¬ (55296≤r∧r≤57343)):=of_decide_eq_false h
theorem akE (n b0 b1 b2 b3:Nat) (hn:n≠0) (h:b0<128):iG n b0 b1 b2 b3=(b0,1) :=
 vg hn (by unfold decodeN;rw [if_pos h]) (by omega)
theorem akK (n b0 b1 b2 b3:Nat) (h:128≤b0) (h1:¬ (194≤b0∧b0≤244)) (h0:b0<256):iG n b0 b1 b2 b3=(0,0):=by
 apply nu
 unfold decodeN
 repeat' split
 all_goals first | rfl | (exfalso;omega)
theorem akF (n b0 b1 b2 b3:Nat) (h:194≤b0∧b0≤223) (hn:n<2):iG n b0 b1 b2 b3=(0,0):=by
 apply nu
 unfold decodeN
 repeat' split
 all_goals first | rfl | (exfalso;omega)
theorem akG (n b0 b1 b2 b3:Nat) (h:224≤b0∧b0≤239) (hn:n<3):iG n b0 b1 b2 b3=(0,0):=by
 apply nu
 unfold decodeN
 repeat' split
 all_goals first | rfl | (exfalso;omega)
theorem akH (n b0 b1 b2 b3:Nat) (h:240≤b0∧b0≤244) (hn:n<4):iG n b0 b1 b2 b3=(0,0):=by
 apply nu
 unfold decodeN
 repeat' split
 all_goals first | rfl | (exfalso;omega)
set_option maxRecDepth 100000 in
theorem akN (n b0 b1 b2 b3:Nat) (h:194≤b0∧b0≤223) (hn:2≤n) (h1:128≤b1∧b1≤191):iG n b0 b1 b2 b3=((b0-192)*64+b1-128,2):=by
 refine vg (by omega) ?_ (by omega)
 unfold decodeN
 rw [if_neg (by omega),if_pos (by omega),if_pos (by omega)]
 congr 1;omega
theorem akO (n b0 b1 b2 b3:Nat) (h:194≤b0∧b0≤223) (hb:b1<256) (h1:¬ (128≤b1∧b1≤191)):iG n b0 b1 b2 b3=(0,0):=by
 apply nu
 unfold decodeN
 repeat' split
 all_goals first | rfl | (exfalso;omega)
set_option maxRecDepth 100000 in
theorem akL (n b0 b1 b2 b3:Nat) (h:224≤b0∧b0≤239) (hn:3≤n) (h1:128≤b1∧b1≤191) (h2:128≤b2∧b2≤191) (r:Nat) (hr:r=((b0-224)*64+b1-128)*64+b2-128) :
  iG n b0 b1 b2 b3=if fits 2048 r=true then (r,3) else (0,0):=by
 have e:b0 % 16*4096+b1 % 64*64+b2 % 64=r:=by omega
 cases hf:fits 2048 r
 ·have hf':=ru hf
  rw [if_neg (by decide)]
  apply nu
  unfold decodeN
  rw [if_neg (by omega),if_neg (by omega),if_pos (by omega),e,if_neg (by omega)]
 ·have hf':=rz hf
  rw [if_pos rfl]
  refine vg (by omega) ?_ (by omega)
  unfold decodeN
  rw [if_neg (by omega),if_neg (by omega),if_pos (by omega),e,if_pos (by omega)]
theorem akM (n b0 b1 b2 b3:Nat) (h:224≤b0∧b0≤239) (hb:b1<256) (hb2:b2<256) (h1:¬ (128≤b1∧b1≤191)∨¬ (128≤b2∧b2≤191)):iG n b0 b1 b2 b3=(0,0):=by
 apply nu
 unfold decodeN
 rw [if_neg (by omega),if_neg (by omega),if_neg (by omega),if_neg (by omega)]
set_option maxRecDepth 100000 in
theorem akI (n b0 b1 b2 b3:Nat) (h:240≤b0∧b0≤244) (hn:4≤n) (h1:128≤b1∧b1≤191) (h2:128≤b2∧b2≤191) (h3:128≤b3∧b3≤191) (r:Nat) (hr:r=(((b0-240)*64+b1-128)*64+b2-128)*64+b3-128) :
  iG n b0 b1 b2 b3=if fits 65536 r=true then (r,4) else (0,0):=by
 have e:b0 % 8*262144+b1 % 64*4096+b2 % 64*64+b3 % 64=r:=by omega
 cases hf:fits 65536 r
 ·have hf':=ru hf
  rw [if_neg (by decide)]
  apply nu
  unfold decodeN
  rw [if_neg (by omega),if_neg (by omega),if_neg (by omega),if_pos (by omega),e,if_neg (by omega)]
 ·have hf':=rz hf
  rw [if_pos rfl]
  refine vg (by omega) ?_ (by omega)
  unfold decodeN
  rw [if_neg (by omega),if_neg (by omega),if_neg (by omega),if_pos (by omega),e,if_pos (by omega)]
theorem akJ (n b0 b1 b2 b3:Nat) (h:240≤b0∧b0≤244) (hb:b1<256) (hb2:b2<256) (hb3:b3<256) (h1:¬ (128≤b1∧b1≤191)∨¬ (128≤b2∧b2≤191)∨¬ (128≤b3∧b3≤191)):iG n b0 b1 b2 b3=(0,0):=by
 apply nu
 unfold decodeN
 rw [if_neg (by omega),if_neg (by omega),if_neg (by omega),if_neg (by omega)]
def dR (s:ByteArray):Nat×Nat:=iG s.size (s.get! 0).toNat (s.get! 1).toNat (s.get! 2).toNat (s.get! 3).toNat
theorem get_eq (s:ByteArray) (k:Nat) (h:k<s.size):s.get! k=s[k]:=by
 rw [← Lib.getD_get!']
 simp only [List.getD_eq_getElem?_getD]
 rw [List.getElem?_eq_getElem (by simpa using h)]
 rfl
def acc (s:ByteArray) (r0:Nat):Nat→Nat
 | 0=>0
 | 1=>r0
 | k+2=>acc s r0 (k+1)*64+(s.get! (k+1)).toNat-128
theorem aes (s:ByteArray) (r0:Nat):acc s r0 1=r0:=rfl
theorem aay (s:ByteArray) (r0:Nat):acc s r0 2=r0*64+(s.get! 1).toNat-128:=rfl
theorem aaz (s:ByteArray) (r0:Nat):acc s r0 3=(r0*64+(s.get! 1).toNat-128)*64+(s.get! 2).toNat-128:=rfl
theorem aaA (s:ByteArray) (r0:Nat):acc s r0 4=((r0*64+(s.get! 1).toNat-128)*64+(s.get! 2).toNat-128)*64+(s.get! 3).toNat-128:=rfl
theorem vX (s:ByteArray) (r0:Nat) {k:Nat} (h:1≤k):acc s r0 (k+1)=acc s r0 k*64+(s.get! k).toNat-128:=by
 obtain ⟨j,rfl⟩:∃ j,k=j+1:=⟨k-1,by omega⟩
 rfl
def Conts (s:ByteArray) (k:Nat):Prop:=∀ j,1≤j→j<k→128≤(s.get! j).toNat∧(s.get! j).toNat≤191
theorem Conts.one (s:ByteArray):Conts s 1:=fun j h1 h2=>by omega
theorem Conts.succ {s:ByteArray} {k:Nat} (h:Conts s k) (h1:128≤(s.get! k).toNat∧(s.get! k).toNat≤191):Conts s (k+1):=fun j h2 h3=>by
 by_cases e:j=k
 ·subst e;exact h1
 ·exact h j h2 (by omega)
theorem vW {s:ByteArray} {r0:Nat} (h0:r0<64) (k:Nat) (h1:1≤k) (h4:k≤4) (hc:Conts s k):acc s r0 k<64 ^ k:=by
 rcases (show k=1∨k=2∨k=3∨k=4 by omega) with rfl | rfl | rfl | rfl
 ·rw [aes,show (64:Nat) ^ 1=64 from rfl];exact h0
 ·have:=hc 1 (by omega) (by omega);rw [aay,show (64:Nat) ^ 2=4096 from rfl];omega
 ·have:=hc 1 (by omega) (by omega);have:=hc 2 (by omega) (by omega);rw [aaz,show (64:Nat) ^ 3=262144 from rfl];omega
 ·have:=hc 1 (by omega) (by omega);have:=hc 2 (by omega) (by omega);have:=hc 3 (by omega) (by omega);rw [aaA,show (64:Nat) ^ 4=16777216 from rfl];omega
theorem akx {s:ByteArray} (h:194≤(s.get! 0).toNat∧(s.get! 0).toNat≤223) (hn:2≤s.size) (hc:Conts s 2) (R:Nat) (hR:acc s ((s.get! 0).toNat-192) 2=R):dR s=if fits 128 R=true then (R,2) else (0,0):=by
 have h1:=hc 1 (by omega) (by omega)
 rw [aay] at hR
 unfold dR
 rw [akN _ _ _ _ _ h hn h1]
 rw [if_pos]
 ·congr 1
 ·unfold fits
  rw [decide_eq_true_eq]
  omega
theorem akz {s:ByteArray} (h:224≤(s.get! 0).toNat∧(s.get! 0).toNat≤239) (hn:3≤s.size) (hc:Conts s 3) (R:Nat) (hR:acc s ((s.get! 0).toNat-224) 3=R):dR s=if fits 2048 R=true then (R,3) else (0,0):=by
 have h1:=hc 1 (by omega) (by omega)
 have h2:=hc 2 (by omega) (by omega)
 rw [aaz] at hR
 unfold dR
 exact akL _ _ _ _ _ h hn h1 h2 R hR.symm
theorem akB {s:ByteArray} (h:240≤(s.get! 0).toNat∧(s.get! 0).toNat≤244) (hn:4≤s.size) (hc:Conts s 4) (R:Nat) (hR:acc s ((s.get! 0).toNat-240) 4=R):dR s=if fits 65536 R=true then (R,4) else (0,0):=by
 have h1:=hc 1 (by omega) (by omega)
 have h2:=hc 2 (by omega) (by omega)
 have h3:=hc 3 (by omega) (by omega)
 rw [aaA] at hR
 unfold dR
 exact akI _ _ _ _ _ h hn h1 h2 h3 R hR.symm
theorem aky {s:ByteArray} (h:194≤(s.get! 0).toNat∧(s.get! 0).toNat≤223) (k:Nat) (h1:1≤k) (hk:k<2) (hc:¬ (128≤(s.get! k).toNat∧(s.get! k).toNat≤191)):dR s=(0,0):=by
 obtain rfl:k=1:=by omega
 exact akO _ _ _ _ _ h (UInt8.toNat_lt _) hc
theorem akA {s:ByteArray} (h:224≤(s.get! 0).toNat∧(s.get! 0).toNat≤239) (k:Nat) (h1:1≤k) (hk:k<3) (hc:¬ (128≤(s.get! k).toNat∧(s.get! k).toNat≤191)):dR s=(0,0):=by
 refine akM _ _ _ _ _ h (UInt8.toNat_lt _) (UInt8.toNat_lt _) ?_
 rcases (show k=1∨k=2 by omega) with rfl | rfl
 ·exact .inl hc
 ·exact .inr hc
theorem akC {s:ByteArray} (h:240≤(s.get! 0).toNat∧(s.get! 0).toNat≤244) (k:Nat) (h1:1≤k) (hk:k<4) (hc:¬ (128≤(s.get! k).toNat∧(s.get! k).toNat≤191)):dR s=(0,0):=by
 refine akJ _ _ _ _ _ h (UInt8.toNat_lt _) (UInt8.toNat_lt _) (UInt8.toNat_lt _) ?_
 rcases (show k=1∨k=2∨k=3 by omega) with rfl | rfl | rfl
 ·exact .inl hc
 ·exact .inr (.inl hc)
 ·exact .inr (.inr hc)
def fO (s:ByteArray) (i:Nat):Nat×Nat:=dR (s.extract i s.size)
def runesFrom (s:ByteArray):Nat→Nat→Option (List Nat)
 | 0,_=>some []
 | f+1,i=>if s.size≤i then some [] else if (fO s i).2=0 then none else (runesFrom s f (i+(fO s i).2)).map ((fO s i).1::·)
def gK (s:ByteArray) (i:Nat):Option (List Nat):=runesFrom s (s.size-i) i
theorem nY (s:ByteArray) (i:Nat):(s.extract i s.size).size=s.size-i:=by
 rw [ByteArray.size_extract];omega
theorem abp (n b0 b1 b2 b3:Nat) (hn:n≠0):1≤(decodeN n b0 b1 b2 b3).2∧(decodeN n b0 b1 b2 b3).2≤n∧(decodeN n b0 b1 b2 b3).2≤4∧(decodeN n b0 b1 b2 b3).1≤1114111:=by
 unfold decodeN
 repeat' split
 all_goals (simp only;omega)
theorem akD (s:ByteArray):(dR s).2≤s.size∧(dR s).2≤4∧(dR s).1≤1114111:=by
 unfold dR iG
 split
 ·simp
 ·split
  ·simp
  ·rename_i h _
   have:=abp s.size (s.get! 0).toNat (s.get! 1).toNat (s.get! 2).toNat (s.get! 3).toNat h
   omega
theorem adz (s:ByteArray) (i:Nat):(fO s i).2≤s.size-i∧(fO s i).1≤1114111:=by
 have:=akD (s.extract i s.size)
 rw [nY] at this
 exact ⟨this.1,this.2.2⟩
theorem adD (s:ByteArray):∀ (f g i:Nat),s.size-i≤f→s.size-i≤g→runesFrom s f i=runesFrom s g i
 | 0,0,_,_,_=>rfl
 | 0,g+1,i,h,_=>by rw [runesFrom,runesFrom,if_pos (by omega)]
 | f+1,0,i,_,h=>by rw [runesFrom,runesFrom,if_pos (by omega)]
 | f + 1,g+1,i,h1,h2=>by
   rw [runesFrom,runesFrom]
   by_cases h0:s.size≤i
   ·rw [if_pos h0,if_pos h0]
   ·rw [if_neg h0,if_neg h0]
    by_cases hk:(fO s i).2=0
    ·rw [if_pos hk,if_pos hk]
    ·rw [if_neg hk,if_neg hk,adD s f g _ (by omega) (by omega)]
theorem akP {s:ByteArray} {i:Nat} (h:s.size≤i):gK s i=some []:=by
 unfold gK
 rw [show s.size-i=0 by omega]
 rfl
theorem akQ {s:ByteArray} {i:Nat} (h:i<s.size) (hk:(fO s i).2=0):gK s i=none:=by
 unfold gK
 obtain ⟨f,hf⟩:∃ f,s.size-i=f+1:=⟨s.size-i-1,by omega⟩
 rw [hf,runesFrom,if_neg (by omega),if_pos hk]
theorem akR {s:ByteArray} {i:Nat} (h:i<s.size) (hk:(fO s i).2≠0):gK s i=(gK s (i+(fO s i).2)).map ((fO s i).1::·):=by
 unfold gK
 obtain ⟨f,hf⟩:∃ f,s.size-i=f+1:=⟨s.size-i-1,by omega⟩
 conv=>lhs;rw [hf,runesFrom,if_neg (by omega),if_neg hk]
 rw [adD s f (s.size-(i+(fO s i).2)) _ (by omega) (Nat.le_refl _)]
def oq (s:ByteArray) (rs:List Nat) (i:Nat):Prop:=i≤s.size∧rs.length≤i∧(∀ r∈rs,r≤1114111)∧gK s 0=(gK s i).map (rs++·)
theorem adC (s:ByteArray):oq s [] 0:=⟨Nat.zero_le _,Nat.le_refl _,fun r h=>by simp at h,by simp⟩
theorem adB {s:ByteArray} {rs:List Nat} {i:Nat} (h:oq s rs i) (hi:i=s.size):gK s 0=some rs:=by
 rw [h.2.2.2,akP (by omega)]
 simp
theorem adA {s:ByteArray} {rs:List Nat} {i:Nat} (h:oq s rs i) (hi:i<s.size) (hk:(fO s i).2=0):gK s 0=none:=by
 rw [h.2.2.2,akQ hi hk]
 rfl
theorem zC {s:ByteArray} {rs:List Nat} {i:Nat} (h:oq s rs i) (hi:i<s.size) (hk:(fO s i).2≠0):oq s (rs++[(fO s i).1]) (i+(fO s i).2):=by
 have hw:=adz s i
 refine ⟨by omega,by rw [List.length_append,List.length_singleton];have:=h.2.1;omega,?_,?_⟩
 ·intro r hr
  rcases List.mem_append.1 hr with h1 | h1
  ·exact h.2.2.1 r h1
  ·rw [List.mem_singleton.1 h1];exact hw.2
 ·rw [h.2.2.2,akR hi hk,Option.map_map]
  congr 1
  funext x
  simp
end Go.Proofs.YtpcmlopbkehffaaGreat.Ru
namespace Go.Proofs.YtpcmlopbkehffaaGreat
open Ru
def iX (r:Nat):Bool:=decide (r<32)||(decide (127≤r)&&decide (r≤159))
def fC (s:ByteArray):Bool:=decide (1≤s.size)&&decide (s.size≤32)&&(match gK s 0 with | none=>false | some rs=>rs.all fun r => !iX r)
def mU (s:ByteArray):Int:=if fC s=true then 0 else 5
theorem yh {s:ByteArray} (h:gK s 0=none):fC s=false:=by unfold fC;rw [h];simp
theorem uK {s:ByteArray} (h:s.size<1∨32<s.size):fC s=false:=by
 unfold fC
 rcases h with h | h
 ·rw [decide_eq_false (by omega)];rfl
 ·rw [decide_eq_false (show ¬ s.size≤32 by omega)];simp
theorem acC {s:ByteArray} {rs:List Nat} (h:gK s 0=some rs) {k:Nat} (hk:k<rs.length) (hb:iX rs[k]=true):fC s=false:=by
 unfold fC
 rw [h]
 have:(rs.all fun r => !iX r)=false:=by
  rw [List.all_eq_false]
  exact ⟨rs[k],List.getElem_mem hk,by rw [hb];decide⟩
 simp only [this,Bool.and_false]
theorem acD {s:ByteArray} {rs:List Nat} (h:gK s 0=some rs) (h1:1≤s.size) (h2:s.size≤32) (hg:∀ k (hk:k<rs.length),iX rs[k]=false):fC s=true:=by
 unfold fC
 rw [h,decide_eq_true h1,decide_eq_true h2]
 have:(rs.all fun r => !iX r)=true:=by
  rw [List.all_eq_true]
  intro r hr
  obtain ⟨k,hk,rfl⟩:=List.getElem_of_mem hr
  rw [hg k hk];rfl
 simp only [this,Bool.and_true]
theorem jJ {s:ByteArray} (h:fC s=false):mU s=5:=by unfold mU;rw [h];rfl
theorem pQ {s:ByteArray} (h:fC s=true):mU s=0:=by unfold mU;rw [h];rfl
structure ay where
 trace:Nat
 id:Nat
 parent:Nat
 start:Nat
 len:Nat
 service:ByteArray
 name:ByteArray
 fail:Bool
structure ay.Wf (s:ay):Prop where
 trace:s.trace<18446744073709551616
 id:s.id<18446744073709551616
 parent:s.parent<18446744073709551616
 start:s.start<18446744073709551616
 len:s.len<18446744073709551616
 service:s.service.size≤9223372036854775807
 name:s.name.size≤9223372036854775807
def ay.zero:ay:=⟨0,0,0,0,0,⟨#[]⟩,⟨#[]⟩,false⟩
def jw (s:ay):Bool:=decide (s.trace=0)||decide (s.id=0)||decide (1099511627776<s.start)||decide (1099511627776<s.len)
def fq (s:ay):Int:=if jw s=true then 1 else if fC s.service=true∧fC s.name=true then 0 else 5
theorem zx {s:ay} (h:jw s=true):fq s=1:=by unfold fq;rw [if_pos h]
theorem uW {s:ay} (h:jw s=false) (hn:fC s.service=false∨fC s.name=false):fq s=5:=by
 unfold fq
 rw [if_neg (by rw [h];decide),if_neg]
 rintro ⟨h1,h2⟩
 rcases hn with hn | hn
 ·rw [hn] at h1;cases h1
 ·rw [hn] at h2;cases h2
theorem ads {s:ay} (h:jw s=false) (h1:fC s.service=true) (h2:fC s.name=true):fq s=0:=by
 unfold fq
 rw [if_neg (by rw [h];decide),if_pos ⟨h1,h2⟩]
theorem akh {s:ay} (h:fq s=0):jw s=false∧fC s.service=true∧fC s.name=true:=by
 cases ha:jw s
 ·by_cases hn:fC s.service=true∧fC s.name=true
  ·exact ⟨rfl,hn⟩
  ·unfold fq at h
   rw [if_neg (by rw [ha];decide),if_neg hn] at h
   cases h
 ·rw [zx ha] at h;cases h
theorem aaU {s:ay} (h:jw s=true):s.trace=0∨(s.trace≠0∧s.id=0)∨(s.trace≠0∧s.id≠0∧1099511627776<s.start)∨(s.trace≠0∧s.id≠0∧s.start≤1099511627776∧1099511627776<s.len):=by
 unfold jw at h
 simp at h
 omega
theorem wG {s:ay} (h:jw s=false):s.trace≠0∧s.id≠0∧s.start≤1099511627776∧s.len≤1099511627776:=by
 unfold jw at h
 simp at h
 omega
def byteOf (n i:Nat):UInt8:=UInt8.ofNat (n / 256 ^ i % 256)
def abw (n:Nat):Nat→List UInt8
 | 0=>[]
 | k+1=>abw n k++[byteOf n (7-k)]
def eight (n:Nat):List UInt8:=abw n 8
def jC (l:List UInt8):Nat→Nat
 | 0=>0
 | k+1=>jC l k*256+(l.getD k 0).toNat
end Go.Proofs.YtpcmlopbkehffaaGreat
namespace Go.Proofs.YtpcmlopbkehffaaGreat
def iM (l:List UInt8):Int×ByteArray×List UInt8 :=
 if l=[] then (3,ByteArray.empty,[])
 else if (l.getD 0 0).toNat<1∨32<(l.getD 0 0).toNat then (6,ByteArray.empty,[])
 else if l.length-1<(l.getD 0 0).toNat then (3,ByteArray.empty,[])
 else (0,strOf ((l.take ((l.getD 0 0).toNat+1)).drop 1),l.drop ((l.getD 0 0).toNat+1))
def numsOf (l:List UInt8) (sv nm:ByteArray):ay :=
 ⟨jC l 8,jC (l.drop 8) 8,jC (l.drop 16) 8,jC (l.drop 24) 8,jC (l.drop 32) 8,sv,nm,decide ((l.getD 40 0).toNat=1)⟩
def abl (l:List UInt8):Int×ay×List UInt8 :=
 if l.length<41 then (3,ay.zero,[])
 else if 1<(l.getD 40 0).toNat then (6,ay.zero,[])
 else if (iM (l.drop 41)).1≠0 then ((iM (l.drop 41)).1,ay.zero,[])
 else if (iM (iM (l.drop 41)).2.2).1≠0 then ((iM (iM (l.drop 41)).2.2).1,ay.zero,[])
 else if fq (numsOf l (iM (l.drop 41)).2.1 (iM (iM (l.drop 41)).2.2).2.1)≠0 then (fq (numsOf l (iM (l.drop 41)).2.1 (iM (iM (l.drop 41)).2.2).2.1),ay.zero,[])
 else (0,numsOf l (iM (l.drop 41)).2.1 (iM (iM (l.drop 41)).2.2).2.1,(iM (iM (l.drop 41)).2.2).2.2)
end Go.Proofs.YtpcmlopbkehffaaGreat
namespace Go.Proofs.YtpcmlopbkehffaaGreat
open Ru
open Go.Lib (decodeN)
theorem abU (s:ByteArray) (k:Nat) (h:s.size≤k):s.get! k=0:=by
 rw [← Lib.getD_get!']
 simp only [List.getD_eq_getElem?_getD]
 rw [List.getElem?_eq_none (by simpa using h)]
 rfl
theorem rA (s:ByteArray) (i j:Nat) (h:i≤s.size):(s.extract i s.size).get! j=s.get! (i+j):=by
 by_cases hj:j<s.size-i
 ·rw [get_eq _ _ (by rw [nY];exact hj),get_eq _ _ (by omega)]
  simp [ByteArray.getElem_extract]
 ·rw [abU _ _ (by rw [nY];omega),abU _ _ (by omega)]
theorem zB (s:ByteArray) (i:Nat) (h:i<s.size):fO s i=if Utf8.decode s i=(65533,1) then (0,0) else Utf8.decode s i:=by
 unfold fO dR iG
 rw [nY,rA s i 0 (by omega),rA s i 1 (by omega),rA s i 2 (by omega),rA s i 3 (by omega),Lib.decode_at,Nat.add_zero,if_neg (by omega)]
theorem akv {s:ByteArray} {i:Nat} (h:i<s.size) (hr:(Utf8.decode s i).1≠65533):fO s i=Utf8.decode s i:=by
 rw [zB s i h,if_neg]
 intro e
 rw [e] at hr
 exact hr rfl
theorem afz (n b3:Nat) (h:3≤n):decodeN n 239 191 189 b3=(65533,3):=by
 unfold decodeN
 rw [if_neg (by omega),if_neg (by omega),if_pos (by omega),if_pos (by omega)]
theorem afy (n b0 b1 b2 b3:Nat):(decodeN n b0 b1 b2 b3).1=65533→¬ (3≤n∧b0=239∧b1=191∧b2=189)→(decodeN n b0 b1 b2 b3).2=1:=by
 unfold decodeN
 repeat' split
 all_goals
  intro h1 h2
  first | rfl | (exfalso;simp only at h1;omega)
def oI (s:ByteArray) (i:Nat):Bool:=Lib.hasPrefix (s.extract i s.size).data.toList [239,191,189]
theorem aiY (l:List UInt8) (a b c:UInt8):Lib.hasPrefix l [a,b,c]=true ↔ 3≤l.length∧l.getD 0 0=a∧l.getD 1 0=b∧l.getD 2 0=c:=by
 match l with
 | []=>simp [Lib.hasPrefix]
 | [x]=>simp [Lib.hasPrefix]
 | [x,y]=>simp [Lib.hasPrefix]
 | x :: y::z::l =>
   show (a==x&&(b==y&&(c==z&&true)))=true ↔ 3≤l.length+1+1+1∧x=a∧y=b∧z=c
   simp only [Bool.and_eq_true,beq_iff_eq,and_true]
   exact ⟨fun ⟨h1,h2,h3⟩=>⟨by omega,h1.symm,h2.symm,h3.symm⟩,fun ⟨_,h1,h2,h3⟩=>⟨h1.symm,h2.symm,h3.symm⟩⟩
theorem abz (s:ByteArray) (i:Nat) (h:i≤s.size):oI s i=true ↔ 3≤s.size-i∧(s.get! i).toNat=239∧(s.get! (i+1)).toNat=191∧(s.get! (i+2)).toNat=189:=by
 unfold oI
 rw [aiY,show (s.extract i s.size).data.toList.length=s.size-i by rw [← nY];simp]
 have g:∀ j,(s.extract i s.size).data.toList.getD j 0=s.get! (i+j):=fun j=>by rw [Lib.getD_get!',rA s i j h]
 rw [g 0,g 1,g 2,Nat.add_zero]
 simp only [← UInt8.toNat_inj]
 rfl
theorem akw {s:ByteArray} {i:Nat} (h:i<s.size) (hf:oI s i=true):fO s i=(65533,3)∧(Utf8.decode s i).2=3:=by
 obtain ⟨h3,h0,h1,h2⟩:=(abz s i (by omega)).1 hf
 have e:Utf8.decode s i=(65533,3):=by
  rw [Lib.decode_at,h0,h1,h2]
  exact afz _ _ h3
 rw [zB s i h,e]
 exact ⟨rfl,rfl⟩
theorem aku {s:ByteArray} {i:Nat} (h:i<s.size) (hr:(Utf8.decode s i).1=65533) (hf:oI s i=false):(fO s i).2=0:=by
 have h2:(Utf8.decode s i).2=1:=by
  rw [Lib.decode_at] at hr ⊢
  refine afy _ _ _ _ _ hr ?_
  rintro ⟨a,b,c,d⟩
  rw [(abz s i (by omega)).2 ⟨a,b,c,d⟩] at hf
  cases hf
 rw [zB s i h,if_pos (Prod.ext hr h2)]
theorem width_pos (s:ByteArray) (i:Nat) (h:i<s.size):1≤(Utf8.decode s i).2:=by
 rw [Lib.decode_at]
 exact (abp _ _ _ _ _ (by omega)).1
def nG (s:ByteArray) (i:Nat):Prop:=∃ rs,oq s rs i∧∀ r∈rs,iX r=false
theorem ahq (s:ByteArray):nG s 0:=⟨[],adC s,by simp⟩
theorem ahp {s:ByteArray} {i:Nat} (h:nG s i):i≤s.size:=by
 obtain ⟨rs,h,_⟩:=h
 exact h.1
theorem acA {s:ByteArray} {i:Nat} (h:nG s i) (hi:i<s.size) (r n:Nat) (hd:fO s i=(r,n)) (hn:n≠0) (hb:iX r=false):nG s (i+n):=by
 obtain ⟨rs,hr,hg⟩:=h
 have:=zC hr hi (by rw [hd];exact hn)
 rw [hd] at this
 refine ⟨_,this,?_⟩
 intro x hx
 rcases List.mem_append.1 hx with h1 | h1
 ·exact hg x h1
 ·rw [List.mem_singleton.1 h1];exact hb
theorem ahn {s:ByteArray} {i:Nat} (h:nG s i) (hi:i<s.size) (hk:(fO s i).2=0):mU s=5:=by
 obtain ⟨rs,hr,_⟩:=h
 exact jJ (yh (adA hr hi hk))
theorem ahm {s:ByteArray} {i:Nat} (h:nG s i) (hi:i<s.size) (r n:Nat) (hd:fO s i=(r,n)) (hn:n≠0) (hb:iX r=true):mU s=5:=by
 obtain ⟨rs,hr,_⟩:=h
 have h1:=zC hr hi (by rw [hd];exact hn)
 rw [hd] at h1
 cases ho:gK s 0 with
 | none=>exact jJ (yh ho)
 | some all =>
   have h2:=h1.2.2.2
   rw [ho] at h2
   cases h3:gK s (i+n) with
   | none=>rw [h3] at h2;cases h2
   | some t =>
     rw [h3] at h2
     injection h2 with h2
     have hk:rs.length<all.length:=by rw [h2];simp
     refine jJ (acC ho hk ?_)
     have:all[rs.length]'hk=r:=by simp [h2]
     rw [this];exact hb
theorem aho {s:ByteArray} (h:nG s s.size) (h1:1≤s.size) (h2:s.size≤32):mU s=0:=by
 obtain ⟨rs,hr,hg⟩:=h
 exact pQ (acD (adB hr rfl) h1 h2 fun k hk=>hg _ (List.getElem_mem hk))
end Go.Proofs.YtpcmlopbkehffaaGreat
