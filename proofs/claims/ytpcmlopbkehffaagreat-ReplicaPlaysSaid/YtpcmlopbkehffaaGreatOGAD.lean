/-
  Plain facts on a register of 32 bits that is shifted and fed (CRC-32): no program is named here.
  steps n r: the register after n places; upd: one byte added, eight places; regs: all bytes; more: a sum of bytes behind a sum.
-/
import Derived.Test.YtpcmlopbkehffaaGreatOGAA
import Derived.Test.YtpcmlopbkehffaaGreatOSls
import Derived.WalkKit
import Derived.Laws.BitsAllLaws
import Derived.Test.YtpcmlopbkehffaaGreatRows
import Derived.WalkSpells
import Derived.WalkLawsBesides
import Derived.Lib.SlBytesConst
import Derived.Laws.MakeOwn
set_option linter.unusedSimpArgs false
set_option linter.unusedVariables false
namespace Go.Proofs.YtpcmlopbkehffaaGreat.Crc
def poly:BitVec 32:=0xedb88320#32
def step (r:BitVec 32):BitVec 32:=if r.getLsbD 0=true then (r >>> 1) ^^^ poly else r >>> 1
def steps:Nat→BitVec 32→BitVec 32
 | 0,r=>r
 | n+1,r=>step (steps n r)
def inv (x:BitVec 32):BitVec 32 := ~~~x
def wide (c:UInt8):BitVec 32:=c.toBitVec.setWidth 32
theorem ama (c:UInt8):(wide c).toNat=c.toNat:=by
 unfold wide
 rw [BitVec.toNat_setWidth]
 have:c.toNat<256:=UInt8.toNat_lt c
 show c.toNat % 2 ^ 32=c.toNat
 omega
def upd (r:BitVec 32) (c:UInt8):BitVec 32:=steps 8 (r ^^^ wide c)
def regs (r:BitVec 32) (l:List UInt8):BitVec 32:=l.foldl upd r
def more (s:BitVec 32) (l:List UInt8):BitVec 32 := ~~~ (regs (~~~ s) l)
theorem ajZ (r:BitVec 32):regs r []=r:=rfl
theorem ajY (r:BitVec 32) (l m:List UInt8):regs r (l++m)=regs (regs r l) m:=List.foldl_append
theorem aj0 (r:BitVec 32) (l:List UInt8) (c:UInt8):regs r (l++[c])=upd (regs r l) c:=by rw [ajY];rfl
def low (x:BitVec 32):UInt8:=UInt8.ofNat (x.toNat % 256)
theorem acn (x:BitVec 32):(low x).toNat=x.toNat % 256:=by
 unfold low
 rw [UInt8.toNat_ofNat']
 omega
def word (x:BitVec 32):List UInt8:=[low x,low (x >>> 8),low (x >>> 8 >>> 8),low (x >>> 8 >>> 8 >>> 8)]
def sofar (a b:List UInt8) (k:Nat):List UInt8:=(List.zipWith (· ^^^ ·) a b).take k++List.replicate (a.length-k) 0
def aeW (i:Nat):BitVec 32:=1#32 <<< i
def bit8 (t:Nat):UInt8:=UInt8.ofNat (2 ^ t % 256)
def aco (x:BitVec 32):Nat→BitVec 32
 | 0=>0#32
 | k+1=>if x.getLsbD k=true then aco x k ^^^ aeW k else aco x k
theorem aa1 (y:BitVec 32):bits .and .u32 (y.toNat:Int) 1=if y.getLsbD 0=true then 1 else 0:=by
 have h:=u32_and_nat y.toNat 1 y.isLt (by omega)
 rw [show ((1:Nat):Int)=1 from rfl] at h
 rw [h,nat_mask1]
 have h0:y.getLsbD 0=decide (y.toNat % 2=1):=by simp [BitVec.getLsbD,Nat.testBit_zero]
 rw [h0]
 by_cases h1:y.toNat % 2=1
 ·simp [h1]
 ·have:y.toNat % 2=0:=by omega
  simp [this]
theorem wL (x y:BitVec 32):bits .xor .u32 (x.toNat:Int) (y.toNat:Int)=((x ^^^ y).toNat:Int):=by
 rw [u32_xor_nat _ _ x.isLt y.isLt,BitVec.toNat_xor]
theorem half (y:BitVec 32):((y.toNat:Nat):Int) / (2:Int)=((y >>> 1).toNat:Int):=by
 rw [BitVec.toNat_ushiftRight,Nat.shiftRight_eq_div_pow]
 omega
theorem amj (x:BitVec 32):bits .xor .u32 (x.toNat:Int) 3988292384=((x ^^^ poly).toNat:Int):=wL x poly
def feed (x:BitVec 32) (c:UInt8):BitVec 32:=x ^^^ wide c
theorem amh (x:BitVec 32) (c:UInt8):bits .xor .u32 (x.toNat:Int) (c.toNat:Int)=((feed x c).toNat:Int):=by
 rw [← ama,wL];rfl
theorem ami (x:BitVec 32) (c:UInt8):bits .xor .u32 (x.toNat:Int) ((c.toNat:Int) % 4294967296)=((feed x c).toNat:Int):=by
 have:c.toNat<256:=UInt8.toNat_lt c
 rw [show (c.toNat:Int) % 4294967296=(c.toNat:Int) from by omega,amh]
theorem acL (s:BitVec 32):bits .xor .u32 IntKind.u32.max (s.toNat:Int)=((inv s).toNat:Int):=by
 rw [show IntKind.u32.max=(((BitVec.allOnes 32).toNat:Nat):Int) from by decide,wL,BitVec.allOnes_xor];rfl
theorem adK (x:BitVec 32) (k:Nat):(x >>> k).toNat=x.toNat / 2 ^ k:=by rw [BitVec.toNat_ushiftRight,Nat.shiftRight_eq_div_pow]
theorem aln (y:BitVec 32) (h:y.getLsbD 0=true):step y=(y >>> 1) ^^^ poly:=by unfold step;rw [if_pos h]
theorem alm (y:BitVec 32) (h:y.getLsbD 0=false):step y=y >>> 1:=by unfold step;rw [if_neg (by rw [h];decide)]
end Go.Proofs.YtpcmlopbkehffaaGreat.Crc
namespace Go.Proofs.YtpcmlopbkehffaaGreat.Fm
open Crc
def aR:List UInt8→Nat
 | a::b::c::d::_=>a.toNat+256*b.toNat+65536*c.toNat+16777216*d.toNat
 | _=>0
theorem acO (l:List UInt8):aR l<4294967296:=by
 match l with
 | [] | [_] | [_,_] | [_,_,_]=>simp [aR]
 | a :: b::c::d::_ =>
   have:=UInt8.toNat_lt a;have:=UInt8.toNat_lt b;have:=UInt8.toNat_lt c;have:=UInt8.toNat_lt d
   simp only [aR];omega
theorem qz (x:BitVec 32):(word x).length=4:=rfl
theorem acP (x:BitVec 32) (t:List UInt8):aR (word x++t)=x.toNat:=by
 have h:=x.isLt
 simp only [word,List.cons_append,List.nil_append,aR,acn,adK,Nat.reducePow]
 omega
theorem ahF (l:List UInt8) (k:Nat) (h:4≤k):aR (l.take k)=aR l:=by
 match l with
 | []=>simp
 | [a]=>rw [List.take_of_length_le (by simp;omega)]
 | [a,b]=>rw [List.take_of_length_le (by simp;omega)]
 | [a,b,c]=>rw [List.take_of_length_le (by simp;omega)]
 | a :: b::c::d::t =>
   obtain ⟨k,rfl⟩:∃ j,k=j+4:=⟨k-4,by omega⟩
   simp [aR]
def aN (l:List UInt8):Int×List UInt8×List UInt8 :=
 if l.length<4 then (3,[],[])
 else if 8192<aR l then (2,[],[])
 else if l.length<4+aR l+4 then (3,[],[])
 else if (more 0#32 (l.take (4+aR l))).toNat=aR (l.drop (4+aR l)) then (0,(l.take (4+aR l)).drop 4,l.drop (4+aR l+4))
 else (2,[],[])
theorem wU {l:List UInt8} (h:l.length<4):aN l=(3,[],[]):=by unfold aN;rw [if_pos h]
theorem abo {l:List UInt8} (h:¬ l.length<4) (h1:8192<aR l):aN l=(2,[],[]):=by unfold aN;rw [if_neg h,if_pos h1]
theorem wT {l:List UInt8} (h:¬ l.length<4) (h1:¬ 8192<aR l) (h2:l.length<4+aR l+4):aN l=(3,[],[]):=by unfold aN;rw [if_neg h,if_neg h1,if_pos h2]
theorem wV {l:List UInt8} (h:¬ l.length<4) (h1:¬ 8192<aR l) (h2:¬ l.length<4+aR l+4) (h3:(more 0#32 (l.take (4+aR l))).toNat=aR (l.drop (4+aR l))) :
  aN l=(0,(l.take (4+aR l)).drop 4,l.drop (4+aR l+4)):=by unfold aN;rw [if_neg h,if_neg h1,if_neg h2,if_pos h3]
theorem abm {l:List UInt8} (h:¬ l.length<4) (h1:¬ 8192<aR l) (h2:¬ l.length<4+aR l+4) (h3:¬ (more 0#32 (l.take (4+aR l))).toNat=aR (l.drop (4+aR l))) :
  aN l=(2,[],[]):=by unfold aN;rw [if_neg h,if_neg h1,if_neg h2,if_neg h3]
theorem pE {l:List UInt8} (h:(aN l).1=0):(aN l).2.1.length≤8192∧(aN l).2.1.length+8+(aN l).2.2.length=l.length∧(aN l).2.2=l.drop ((aN l).2.1.length+8):=by
 by_cases h0:l.length<4
 ·rw [wU h0] at h;cases h
 by_cases h1:8192<aR l
 ·rw [abo h0 h1] at h;cases h
 by_cases h2:l.length<4+aR l+4
 ·rw [wT h0 h1 h2] at h;cases h
 by_cases h3:(more 0#32 (l.take (4+aR l))).toNat=aR (l.drop (4+aR l))
 ·rw [wV h0 h1 h2 h3]
  have hl:((l.take (4+aR l)).drop 4).length=aR l:=by rw [List.length_drop,List.length_take];omega
  refine ⟨?_,?_,?_⟩
  ·show ((l.take (4+aR l)).drop 4).length≤8192
   omega
  ·show ((l.take (4+aR l)).drop 4).length+8+(l.drop (4+aR l+4)).length=l.length
   rw [hl,List.length_drop];omega
  ·show l.drop (4+aR l+4)=l.drop (((l.take (4+aR l)).drop 4).length+8)
   rw [hl];congr 1;omega
 ·rw [abm h0 h1 h2 h3] at h;cases h
theorem afw (l:List UInt8):(aN l).1=0∨((aN l).1≠0∧(aN l).2=([],[])):=by
 unfold aN
 repeat' split
 all_goals simp
theorem abn (l:List UInt8):(aN l).2.1.length≤l.length∧(aN l).2.2.length≤l.length:=by
 rcases afw l with h | ⟨_,h⟩
 ·have:=pE h
  omega
 ·rw [h];simp
def framed (d:List UInt8):List UInt8:=(word (BitVec.ofNat 32 d.length)++d)++word (more 0#32 (word (BitVec.ofNat 32 d.length)++d))
theorem nO (d:List UInt8):(framed d).length=4+d.length+4:=by
 unfold framed
 rw [List.length_append,List.length_append,qz,qz]
theorem acN (n:Nat) (h:n≤8192) (t:List UInt8):aR (word (BitVec.ofNat 32 n)++t)=n:=by
 rw [acP,BitVec.toNat_ofNat]
 exact Nat.mod_eq_of_lt (by omega)
theorem afu (d r:List UInt8) (h:d.length≤8192):aN (framed d++r)=(0,d,r):=by
 have hn:aR (framed d++r)=d.length:=by
  unfold framed
  rw [List.append_assoc,List.append_assoc]
  exact acN _ h _
 have hl:=nO d
 have e1:(framed d++r).take (4+aR (framed d++r))=word (BitVec.ofNat 32 d.length)++d:=by
  rw [hn,framed,List.append_assoc,List.take_append_of_le_length (by rw [List.length_append,qz];omega),List.take_of_length_le (by rw [List.length_append,qz];omega)]
 have e2:(framed d++r).drop (4+aR (framed d++r))=word (more 0#32 (word (BitVec.ofNat 32 d.length)++d))++r:=by
  rw [hn,framed,List.append_assoc,List.drop_append_of_le_length (by rw [List.length_append,qz];omega),List.drop_of_length_le (by rw [List.length_append,qz];omega)]
  rfl
 have e3:(framed d++r).drop (4+aR (framed d++r)+4)=r:=by
  rw [hn,← hl,List.drop_left]
 rw [wV (by rw [List.length_append];omega) (by rw [hn];omega) (by rw [List.length_append,hn];omega) (by rw [e1,e2,acP]),e1,e3]
 congr 1
theorem afv (d:List UInt8) (h:d.length≤8192) (k:Nat) (hk:k<(framed d).length):aN ((framed d).take k)=(3,[],[]):=by
 have hl:=nO d
 have hlen:((framed d).take k).length=k:=by rw [List.length_take];omega
 by_cases h4:k<4
 ·exact wU (by omega)
 have hn:aR ((framed d).take k)=d.length:=by
  rw [ahF _ _ (by omega)]
  unfold framed
  rw [List.append_assoc]
  exact acN _ h _
 exact wT (by omega) (by omega) (by omega)
def fI:Nat→List UInt8→List (List UInt8)×Nat×Int
 | 0,_=>([],0,0)
 | f + 1,l=>if l=[] then ([],0,0) else if (aN l).1=0 then
     ((aN l).2.1::(fI f (aN l).2.2).1,(aN l).2.1.length+8+(fI f (aN l).2.2).2.1,(fI f (aN l).2.2).2.2) else ([],0,(aN l).1)
theorem aaK:∀ (f g:Nat) (l:List UInt8),l.length≤f→l.length≤g→fI f l=fI g l
 | 0,0,_,_,_=>rfl
 | 0,g+1,l,h,_=>by
   obtain rfl:l=[]:=List.eq_nil_of_length_eq_zero (by omega)
   simp [fI]
 | f + 1,0,l,_,h=>by
   obtain rfl:l=[]:=List.eq_nil_of_length_eq_zero (by omega)
   simp [fI]
 | f + 1,g+1,l,h1,h2=>by
   rw [fI,fI]
   by_cases h0:l=[]
   ·rw [if_pos h0,if_pos h0]
   ·rw [if_neg h0,if_neg h0]
    by_cases hk:(aN l).1=0
    ·have:=(pE hk).2.1
     rw [if_pos hk,if_pos hk,aaK f g _ (by omega) (by omega)]
    ·rw [if_neg hk,if_neg hk]
def bD (l:List UInt8):List (List UInt8)×Nat×Int:=fI l.length l
theorem all_none:bD []=([],0,0):=rfl
theorem aaQ {l:List UInt8} (h0:l≠[]) (hk:(aN l).1≠0):bD l=([],0,(aN l).1):=by
 unfold bD
 obtain ⟨n,hn⟩:∃ n,l.length=n+1:=⟨l.length-1,by have:=List.length_pos_iff.2 h0;omega⟩
 rw [hn,fI,if_neg h0,if_neg hk]
theorem aaP {l:List UInt8} (h0:l≠[]) (hk:(aN l).1=0):bD l=((aN l).2.1::(bD (aN l).2.2).1,(aN l).2.1.length+8+(bD (aN l).2.2).2.1,(bD (aN l).2.2).2.2):=by
 unfold bD
 obtain ⟨n,hn⟩:∃ n,l.length=n+1:=⟨l.length-1,by have:=List.length_pos_iff.2 h0;omega⟩
 have:=(pE hk).2.1
 conv=>lhs;rw [hn,fI,if_neg h0,if_pos hk]
 rw [aaK n (aN l).2.2.length _ (by omega) (Nat.le_refl _)]
def nD (l:List UInt8) (ms:List (List UInt8)) (u:Nat):Prop:=u≤l.length∧bD l=(ms++(bD (l.drop u)).1,u+(bD (l.drop u)).2.1,(bD (l.drop u)).2.2)
theorem aaI (l:List UInt8):nD l [] 0:=⟨Nat.zero_le _,by simp⟩
theorem aaE {l:List UInt8} {ms:List (List UInt8)} {u:Nat} (h:nD l ms u) (hu:u=l.length):bD l=(ms,u,0):=by
 rw [h.2,List.drop_of_length_le (by omega),all_none]
 simp
theorem abu {l:List UInt8} {u:Nat} (h:u<l.length):l.drop u≠[]:=by
 intro e
 have:=congrArg List.length e
 rw [List.length_drop,List.length_nil] at this
 omega
theorem aaH {l:List UInt8} {ms:List (List UInt8)} {u:Nat} (h:nD l ms u) (hu:u<l.length) (hk:(aN (l.drop u)).1≠0):bD l=(ms,u,(aN (l.drop u)).1):=by
 rw [h.2,aaQ (abu hu) hk]
 simp
theorem aaG {l:List UInt8} {ms:List (List UInt8)} {u:Nat} (h:nD l ms u) (hu:u<l.length) (hk:(aN (l.drop u)).1=0) :
  u < l.length-(aN (l.drop u)).2.2.length∧(aN (l.drop u)).2.2=l.drop (l.length-(aN (l.drop u)).2.2.length)∧nD l (ms++[(aN (l.drop u)).2.1]) (l.length-(aN (l.drop u)).2.2.length):=by
 obtain ⟨h1,h2,h3⟩:=pE hk
 rw [List.length_drop] at h2
 have e:l.length-(aN (l.drop u)).2.2.length=u+((aN (l.drop u)).2.1.length+8):=by omega
 rw [List.drop_drop] at h3
 refine ⟨by omega,by rw [e];exact h3,by omega,?_⟩
 rw [h.2,aaP (abu hu) hk,e,← h3]
 show (ms++(aN (l.drop u)).2.1::(bD (aN (l.drop u)).2.2).1,u+((aN (l.drop u)).2.1.length+8+(bD (aN (l.drop u)).2.2).2.1),_)=_
 rw [List.append_assoc,List.singleton_append,Nat.add_assoc,Nat.add_assoc,Nat.add_assoc]
theorem aaJ:∀ (f:Nat) (l:List UInt8),(fI f l).1.length≤l.length
 | 0,_=>Nat.zero_le _
 | f + 1,l=>by
   rw [fI]
   split
   ·exact Nat.zero_le _
   ·split
    ·rename_i hk
     have:=(pE hk).2.1
     have:=aaJ f (aN l).2.2
     rw [List.length_cons]
     omega
    ·exact Nat.zero_le _
theorem aaF {l:List UInt8} {ms:List (List UInt8)} {u:Nat} (h:nD l ms u):ms.length≤l.length:=by
 have h1:=aaJ l.length l
 have h2:(bD l).1.length=(ms++(bD (l.drop u)).1).length:=by rw [h.2]
 rw [List.length_append] at h2
 unfold bD at h2
 omega
def frames (ds:List (List UInt8)):List UInt8:=(ds.map framed).flatten
theorem abQ:frames []=[]:=rfl
theorem lU (d:List UInt8) (ds:List (List UInt8)):frames (d::ds)=framed d++frames ds:=rfl
theorem abP (a b:List (List UInt8)):frames (a++b)=frames a++frames b:=by simp [frames]
theorem abR (a:List (List UInt8)) (d:List UInt8):frames (a++[d])=frames a++framed d:=by rw [abP];simp [frames]
theorem xB (d r:List UInt8):framed d++r≠[]:=by
 intro h
 have:=congrArg List.length h
 rw [List.length_append,nO] at this
 simp at this
theorem qJ:∀ (ds:List (List UInt8)) (r:List UInt8),(∀ d∈ds,d.length≤8192) →
  bD (frames ds++r)=(ds++(bD r).1,(frames ds).length+(bD r).2.1,(bD r).2.2)
 | [],r,_=>by simp [frames]
 | d :: ds,r,h=>by
   have hd:d.length≤8192:=h d (by simp)
   have hc:=afu d (frames ds++r) hd
   have ih:=qJ ds r (fun x hx=>h x (by simp [hx]))
   rw [lU,List.append_assoc,aaP (xB _ _) (by rw [hc]),hc]
   show (d::(bD (frames ds++r)).1,d.length+8+(bD (frames ds++r)).2.1,(bD (frames ds++r)).2.2)=_
   rw [ih,List.length_append,nO]
   congr 2
   show d.length+8+((frames ds).length+(bD r).2.1)=4+d.length+4+(frames ds).length+(bD r).2.1
   omega
theorem aeC (ds:List (List UInt8)) (h:∀ d∈ds,d.length≤8192):bD (frames ds)=(ds,(frames ds).length,0):=by
 have:=qJ ds [] h
 rw [List.append_nil] at this
 rw [this,all_none]
 simp
theorem aaN (ds:List (List UInt8)) (d:List UInt8) (h:∀ d∈ds,d.length≤8192) (hd:d.length≤8192) (k:Nat) (h0:0<k) (hk:k<(framed d).length) :
  bD (frames ds++(framed d).take k)=(ds,(frames ds).length,3):=by
 have hc:=afv d hd k hk
 have hs:bD ((framed d).take k)=([],0,3):=by
  rw [aaQ (by intro e;have:=congrArg List.length e;rw [List.length_take,List.length_nil] at this;omega) (by rw [hc];decide),hc]
 rw [qJ ds _ h,hs]
 simp
end Go.Proofs.YtpcmlopbkehffaaGreat.Fm
namespace Go.Proofs.YtpcmlopbkehffaaGreat
open Fm
namespace Wl
def iD:Nat→Nat→List UInt8
 | 0,_=>[]
 | k+1,n=>iD k (n / 256)++[UInt8.ofNat n]
def aG (n:Nat):List UInt8:=iD 8 n
theorem xQ:∀ k n,(iD k n).length=k
 | 0,_=>rfl
 | k+1,n=>by rw [iD,List.length_append,xQ k];rfl
theorem jR (n:Nat):(aG n).length=8:=xQ 8 n
theorem xP:∀ k n,iD (k+1) n=UInt8.ofNat (n / 256 ^ k)::iD k n
 | 0,n=>by simp [iD]
 | k + 1,n=>by
   have h:=xP k (n / 256)
   rw [iD,h,List.cons_append,Nat.div_div_eq_div_mul,show 256*256 ^ k=256 ^ (k+1) by rw [Nat.pow_succ,Nat.mul_comm]]
   rw [show iD (k+1) n=iD k (n / 256)++[UInt8.ofNat n] from rfl]
def numOf (l:List UInt8):Nat:=l.foldl (fun a b=>a*256+b.toNat) 0
theorem acR (l:List UInt8) (b:UInt8):numOf (l++[b])=numOf l*256+b.toNat:=by unfold numOf;rw [List.foldl_append];rfl
theorem acQ:∀ k n,numOf (iD k n)=n % 256 ^ k
 | 0,n=>by rw [Nat.pow_zero,Nat.mod_one];rfl
 | k + 1,n=>by
   rw [iD,acR,acQ k,show (UInt8.ofNat n).toNat=n % 256 by simp]
   have h1:n % 256 ^ (k+1)=n % 256+256*(n / 256 % 256 ^ k):=by rw [Nat.pow_succ,Nat.mul_comm,Nat.mod_mul]
   rw [h1]
   omega
theorem mW {n:Nat} (h:n<18446744073709551616):numOf (aG n)=n:=by
 unfold aG
 rw [acQ]
 exact Nat.mod_eq_of_lt (by rw [show (256:Nat) ^ 8=18446744073709551616 from rfl];exact h)
theorem yA (l:List UInt8) {k:Nat} (hk:k<l.length):numOf (l.take (k+1))=numOf (l.take k)*256+l[k].toNat:=by
 rw [List.take_succ_eq_append_getElem hk,acR]
theorem yx (l:List UInt8):∀ k,k≤l.length→numOf (l.take k)<256 ^ k
 | 0,_=>by rw [List.take_zero];decide
 | k + 1,h=>by
   rw [yA l (by omega),Nat.pow_succ]
   have h1:=yx l k (by omega)
   have:=(l[k]'(by omega)).toNat_lt
   omega
def encW (first:Nat) (recs:List (List UInt8)):List UInt8:=frames (aG first::recs)
structure Parts where
 first:Nat
 recs:List (List UInt8)
 whole:Nat
def partsW (c:List UInt8):Parts :=
 match (bD c).1 with
 | []=>⟨0,[],(bD c).2.1⟩
 | h::t=>⟨numOf h,t,(bD c).2.1⟩
end Wl
end Go.Proofs.YtpcmlopbkehffaaGreat
namespace Go.Proofs.YtpcmlopbkehffaaGreat
open Go.RowKit Crc
theorem xG {k:IntKind} {a b:Int} (h:a=b):Value.int k a=Value.int k b:=by rw [h]
theorem ado {k:IntKind} {a b:Int} (h:a=b):Ending.returned (.int k a) = .returned (.int k b):=by rw [h]
theorem aeE {y:BitVec 32} (h:y.getLsbD 0=true):(bits .and .u32 (y.toNat:Int) 1==1)=true:=by rw [aa1,if_pos h];rfl
theorem aeD {y:BitVec 32} (h:y.getLsbD 0=false):(bits .and .u32 (y.toNat:Int) 1==1)=false:=by rw [aa1,if_neg (by rw [h];decide)];rfl
set_option maxHeartbeats 400000 in
theorem afK (x:BitVec 32) (w:World) :
  Calls Tryz.prog 185 #[.int .u32 x.toNat] w fun e w'=>e = .returned (.int .u32 (steps 8 x).toNat)∧w=w':=by
 go_enter Tryz.func185,Tryz.ntmps185
 go_wp2
 go_loop [0,3,4] (fun a _ i=>∃ k:Nat,k≤8∧i = .int .i64 k∧a = .int .u32 (steps k x).toNat) (fun _ _ i=>8-(intOf i).toNat)
 case atStart=>exact ⟨0,by omega,rfl,rfl⟩
 case round =>
  obtain ⟨k,hk,rfl,rfl⟩:=hrel
  by_cases hlt:k<8
  ·cases hb:(steps k x).getLsbD 0
   ·have h1:=aeD hb
    have H:Hid (Crc.step (steps k x)=steps k x >>> 1):=alm _ hb
    clear hb
    go_wp2
    go_round
    case rel=>exact ⟨k+1,by omega,by go_num,by rw [steps,H.out,half]⟩
    case measure=>simp [intOf];omega
   ·have h1:=aeE hb
    have H:Hid (Crc.step (steps k x)=steps k x >>> 1 ^^^ poly):=aln _ hb
    clear hb
    go_wp2
    go_round
    case rel=>exact ⟨k+1,by omega,by go_num,by rw [steps,H.out,half,amj]⟩
    case measure=>simp [intOf];omega
  ·obtain rfl:k=8:=by omega
   go_wp2
   go_ret
   exact ⟨rfl,rfl⟩
theorem alx {α:Type} (l:List α) {k:Nat} (h:k<l.length):l.take (k+1)=l.take k++[l[k]]:=by
 rw [List.take_succ_eq_append_getElem h]
theorem aj1 (r:BitVec 32) (l:List UInt8) {k:Nat} (h:k<l.length):regs r (l.take (k+1))=steps 8 (feed (regs r (l.take k)) l[k]):=by
 rw [alx l h,aj0];rfl
set_option maxHeartbeats 400000 in
theorem ahk (s:BitVec 32) (A:Option Addr) (n c:Nat) (l:List UInt8) (w:World) (hA:Holds w A (bytes l)) (hn:l.length=n) (hc:n≤9223372036854775807) :
  Calls Tryz.prog 176 #[.int .u32 s.toNat,.slice A n c] w fun e w'=>e = .returned (.int .u32 (more s l).toNat)∧w=w':=by
 subst hn
 have hnot:=acL s
 go_enter Tryz.func176,Tryz.ntmps176
 go_wp2
 clear hnot
 go_loop [5,7,12] (fun r _ i=>∃ k:Nat,k≤l.length∧i = .int .i64 k∧r = .int .u32 (regs (inv s) (l.take k)).toNat) (fun _ _ i=>l.length-(intOf i).toNat)
 case atStart=>exact ⟨0,by omega,rfl,by simp [ajZ]⟩
 case round =>
  obtain ⟨k,hk,rfl,rfl⟩:=hrel
  by_cases hlt:k<l.length
  ·obtain ⟨b,off,rfl,hcell⟩:=hA.at_ hlt
   have hb:=ami (regs (inv s) (l.take k)) l[k]
   have H:=aj (aj1 (inv s) l hlt)
   go_wp2_with (go_at_call 185;refine (afK _ _).mono ?_;rintro e w' ⟨rfl,rfl⟩)
   go_round
   case rel=>exact ⟨k+1,by omega,by go_num,by rw [H.out]⟩
   case measure=>simp [intOf];omega
  ·obtain rfl:k=l.length:=by omega
   go_wp2
   go_ret
   refine ⟨ado ?_,rfl⟩
   rw [acL];rfl
set_option maxHeartbeats 400000 in
theorem adV (A:Option Addr) (n c:Nat) (l:List UInt8) (w:World) (hA:Holds w A (bytes l)) (hn:l.length=n) (hc:n≤9223372036854775807) :
  Calls Tryz.prog 157 #[.slice A n c] w fun e w'=>e = .returned (.int .u32 (more 0#32 l).toNat)∧w=w':=by
 have h1:=aj (ahk 0 A n c l w hA hn hc)
 go_enter Tryz.func157,Tryz.ntmps157
 go_wp2_with (go_at_call 176;refine h1.out.mono ?_;rintro e w' ⟨rfl,rfl⟩)
 go_ret
 exact ⟨rfl,rfl⟩
end Go.Proofs.YtpcmlopbkehffaaGreat
namespace Go.Proofs.YtpcmlopbkehffaaGreat.Fm
open Go.RowKit Crc Fm
theorem ag4 (x:BitVec 32):(x.toNat:Int) % (256:Int)=((low x).toNat:Int):=by rw [acn];omega
theorem shr8 (x:BitVec 32):(x.toNat:Int) / (256:Int)=((x >>> 8).toNat:Int):=by rw [adK];omega
def left (x:BitVec 32):Nat→BitVec 32
 | 0=>x
 | k+1=>left x k >>> 8
theorem amb (x:BitVec 32) {k:Nat} (h:k<4):(word x).take (k+1)=(word x).take k++[low (left x k)]:=by
 match k,h with
 | 0,_ | 1,_ | 2,_ | 3,_=>rfl
set_option maxHeartbeats 400000 in
theorem ac7 (B:Nat) (A:Option Addr) (n c:Nat) (l:List UInt8) (x:BitVec 32) (w:World) (hown:Own B w A n c l) (hB:B≤w.heap.size) (hn:n≤140737488355000) :
  Calls Tryz.prog 156 #[.slice A n c,.int .u32 x.toNat] w fun e w'=>∃ A' c',e = .returned (.slice A' (n+4) c')∧Own B w' A' (n+4) c' (l++word x)∧Below B w w':=by
 go_enter Tryz.func156,Tryz.ntmps156
 go_wp2
 go_loopw [0,1,5] (fun s y i wr=>∃ k A' c',k≤4∧i = .int .i64 (k:Nat)∧s = .slice A' (n+k) c'∧y = .int .u32 (left x k).toNat∧Own B wr A' (n+k) c' (l++(word x).take k)∧Below B w wr) (fun _ _ i _=>4-(intOf i).toNat)
 case atStart=>exact ⟨0,A,c,by omega,rfl,rfl,rfl,by simpa using hown,Below.refl _ _⟩
 case round =>
  obtain ⟨k,A',c',hk,rfl,rfl,rfl,ho,hb⟩:=hrel
  by_cases hlt:k<4
  ·have Ho:=aj ho
   have Hb:=aj hb
   clear ho hb
   have Hl:=aj (fun W:World=>mZ W [low (left x k)] #[.int .u8 ((left x k).toNat % (256:Int))] (by rw [ag4];rfl) 1 rfl (by omega) B)
   have Hw:=aj (amb x hlt)
   have Hr:=aj (show n+k+1≤140737488355328 by omega)
   have hbw:=Hb.out.size
   have Hh:=aj (show left x (k+1)=left x k >>> 8 from rfl)
   go_wp2_with (at_builtin;refine lH rfl (.tmp 7) (.tmp 10) rfl B A' (n+k) c' _ rfl (Ho.out.alloc _) (some ⟨wr.heap.size,0,none⟩) 1 1 [low (left x k)] rfl (Hl.out wr (by omega)).sl (n+k+1) _ rfl rfl Hr.out (by simp;omega) ?_;intro A2 c2 w2 ho2 hb2)
   go_roundw
   case rel=>exact ⟨k+1,A2,c2,by omega,by go_num,by rw [Nat.add_assoc],by rw [Hh.out,shr8],by rw [List.append_assoc,← Hw.out] at ho2;exact ho2,Hb.out.trans (((Below.refl _ _).alloc (by omega) _).trans hb2)⟩
   case measure=>simp [intOf];omega
  ·obtain rfl:k=4:=by omega
   have Ho:=aj ho
   have Hb:=aj hb
   clear ho hb
   go_wp2
   go_ret
   exact ⟨A',c',rfl,Ho.out,Hb.out⟩
def jD (l:List UInt8):Nat→Nat
 | 0=>0
 | k+1=>jD l k+(l.getD k 0).toNat*2 ^ (8*k)
theorem acM (l:List UInt8) (k:Nat) (h:k≤4):jD l k<2 ^ (8*k):=by
 have h0:=UInt8.toNat_lt (l.getD 0 0);have h1:=UInt8.toNat_lt (l.getD 1 0);have h2:=UInt8.toNat_lt (l.getD 2 0);have h3:=UInt8.toNat_lt (l.getD 3 0)
 match k,h with
 | 0,_=>simp [jD]
 | 1,_=>simp only [jD];omega
 | 2,_=>simp only [jD];omega
 | 3,_=>simp only [jD];omega
 | 4,_=>simp only [jD];omega
theorem ahE {l:List UInt8} (h:4≤l.length):jD l 4=aR l:=by
 match l,h with
 | a :: b::c::d::t,_ =>
   simp [jD,aR]
   omega
theorem pow8 {k:Nat} (h:k<4):(2:Nat) ^ (8*k)≤16777216 :=
 Nat.le_trans (Nat.pow_le_pow_right (by omega) (show 8*k≤24 by omega)) (Nat.le_refl _)
theorem ahI (l:List UInt8) {k:Nat} (h:k<4) (hk:k<l.length) :
  bits .or .u32 (jD l k:Nat) ((l[k].toNat:Int) % (4294967296:Int)*(2:Int) ^ (8*k) % (4294967296:Int))=(jD l (k+1):Nat):=by
 have h1:=acM l k (by omega)
 have hc:=UInt8.toNat_lt l[k]
 have hp:=pow8 h
 have hm:l[k].toNat*2 ^ (8*k)<4294967296 :=
  Nat.lt_of_le_of_lt (Nat.mul_le_mul_left _ hp) (by omega)
 have e:(l[k].toNat:Int) % (4294967296:Int)*(2:Int) ^ (8*k) % (4294967296:Int)=((l[k].toNat*2 ^ (8*k):Nat):Int):=by
  rw [show (l[k].toNat:Int) % (4294967296:Int)=(l[k].toNat:Int) from by omega,show (2:Int) ^ (8*k)=((2 ^ (8*k):Nat):Int) from by rw [Int.natCast_pow];rfl,← Int.natCast_mul]
  omega
 have hn:jD l k<4294967296:=by omega
 rw [e,u32_or_nat _ _ hn hm,Nat.or_comm,nat_join (8*k) _ _ (Nat.mul_mod_left _ _) h1,jD,Nat.add_comm]
 congr 4
 simp [hk]
set_option maxHeartbeats 400000 in
theorem ad8 (A:Option Addr) (n c:Nat) (l:List UInt8) (w:World) (hs:Sl w A n c l) (h4:4≤n) :
  Calls Tryz.prog 181 #[.slice A n c] w fun e w'=>e = .returned (.int .u32 (aR l:Nat))∧w=w':=by
 have hle:=hs.le
 go_enter Tryz.func181,Tryz.ntmps181
 go_wp2
 go_loop [3,4,5] (fun s _ i=>∃ k:Nat,k≤4∧i = .int .i64 (k:Nat)∧s = .int .u32 (jD l k:Nat)) (fun _ _ i=>4-(intOf i).toNat)
 case atStart=>exact ⟨0,by omega,rfl,rfl⟩
 case round =>
  obtain ⟨k,hk,rfl,rfl⟩:=hrel
  by_cases hlt:k<4
  ·have hkl:k<l.length:=by rw [hs.len];omega
   obtain ⟨b,off,rfl,hcell⟩:=hs.holds.at_ hkl
   have hnk:=acM l k (by omega)
   have hkn:k<n:=by omega
   go_wp2
   go_round
   case rel=>exact ⟨k+1,by omega,by go_num,xG (ahI l hlt hkl)⟩
   case measure=>simp [intOf];omega
  ·obtain rfl:k=4:=by omega
   have Hn:=aj (ahE (l:=l) (by rw [hs.len];exact h4))
   go_wp2
   go_ret
   exact ⟨ado (by rw [Hn.out]),rfl⟩
theorem ai8 (B:Nat) (A:Option Addr) (n c:Nat) (l:List UInt8) (x:BitVec 32) (v:Int) (w:World) (hv:v=(x.toNat:Int)) (hown:Own B w A n c l) (hB:B≤w.heap.size) (hn:n≤140737488355000) :
  Calls Tryz.prog 156 #[.slice A n c,.int .u32 v] w fun e w'=>∃ A' c',e = .returned (.slice A' (n+4) c')∧Own B w' A' (n+4) c' (l++word x)∧Below B w w':=by
 subst hv
 exact ac7 B A n c l x w hown hB hn
def vK (w:World) (l:List UInt8) (e:Ending) (w':World):Prop :=
 ∃ A1 n1 c1 A2 n2 c2,e = .returned (.tuple #[.slice A1 n1 c1,.slice A2 n2 c2,.int .i64 (aN l).1])∧Sl w' A1 n1 c1 (aN l).2.1∧Sl w' A2 n2 c2 (aN l).2.2∧Below w.heap.size w w'
theorem ug {w w':World} {l:List UInt8} {k:Int} (h:aN l=(k,[],[])) (hb:Below w.heap.size w w') :
  vK w l (.returned (.tuple #[.slice none 0 0,.slice none 0 0,.int .i64 k])) w' :=
 ⟨none,0,0,none,0,0,by rw [h],by rw [h];exact Sl.none _,by rw [h];exact Sl.none _,hb⟩
theorem afs {w w':World} {l d r:List UInt8} {A1 A2:Option Addr} {n1 c1 n2 c2:Nat} (h:aN l=(0,d,r)) (h1:Sl w' A1 n1 c1 d) (h2:Sl w' A2 n2 c2 r) (hb:Below w.heap.size w w') :
  vK w l (.returned (.tuple #[.slice A1 n1 c1,.slice A2 n2 c2,.int .i64 0])) w' :=
 ⟨A1,n1,c1,A2,n2,c2,by rw [h],by rw [h];exact h1,by rw [h];exact h2,hb⟩
set_option maxHeartbeats 1000000 in
theorem pY (A:Option Addr) (n c:Nat) (l:List UInt8) (w:World) (hs:Sl w A n c l) :
  Calls Tryz.prog 168 #[.slice A n c] w (vK w l):=by
 have hle:=hs.le
 have hcm:=hs.max
 have hnc:=hs.cap
 have Hs:=aj hs
 have Hlen:=aj hs.len
 clear hs
 by_cases h4:n<4
 ·have Hc:=aj (wU (l:=l) (by rw [Hlen.out];exact h4))
  go_enter Tryz.func168,Tryz.ntmps168
  go_wp2
  go_ret3
  exact ug Hc.out (Below.refl _ _)
 have hN:=acO l
 have Hw:=aj (fun W (h:Sl W A n c l)=>ad8 A n c l W h (by omega))
 have Hl4:=aj (show ¬ l.length<4 by rw [Hlen.out];exact h4)
 by_cases hbig:8192<aR l
 ·have Hc:=aj (abo Hl4.out hbig)
  go_enter Tryz.func168,Tryz.ntmps168
  go_wp2_with (go_at_call 181;refine (Hw.out _ Hs.out).mono ?_;rintro e w' ⟨rfl,rfl⟩)
  go_ret3
  exact ug Hc.out (Below.refl _ _)
 by_cases hsh:n<4+aR l+4
 ·have Hc:=aj (wT Hl4.out hbig (by rw [Hlen.out];exact hsh))
  go_enter Tryz.func168,Tryz.ntmps168
  go_wp2_with (go_at_call 181;refine (Hw.out _ Hs.out).mono ?_;rintro e w' ⟨rfl,rfl⟩)
  go_ret3
  exact ug Hc.out (Below.refl _ _)
 have hup:=Hs.out.upto (4+aR l) (by omega)
 have hfr:=Hs.out.from_ (4+aR l) (by omega)
 have hcut:cutAt A c (4+aR l)=A.map fun x=>x.add (4+aR l):=if_neg (by omega)
 rw [hcut] at hfr
 have Hsum:=aj (fun k=>adV A (4+aR l) c (l.take (4+aR l)) (w.drewN k) (hup.drew k).holds hup.len (by omega))
 have Hnum:=aj (fun k=>ad8 _ (n-(4+aR l)) (c-(4+aR l)) (l.drop (4+aR l)) (w.drewN k) (hfr.drew k) (by omega))
 have hN2:=acO (l.drop (4+aR l))
 have hM2:=(more 0#32 (l.take (4+aR l))).isLt
 by_cases hsum:(more 0#32 (l.take (4+aR l))).toNat=aR (l.drop (4+aR l))
 ·have Hd:=aj ((hup.tight (4+aR l) (by omega) (by omega)).from_ 4 (by omega))
  have Hr:=aj (Hs.out.from_ (4+aR l+4) (by omega))
  have Hc:=aj (wV Hl4.out hbig (by rw [Hlen.out];exact hsh) hsum)
  have hb:(((more 0#32 (l.take (4+aR l))).toNat:Int) != (aR (l.drop (4+aR l)):Int))=false:=by rw [hsum];simp
  clear hsum hup hfr hcut
  go_enter Tryz.func168,Tryz.ntmps168
  go_wp2_with (go_at_call 181;refine (Hw.out _ Hs.out).mono ?_;rintro e w' ⟨rfl,rfl⟩)
  go_quiet ((first | (go_at_call 157;exact Calls.quiet_of_same (uQ (Hsum.out _))) | (go_at_call 181;exact Calls.quiet_of_same (uQ (Hnum.out _)))))
  clear Hw Hsum Hnum hN2 hM2
  go_wp2_with fail
  go_quiet (fail)
  go_wp2_with fail
  all_goals
   go_ret3
   refine afs Hc.out (Sl.drew (Hd.out.at_ (by first | exact abk (by omega) | exact abj (by omega) (by omega) (by omega)) (by omega) (by omega) rfl) _) (Sl.drew (Hr.out.at_ (by first | exact abk (by omega) | exact abj (by omega) (by omega) (by omega)) (by omega) (by omega) rfl) _) (below_drewN (Below.refl _ _) _)
 ·have Hc:=aj (abm Hl4.out hbig (by rw [Hlen.out];exact hsh) hsum)
  have hb:(((more 0#32 (l.take (4+aR l))).toNat:Int) != (aR (l.drop (4+aR l)):Int))=true:=by rw [bne_iff_ne];omega
  clear hsum hup hfr hcut
  go_enter Tryz.func168,Tryz.ntmps168
  go_wp2_with (go_at_call 181;refine (Hw.out _ Hs.out).mono ?_;rintro e w' ⟨rfl,rfl⟩)
  go_quiet ((first | (go_at_call 157;exact Calls.quiet_of_same (uQ (Hsum.out _))) | (go_at_call 181;exact Calls.quiet_of_same (uQ (Hnum.out _)))))
  clear Hw Hsum Hnum hN2 hM2
  go_wp2_with fail
  go_ret3
  exact ug Hc.out (below_drewN (Below.refl _ _) _)
def aas (w:World) (n:Nat) (l:List UInt8) (e:Ending) (w':World):Prop:=∃ A c,e = .returned (.slice A n c)∧Own w.heap.size w' A n c l∧Below w.heap.size w w'
set_option maxHeartbeats 400000 in
theorem tZ (A:Option Addr) (n c:Nat) (l:List UInt8) (w:World) (hs:Sl w A n c l) (hn:n≤140737488355328) :
  Calls Tryz.prog 60 #[.slice A n c] w (aas w n l):=by
 have kn:=fun (w:World) (a:Option Addr) (n c:Nat)=>Lib.run_eql_slice_nil (P:=Tryz.prog) w 109 5 a n c 0 0 Tryz.underlying109
 rcases A with _ | ad
 ·have hc:=hs.nil rfl
  have hn':=hs.cap
  obtain rfl:c=0:=hc
  obtain rfl:n=0:=by omega
  have hl:l=[]:=List.eq_nil_of_length_eq_zero hs.len
  subst hl
  go_enter Tryz.func60,Tryz.ntmps60
  go_wp2_with fail
  go_ret
  exact ⟨none,0,rfl,Own.none _ _,Below.refl _ _⟩
 ·have Hs:=aj hs
  clear hs
  have Hl:=aj (mZ w [] #[] rfl 0 rfl (by omega) w.heap.size (Nat.le_refl _))
  go_enter Tryz.func60,Tryz.ntmps60
  go_wp2_with (at_builtin;refine lH rfl (.tmp 5) (.tmp 6) rfl w.heap.size _ 0 0 [] rfl Hl.out _ n c l rfl (Hs.out.below ((Below.refl _ _).alloc (Nat.le_refl _) _)) n l (by omega) rfl hn (by simp) ?_;intro A2 c2 w2 ho2 hb2)
  go_ret
  exact ⟨A2,c2,rfl,ho2,((Below.refl _ _).alloc (Nat.le_refl _) _).trans hb2⟩
def qG (w:World) (n:Nat) (l:List UInt8) (e:Ending) (w':World):Prop:=∃ A c,e = .returned (.tuple #[.slice A n c,.int .i64 0])∧Own w.heap.size w' A n c l∧Below w.heap.size w w'
theorem ai5 {w w':World} {A:Option Addr} {n c:Nat} {l:List UInt8} (h:Own w.heap.size w' A n c l) (hb:Below w.heap.size w w'):qG w n l (.returned (.tuple #[.slice A n c,.int .i64 0])) w':=⟨A,c,rfl,h,hb⟩
theorem abO {w:World} {A:Option Addr} {n0 n1 c:Nat} {l0 m l1:List UInt8} (h:Sl w A (n0+4+n1) c (l0++m++l1)) (hl:l0.length=n0) (hne:¬ c=n0) :
  Sl w (A.map fun x=>x.add n0) (n0+4+n1-n0) (c-n0) (m++l1):=by
 have h1:=h.from_ n0 (by omega)
 rw [uf hne,List.append_assoc,← hl,List.drop_left] at h1
 rw [hl] at h1
 exact h1
set_option maxHeartbeats 1000000 in
theorem ac8 (A0 A1:Option Addr) (n0 c0 n1 c1:Nat) (l0 l1:List UInt8) (w:World) (h0:Sl w A0 n0 c0 l0) (h1:Sl w A1 n1 c1 l1) (hn:n1≤8192) (hm:n0≤140737488000000) :
  Calls Tryz.prog 133 #[.slice A0 n0 c0,.slice A1 n1 c1] w (qG w (n0+4+n1+4) (l0++framed l1)):=by
 have H0:=aj h0
 have H1:=aj h1
 have Hlen:=aj h1.len
 have Hlen0:=aj h0.len
 clear h0 h1
 go_enter Tryz.func133,Tryz.ntmps133
 have Hx:=aj (show (n1:Int)=((BitVec.ofNat 32 n1).toNat:Int) by rw [BitVec.toNat_ofNat];omega)
 go_wp2_with (first
  | (at_make;(with_reducible refine ad9 rfl _ _ rfl _ (n0+4+n1+4) rfl rfl (by omega) (by omega) ?_);intro B1 d1 w1 ho' hb';have Ho1:=aj ho';have Hb1:=aj hb';clear ho' hb')
  | (at_builtin;refine lH rfl (.tmp 18) (.tmp 19) rfl w.heap.size _ 0 _ [] rfl Ho1.out _ n0 c0 l0 rfl (H0.out.below Hb1.out) n0 l0 (by omega) rfl (by omega) Hb1.out.size ?_;intro B2 d2 w2 ho' hb';have Ho2:=aj ho';have Hb2:=aj (Hb1.out.trans hb');clear ho' hb')
  | (go_at_call 156;(with_reducible refine Calls.mono (ai8 w.heap.size B2 n0 d2 l0 (BitVec.ofNat 32 n1) _ w2 Hx.out Ho2.out Hb2.out.size (by omega)) ?_);rintro e w3 ⟨B3,d3,rfl,ho',hb'⟩;have Ho3:=aj ho';have Hb3:=aj (Hb2.out.trans hb');clear ho' hb')
  | (at_builtin;refine lH rfl (.tmp 26) (.tmp 27) rfl w.heap.size _ (n0+4) _ _ rfl Ho3.out _ n1 c1 l1 rfl (H1.out.below Hb3.out) (n0+4+n1) _ rfl rfl (by omega) Hb3.out.size ?_;intro B4 d4 w4 ho' hb';have Ho4:=aj ho';have Hb4:=aj (Hb3.out.trans hb');have hne:¬ d4=n0:=(by have:=Ho4.out.sl.cap;omega);clear ho' hb')
  | (go_at_call 157;(with_reducible refine Calls.mono (adV _ _ _ (word (BitVec.ofNat 32 n1)++l1) w4 (abO Ho4.out.sl Hlen0.out hne).holds (abO Ho4.out.sl Hlen0.out hne).len (by omega)) ?_);rintro e w' ⟨rfl,rfl⟩)
  | (go_at_call 156;(with_reducible refine Calls.mono (ac7 w.heap.size B4 (n0+4+n1) d4 _ _ w4 Ho4.out Hb4.out.size (by omega)) ?_);rintro e w5 ⟨B5,d5,rfl,ho',hb'⟩;have Ho5:=aj ho';have Hb5:=aj (Hb4.out.trans hb');clear ho' hb'))
 go_ret2
 refine ai5 (Ho5.out.at_ rfl ?_) Hb5.out
 rw [framed,Hlen.out]
 simp only [List.append_assoc]
theorem ada (A1:Option Addr) (n1 c1:Nat) (l1:List UInt8) (w:World) (h1:Sl w A1 n1 c1 l1) (hn:n1≤8192) :
  Calls Tryz.prog 133 #[.slice none 0 0,.slice A1 n1 c1] w (qG w (n1+8) (framed l1)):=by
 have h:=ac8 none A1 0 0 n1 c1 [] l1 w (Sl.none _) h1 hn (by omega)
 rw [List.nil_append,show 0+4+n1+4=n1+8 by omega] at h
 exact h
def oW (w:World) (l:List UInt8) (e:Ending) (w':World):Prop :=
 ∃ A n c,e = .returned (.tuple #[.slice A n c,.int .i64 ((bD l).2.1:Nat),.int .i64 (bD l).2.2])∧Sls w' A n c (bD l).1∧Below w.heap.size w w'
theorem aaM {w w':World} {l:List UInt8} {ms:List (List UInt8)} {u:Nat} {k:Int} {A:Option Addr} {n c:Nat} (h:bD l=(ms,u,k)) (hs:Sls w' A n c ms) (hb:Below w.heap.size w w') :
  oW w l (.returned (.tuple #[.slice A n c,.int .i64 (u:Nat),.int .i64 k])) w':=⟨A,n,c,by rw [h],by rw [h];exact hs,hb⟩
set_option maxHeartbeats 1000000 in
theorem vY (A:Option Addr) (n c:Nat) (l:List UInt8) (w:World) (hs:Sl w A n c l) (hn:n≤5864062014800) :
  Calls Tryz.prog 143 #[.slice A n c] w (oW w l):=by
 have Hs:=aj hs
 have Hlen:=aj hs.len
 have hcap:=hs.cap
 have hmax:=hs.max
 clear hs
 go_enter Tryz.func143,Tryz.ntmps143
 go_wp2
 go_loopw [2,3,5,6,7] (fun s ui _ _ _ wr=>∃ u A' c' ms,ui = .int .i64 (u:Nat)∧s = .slice A' (ms:List (List UInt8)).length c'∧gU w.heap.size wr A' ms.length c' ms∧nD l ms u∧Below w.heap.size w wr) (fun _ ui _ _ _ _=>n-(intOf ui).toNat)
 case atStart=>exact ⟨0,none,0,[],rfl,rfl,gU.none _ _,aaI l,Below.refl _ _⟩
 case round =>
  obtain ⟨u,A',c',ms,rfl,rfl,ho,hat,hb⟩:=hrel
  have hun:u≤n:=by have:=hat.1;have:=Hlen.out;omega
  have Ho:=aj ho
  have Hat:=aj hat
  have Hb:=aj hb
  clear ho hat hb
  by_cases hlt:u<n
  ·have hcu:¬ c=u:=by omega
   have hfr:=(Hs.out.below Hb.out).from_ u hun
   rw [uf hcu] at hfr
   have Hp:=aj (pY _ _ _ _ wr hfr)
   have Hle:=aj (abn (l.drop u))
   have Hdl:=aj hfr.len
   have Hmp:=aj (aaF Hat.out)
   clear hfr
   by_cases hk:(aN (l.drop u)).1=0
   ·have Hst:=aj (aaG Hat.out (by rw [Hlen.out];exact hlt) hk)
    go_wp2_with fail
    refine Hp.out.mono ?_
    rintro e w1 ⟨A1,n1,c1,A2,n2,c2,rfl,hs1,hs2,hb1⟩
    rw [hk]
    have Hk:=aj hk
    have Hcl:=aj (tZ A1 n1 c1 _ w1 hs1 (by have:=hs1.len;have:=Hle.out.1;have:=Hdl.out;omega))
    have Ho1:=aj (Ho.out.later hb1)
    have Hb1:=aj (Below.trans Hb.out (hb1.mono Hb.out.size))
    have Hn2:=aj (show (aN (l.drop u)).2.2.length=n2 from hs2.len)
    have hn2:n2≤n:=by have:=hs2.len;have:=Hle.out.2;have:=Hdl.out;omega
    clear hs1 hs2 hb1 hk
    go_wp2_with (first
     | (go_at_call 60;(with_reducible refine Calls.mono Hcl.out ?_);rintro e w2 ⟨A3,c3,rfl,ho',hb'⟩;have Ho3:=aj ho';have Ho2:=aj (Ho1.out.later hb');have Hb2:=aj (Hb1.out.trans (hb'.mono Hb1.out.size));have Hsz:=aj (fun k hk=>Nat.lt_of_lt_of_le (Ho1.out.from_ k hk).2 (Nat.le_refl _));clear ho' hb')
     | (at_builtin;refine aea rfl (.tmp 25) (.tmp 28) rfl w.heap.size A' ms.length c' ms rfl (Ho2.out.later ((Below.refl _ _).alloc (Nat.le_refl _) _)) _ 1 1 [(aN (l.drop u)).2.1] rfl (acW _ Ho3.out.sl (Ho3.out.away _ Hsz.out)) (ms.length+1) _ rfl rfl (by have:=Hmp.out;have:=Hlen.out;omega) (by have:=Hb2.out.size;simp;omega) ?_;intro A4 c4 w4 ho' hb' hg';have Ho4:=aj ho';have Hb4:=aj ((Hb2.out.alloc Hb2.out.size _).trans hb');clear ho' hb' hg'))
    go_roundw
    case rel =>
     refine ⟨n-n2,A4,c4,ms++[(aN (l.drop u)).2.1],?_,?_,?_,?_,Hb4.out⟩
     ·exact xG (by omega)
     ·rw [List.length_append];rfl
     ·rw [List.length_append];exact Ho4.out
     ·have h:=Hst.out.2.2
      rw [Hn2.out,Hlen.out] at h
      exact h
    case measure =>
     have h:=Hst.out.1
     rw [Hn2.out,Hlen.out] at h
     simp [intOf]
     omega
   ·have Hst:=aj (aaH Hat.out (by rw [Hlen.out];exact hlt) hk)
    generalize hK:(aN (l.drop u)).1=K at hk Hst
    have HK:=aj hK
    have hkb:(K != 0)=true:=by rw [bne_iff_ne];exact hk
    clear hK hk
    go_wp2_with fail
    refine Hp.out.mono ?_
    rintro e w1 ⟨A1,n1,c1,A2,n2,c2,rfl,hs1,hs2,hb1⟩
    rw [HK.out]
    have Ho1:=aj (Ho.out.later hb1)
    have Hb1:=aj (Below.trans Hb.out (hb1.mono Hb.out.size))
    clear hs1 hs2 hb1
    go_wp2_with fail
    go_ret3
    exact aaM Hst.out Ho1.out.sls Hb1.out
  ·have Hu:=aj (show u=n by omega)
   have Hend:=aj (aaE Hat.out (by rw [Hlen.out];omega))
   go_wp2
   go_ret3
   exact aaM Hend.out Ho.out.sls Hb.out
end Go.Proofs.YtpcmlopbkehffaaGreat.Fm
namespace Go.Proofs.YtpcmlopbkehffaaGreat
open Go.RowKit Fm
namespace Wl
theorem ag7:(madeCells (Value.int IntKind.u8 0).cells (Int.toNat 8*1)).toList=bytes (List.replicate 8 0):=by
 simp [madeCells,Value.cells,bytes,byte,Array.range,List.replicate]
theorem amc {w:World} {ops:Array Oper} {rest:List Oper} {o:Oper} {a:Act} {Q:Exit→Act→World→Prop} (hg:o.guard = .none) (l c:Operand)
  (ho:o.op=Op.makeSlice 109 l c) (hl:a.eval l = .int .i64 8) (hc:a.eval c = .int .i64 8)
  (h:∀ w',Own w.heap.size w' (some ⟨w.heap.size,0,none⟩) 8 8 (List.replicate 8 0)→Below w.heap.size w w'→wpList Tryz.prog ops Q rest (a.put o.dst (.slice (some ⟨w.heap.size,0,none⟩) 8 8)) w') :
  wpList Tryz.prog ops Q (o::rest) a w:=by
 obtain ⟨i0,hi0,hz0,hz1,hz2⟩:=info_parts uz
 refine wpList_plain hg fun K hK=>?_
 have hr:=run_make (P:=Tryz.prog) w 109 5 i0 _ Tryz.underlying109 hi0 hz0 .i64 .i64 8 8 (by decide) (by decide) (by rw [hz2];decide) (by decide)
 unfold Oper.wp execOp
 simp only [ho,hl,hc,Sem.run_bind,Sem.run_pure,Result.andThen_ok,hr]
 refine hK _ _ (h _ ?_ ((Below.refl _ _).alloc (Nat.le_refl _) _))
 rw [hz1]
 exact mZ w (List.replicate 8 0) (madeCells (Value.int IntKind.u8 0).cells (Int.toNat 8*1)) ag7 8 rfl (by decide) _ (Nat.le_refl _)
theorem agd (n:Nat) {i:Nat} (hi:i<8):(List.replicate (8-i) (0:UInt8)++iD i n).set (7-i) (UInt8.ofNat (n / 256 ^ i))=List.replicate (8-(i+1)) 0++iD (i+1) n:=by
 rw [xP,show 8-i=(7-i)+1 by omega,show 8-(i+1)=7-i by omega,List.replicate_succ',List.append_assoc,List.set_append_right _ _ (by rw [List.length_replicate];exact Nat.le_refl _),List.length_replicate,Nat.sub_self]
 rfl
theorem agc (n:Nat) {i:Nat} (hi:i≤8):(List.replicate (8-i) (0:UInt8)++iD i n).length=8:=by
 rw [List.length_append,List.length_replicate,xQ]
 omega
theorem pow_div (n i:Nat):n / 256 ^ i / 256=n / 256 ^ (i+1):=by rw [Nat.div_div_eq_div_mul,Nat.pow_succ]
set_option maxHeartbeats 4000000 in
theorem abZ (n:Nat) (w:World) (hn:n<18446744073709551616):Calls Tryz.prog 134 #[.int .u64 (n:Nat)] w (aas w 8 (aG n)):=by
 have HN:=aj hn
 clear hn
 go_enter Tryz.func134,Tryz.ntmps134
 go_wp2_with (first | (at_make;(with_reducible refine amc rfl _ _ rfl rfl rfl ?_);intro w1 ho hb;have HO:=aj ho;have HB:=aj hb;clear ho hb) | fail)
 have hsz:=HB.out.size
 go_loopw [0,8] (fun vn vi wr=>∃ i:Nat,i≤8∧vi = .int .i64 (i:Nat)∧vn = .int .u64 ((n / 256 ^ i:Nat):Int)∧Hid (Own w.heap.size wr (some ⟨w.heap.size,0,none⟩) 8 8 (List.replicate (8-i) 0++iD i n))∧Hid (Below w.heap.size w wr)) (fun _ vi _=>8-(intOf vi).toNat)
 case atStart=>exact ⟨0,by omega,rfl,by simp,HO,HB⟩
 case round =>
  obtain ⟨i,hi,rfl,rfl,HO,HB⟩:=hrel
  by_cases hlt:i<8
  ·have hl:=agc n hi
   have hst:=Own.store HO.out (Nat.le_refl _) (7-i) (by omega) (UInt8.ofNat (n / 256 ^ i))
   have HT:=aj hst
   rw [agd n hlt] at HT
   have c1:=hst.1
   have f1:=hst.2.1
   have e1:(8:Int)-1-(i:Int)=((7-i:Nat):Int):=by omega
   have e1':(7:Int)-(i:Int)=((7-i:Nat):Int):=by omega
   have x1:(0:Int)≤((7-i:Nat):Int):=by omega
   have x2:((7-i:Nat):Int)<8:=by omega
   have hnx:=pow_div n i
   have hbt:(n / 256 ^ i) % 256=(UInt8.ofNat (n / 256 ^ i)).toNat:=by simp
   have HK:=aj hlt
   have hnn:n / 256 ^ i<18446744073709551616:=Nat.lt_of_le_of_lt (Nat.div_le_self _ _) HN.out
   generalize (List.replicate (8-i) (0:UInt8)++iD i n)[7-i]'(by omega)=old at *
   generalize n / 256 ^ i=m at *
   generalize UInt8.ofNat m=b at *
   have hbi:((m:Int) % 256)=(b.toNat:Int):=by omega
   have hmi:((m:Int) / 256)=((n / 256 ^ (i+1):Nat):Int):=by rw [← hnx];simp
   clear hst hl
   go_wp2_with fail
   exact ⟨⟨i+1,by have:=HK.out;omega,by go_num,by first | rfl | simp | rw [hmi],aj HT.out.2.2.1,aj (HB.out.trans HT.out.2.2.2)⟩,by have:=HK.out;simp [intOf];omega⟩
  ·obtain rfl:i=8:=by omega
   go_wp2_with fail
   go_ret
   exact ⟨_,8,rfl,HO.out,HB.out⟩
theorem qm {m:Nat} (b:UInt8) (h:m<256 ^ 7):bits BinOp.or IntKind.u64 (IntKind.u64.wrap ((m:Int)*256)) (IntKind.u64.wrap (b.toNat:Int))=((m*256+b.toNat:Nat):Int):=by
 have hb:=b.toNat_lt
 have h7:(256:Nat) ^ 7=72057594037927936:=rfl
 have e1:IntKind.u64.wrap ((m:Int)*256)=((m*256:Nat):Int):=by simp [IntKind.wrap,IntKind.bits,IntKind.signed];omega
 have e2:IntKind.u64.wrap (b.toNat:Int)=((b.toNat:Nat):Int):=by simp [IntKind.wrap,IntKind.bits,IntKind.signed];omega
 rw [e1,e2,u64_or_nat _ _ (by omega) (by omega),nat_join 8 _ _ (Nat.mul_mod_left _ _) (by omega)]
set_option maxHeartbeats 4000000 in
theorem ahJ (A:Option Addr) (c:Nat) (l:List UInt8) (w:World) (hs:Sl w A 8 c l) (hv:numOf l<9223372036854775808):Calls Tryz.prog 144 #[.slice A 8 c] w (fun e w'=>e = .returned (.tuple #[.int .u64 (numOf l:Nat),.int .i64 0])∧w=w'):=by
 have HL:=aj hs.len
 have HS:=aj hs
 have HV:=aj hv
 have HT:=aj (fun k hk=>yA l (k:=k) hk)
 have HLT:=aj (fun k hk=>yx l k hk)
 have HE:=aj (show numOf (l.take 8)=numOf l by rw [List.take_of_length_le (by rw [HL.out];exact Nat.le_refl _)])
 clear hs hv
 go_enter Tryz.func144,Tryz.ntmps144
 go_wp2_with fail
 go_loop [4,6,12] (fun vn _ vi=>∃ k:Nat,k≤8∧vi = .int .i64 (k:Nat)∧vn = .int .u64 ((numOf (l.take k):Nat):Int)) (fun _ _ vi=>8-(intOf vi).toNat)
 case atStart=>exact ⟨0,by omega,rfl,rfl⟩
 case round =>
  obtain ⟨k,hk,rfl,rfl⟩:=hrel
  by_cases hlt:k<8
  ·have hkl:k<l.length:=by rw [HL.out];exact hlt
   obtain ⟨b,off,rfl,hc⟩:=HS.out.holds.at_ hkl
   have hT:=HT.out k hkl
   have hLT:=HLT.out k (by omega)
   have hpw:(256:Nat) ^ k≤256 ^ 7:=Nat.pow_le_pow_right (by decide) (by omega)
   have hor:=qm (m:=numOf (l.take k)) l[k] (Nat.lt_of_lt_of_le hLT hpw)
   rw [← hT] at hor
   have HK:=aj hlt
   generalize l[k]=x at *
   generalize hm':numOf (l.take (k+1))=m' at *
   have HM:=aj hm'
   clear hm'
   generalize numOf (l.take k)=m at *
   clear hT hLT hpw hkl
   go_wp2_with fail
   go_round
   case rel=>exact ⟨k+1,by have:=HK.out;omega,by go_num,by rw [HM.out]⟩
   case measure=>have:=HK.out;simp [intOf];omega
  ·obtain rfl:k=8:=by omega
   rw [HE.out]
   have hv:=HV.out
   clear HE HT HLT
   generalize hm:numOf l=m at *
   have HM:=aj hm
   clear hm
   have e1:decide ((9223372036854775807:Int)<(m:Int))=false:=decide_eq_false (by omega)
   have e2:decide ((m:Int)>9223372036854775807)=false:=decide_eq_false (by omega)
   have e3:¬ (m:Int)>9223372036854775807:=by omega
   clear hv
   go_wp2_with fail
   go_ret2
   exact ⟨by rw [HM.out];rfl,rfl⟩
end Wl
end Go.Proofs.YtpcmlopbkehffaaGreat
