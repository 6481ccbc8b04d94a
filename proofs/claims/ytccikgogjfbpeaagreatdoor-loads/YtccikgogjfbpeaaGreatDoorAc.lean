import Derived.Test.YtccikgogjfbpeaaGreatDoorAa
open Nat renaming xor_assoc->I,mod_two_eq_zero_or_one->J,mul_assoc->P,xor_comm->S,pow_add->V
namespace Go.Proofs.YtccikgogjfbpeaaGreatDoor
set_option maxRecDepth 30000
set_option maxHeartbeats 8000000
def Pp:List UInt8->Nat
 |[]=>0
 |c::r=>c.toNat+256*Pp r
def t1 (r:Nat):Nat:=(r/2)^^^(if r % 2=1 then 3988292384 else 0)
def tn:Nat->Nat->Nat
 |0,r=>r
 |n+1,r=>tn n (t1 r)
theorem wK (a b):t1 (a^^^b)=t1 a^^^t1 b:=by
 unfold t1;have h:=Nat.xor_mod_two_pow (a:=a) (b:=b) (n:=1);simp only[Nat.pow_one]at h;rw[Nat.xor_div_two,h]
 have e:∀p q x y:Nat,(p^^^x)^^^(q^^^y)=(p^^^q)^^^(x^^^y):=fun p q x y=>by
  rw[I,<-I x,S x q,I q,<-I]
 rw[e]
 congr 1
 rcases J a with c|c<;>rcases J b with d|d<;>rw[c,d]<;>decide
theorem G7:∀(n a b:Nat),tn n (a^^^b)=tn n a^^^tn n b
 |0,_,_=>rfl
 |n+1,a,b=>by
  show tn n (t1 (a^^^b))=_
  rw[wK,G7 n];rfl
theorem G8:∀(m n r:Nat),tn (m+n) r=tn n (tn m r)
 |0,n,r=>by rw[Nat.zero_add];rfl
 |m+1,n,r=>by
  rw[show m+1+n=(m+n)+1 from by omega];exact G8 m n (t1 r)
theorem wL (q):t1 (2*q)=q:=by
 unfold t1;rw[Nat.mul_div_cancel_left q (by decide),if_neg (by omega),Nat.xor_zero]
theorem G9:∀(n q:Nat),tn n (2^n*q)=q
 |0,q=>by simp[tn]
 |n+1,q=>by
  show tn n (t1 (2^(n+1)*q))=q
  rw[show 2^(n+1)*q=2*(2^n*q)from by rw[Nat.pow_succ,Nat.mul_comm (2^n) 2,P],wL];exact G9 n q
theorem uc {r}(h:r<4294967296):t1 r<4294967296:=by
 unfold t1;exact Nat.xor_lt_two_pow (n:=32) (by omega) (by split<;>omega)
theorem ES:∀(n:Nat){r:Nat},r<4294967296->tn n r<4294967296
 |0,_,h=>h
 |n+1,_,h=>ES n (uc h)
theorem Ja {n a b}(h:b<2^n):b^^^2^n*a=b+2^n*a:=by
 apply Nat.eq_of_testBit_eq;intro i;rw[Nat.testBit_xor,Nat.add_comm b,Nat.testBit_two_pow_mul_add _ h,Nat.testBit_two_pow_mul];by_cases hi:i<n
 ·have:¬n<=i:=by omega
  simp[hi,this]
 have c:b<2^i:=nL h (Nat.pow_le_pow_right (by decide) (by omega))
 simp[hi,Nat.testBit_lt_two_pow c,show n<=i from by omega]
def BS:Nat->List UInt8->Nat
 |r,[]=>r
 |r,c::l=>BS (tn 8 (r^^^c.toNat)) l
theorem wM:∀(l:List UInt8)(r:Nat),BS r l=tn (8*l.length) (r^^^Pp l)
 |[],r=>by simp[BS,Pp,tn]
 |c::l,r=>by
  have a:=c.toNat_lt
  show BS (tn 8 (r^^^c.toNat)) l=_
  rw[wM l,show Pp (c::l)=c.toNat^^^2^8*Pp l from(Ja a).symm,<-I,show 8*(c::l).length=8+8*l.length from by simp;omega,G8,G7 8 (r^^^c.toNat),G9 8]
theorem ET:∀(l m:List UInt8),Pp (l++m)=Pp l+2^(8*l.length)*Pp m
 |[],m=>by simp[Pp]
 |c::l,m=>by
  show c.toNat+256*Pp (l++m)=(c.toNat+256*Pp l)+_
  rw[ET l m,Nat.mul_add,show 8*(c::l).length=8+8*l.length from by simp;omega,V,show(2:Nat)^8=256 from by decide,P,Nat.add_assoc]
theorem Ad:∀(l:List UInt8),Pp l<2^(8*l.length)
 |[]=>by simp[Pp]
 |c::l=>by
  have:=Ad l;have a:=c.toNat_lt
  show c.toNat+256*Pp l<_
  rw[show 8*(c::l).length=8+8*l.length from by simp;omega,V,show(2:Nat)^8=256 from by decide];omega
def No:List Nat:=[0,498536548,997073096,651767980,1994146192,1802195444,1303535960,1342533948,3988292384,4027552580,3604390888,3412177804,2607071920,2262029012,2685067896,3183342108]
theorem yF (r):tn 4 r=(r/16)^^^No.getD (r % 16) 0:=by
 have h:r % 16<2^4:=by omega
 have e:r=r % 16^^^2^4*(r/16):=by rw[Ja h];omega
 conv=>lhs;rw[e]
 rw[G7,G9,S]
 congr 1
 have:r % 16=0\/r % 16=1\/r % 16=2\/r % 16=3\/r % 16=4\/r % 16=5\/r % 16=6\/r % 16=7\/r % 16=8\/r % 16=9\/r % 16=10\/r % 16=11\/r % 16=12\/r % 16=13\/r % 16=14\/r % 16=15:=by omega
 rcases this with h|h|h|h|h|h|h|h|h|h|h|h|h|h|h|h<;>rw[h]<;>decide
