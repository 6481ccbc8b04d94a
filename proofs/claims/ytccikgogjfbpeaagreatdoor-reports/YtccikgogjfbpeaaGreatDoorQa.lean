import Derived.Test.YtccikgogjfbpeaaGreatDoorHa
open Option renaming some->I,none->Y
open List renaming append_nil->J,getElem?_eq_none->P,append_assoc->S
open Nat renaming strongRecOn->V,lt_or_ge->Z
namespace Go.Proofs.YtccikgogjfbpeaaGreatDoor
set_option maxRecDepth 30000
set_option maxHeartbeats 8000000
def Zp (c:Int):Bool:=decide (97<=c/\c<=122)
def iD (c:Int):Bool:=decide (48<=c/\c<=57)
def Zi (c:Int):Bool:=Zp c||iD c
def Zy (c:Int):Bool:=!decide (c=10)
def Zv (s:ByteArray)(k:Nat):Int:=((s.data.toList.getD k 0).toNat:Int)
theorem PH (s:ByteArray)(k:Nat)(h:k<s.size):Zv s k=(s[k].toNat:Int):=by
 unfold Zv;rw[gD,gE (by simpa using h)];rfl
def Ys (p:Int->Bool):List UInt8->Nat
 |[]=>0
 |c::r=>if p (c.toNat:Int)then Ys p r+1 else 0
theorem Gj (p:Int->Bool)(l:List UInt8):Ys p l<=l.length:=by
 induction l with
 |nil=>simp[Ys]
 |cons c r a=>simp only[Ys];split<;>simp<;>omega
theorem Tj (p:Int->Bool)(s:ByteArray)(k:Nat)(h:s.size<=k):Ys p (s.data.toList.drop k)=0:=by
 rw[dL (by simpa using h)];rfl
theorem W9 (p:Int->Bool)(s:ByteArray)(k:Nat)(h:k<s.size):
  Ys p (s.data.toList.drop k)=if p (Zv s k)then Ys p (s.data.toList.drop (k+1))+1 else 0:=by
 rw[dC (by simpa using h)];rw[PH s k h];simp only[Ys];rfl
def Zt (p:Int->Bool)(s:ByteArray)(k:Nat):Nat:=Ys p (s.data.toList.drop k)
theorem Xw (p:Int->Bool)(s:ByteArray)(k:Nat)(h:k<=s.size):k+Zt p s k<=s.size:=by
 have:=Gj p (s.data.toList.drop k);simp at this;unfold Zt;omega
theorem Xf (p:Int->Bool)(s:ByteArray)(k:Nat)(h:k<s.size)(a:p (Zv s k)=true):1<=Zt p s k:=by
 unfold Zt;rw[W9 p s k h,if_pos a];omega
structure Tk where
 sort:Nat
 text:ByteArray
 line:Nat
def DL:List (List UInt8):=
 [[114,111,117,116,101],[114,117,108,101],[98,105,110],[109,99,99],[97,109,111,117,110,116],[99,117,114],[100,101,99,108,105,110,101],[99,104,101,97,112,101,115,116]]
def Xh (t:ByteArray):Bool:=DL.contains t.toList
inductive Lx where
 |skip (at' line:Nat)
 |tok (t:Tk) (at':Nat)
 |bad
def Ti (s:ByteArray)(k:Nat)(a b:Int):Bool:=decide (k+2<=s.size)&&decide (Zv s k=a)&&decide (Zv s (k+1)=b)
def Jj (t m:ByteArray):Bool:=decide (m.size<=t.size)&&((t.extract 0 m.size).toList==m.toList)
def Zl (s:ByteArray)(k a:Nat):Lx:=
 if Zv s k=10 then .skip (k+1) (a+1)
 else if Zv s k=32\/Zv s k=9 then .skip (k+1) a
 else if Zv s k=35 then .skip (k+Zt Zy s k) a
 else if Zp (Zv s k)then
  if Xh (s.extract k (k+Zt Zi s k))then .tok ⟨2,s.extract k (k+Zt Zi s k),a⟩ (k+Zt Zi s k)
  else if 8<Zt Zi s k then .bad
  else .tok ⟨0,s.extract k (k+Zt Zi s k),a⟩ (k+Zt Zi s k)
 else if iD (Zv s k)then
  if 9<Zt iD s k then .bad
  else .tok ⟨1,s.extract k (k+Zt iD s k),a⟩ (k+Zt iD s k)
 else if Zv s k=59\/Zv s k=58\/Zv s k=44 then .tok ⟨2,s.extract k (k+1),a⟩ (k+1)
 else if Ti s k 46 46||Ti s k 45 62 then .tok ⟨2,s.extract k (k+2),a⟩ (k+2)
 else .bad
theorem Ww {s:ByteArray}{k a k' l':Nat}(h:k<s.size)(b:Zl s k a=.skip k' l'):k<k'/\k'<=s.size/\a<=l'/\l'<=a+1:=by
 unfold Zl at b
 split at b
 ·injection b;omega
 split at b
 ·injection b;omega
 split at b
 ·rename_i c
  have:=Xw Zy s k (by omega);have:=Xf Zy s k h (by simp[Zy,c]);injection b;omega
 repeat' (split at b)
 all_goals contradiction
theorem ME {s:ByteArray}{k:Nat}{a b:Int}(h:Ti s k a b=true):k+2<=s.size:=by
 simp[Ti]at h;exact h.1.1
theorem Va {s:ByteArray}{k b k':Nat}{t:Tk}(h:k<s.size)(a:Zl s k b=.tok t k'):k<k'/\k'<=s.size:=by
 unfold Zl at a
 split at a
 ·contradiction
 split at a
 ·contradiction
 split at a
 ·contradiction
 split at a
 ·rename_i d
  have:=Xw Zi s k (by omega);have:=Xf Zi s k h (by simp[Zi,d])
  split at a
  ·injection a;omega
  split at a
  ·contradiction
  ·injection a;omega
 split at a
 ·rename_i e
  have:=Xw iD s k (by omega);have:=Xf iD s k h e
  split at a
  ·contradiction
  ·injection a;omega
 split at a
 ·injection a;omega
 split at a
 ·rename_i c
  simp only[Bool.or_eq_true]at c
  have:k+2<=s.size:=by rcases c with c|c<;>exact ME c
  injection a;omega
 ·contradiction
def ZL (s:ByteArray)(k a:Nat)(b:List Tk):Except Nat (List Tk):=
 if h:k<s.size then
  match _hs:Zl s k a with
  | .skip k' l'=>ZL s k' l' b
  | .tok t k'=>ZL s k' a (b++[t])
  | .bad=>.error a
 else .ok (b++[⟨3,ByteArray.empty,a⟩])
 termination_by s.size-k
 decreasing_by
  ·have:=Ww h _hs;omega
  ·have:=Va h _hs;omega
def Zq (t:Tk)(m:ByteArray):Bool:=decide (t.sort=2)&&(t.text.toList==m.toList)
def Zs (ts:List Tk)(i:Nat):Tk:=ts.getD i ⟨3,ByteArray.empty,0⟩
def ZG (ts:List Tk)(i:Nat)(m:ByteArray):Except Nat (Unit×Nat):=if Zq (Zs ts i) m then .ok ((),i+1)else .error (Zs ts i).line
def Ya (ts:List Tk)(i a:Nat):Except Nat (Tk×Nat):=if(Zs ts i).sort=a then .ok (Zs ts i,i+1)else .error (Zs ts i).line
def Wb:ByteArray:=⟨#[114,111,117,116,101]⟩
def VP:ByteArray:=⟨#[114,117,108,101]⟩
def SA:ByteArray:=⟨#[98,105,110]⟩
def Wc:ByteArray:=⟨#[109,99,99]⟩
def ZS:ByteArray:=⟨#[97,109,111,117,110,116]⟩
def WD:ByteArray:=⟨#[99,117,114]⟩
def Yj:ByteArray:=⟨#[100,101,99,108,105,110,101]⟩
def ZY:ByteArray:=⟨#[99,104,101,97,112,101,115,116]⟩
def WK:ByteArray:=⟨#[59]⟩
def UZ:ByteArray:=⟨#[58]⟩
def Yq:ByteArray:=⟨#[44]⟩
def Vb:ByteArray:=⟨#[46,46]⟩
def Tl:ByteArray:=⟨#[45,62]⟩
def Uu (ts:List Tk)(i:Nat):Except Nat ((Tk×Tk)×Nat):=
 match Ya ts i 1 with
 | .error l=>.error l
 | .ok (a,i1)=>match ZG ts i1 Vb with
  | .error l=>.error l
  | .ok (_,i2)=>match Ya ts i2 1 with
   | .error l=>.error l
   | .ok (b,i3)=>.ok ((a,b),i3)
theorem Uv {ts:List Tk}{i:Nat}{m:ByteArray}(h:Zq (Zs ts i) m=true):i<ts.length:=by
 rcases Z i ts.length with a|a
 ·exact a
 ·exfalso
  unfold Zq Zs at h;rw[gD,P a]at h;simp at h
theorem YI {ts:List Tk}{i a:Nat}{t:Tk}{b:Nat}(h:Ya ts i a=.ok (t,b)):t=Zs ts i/\t.sort=a/\b=i+1:=by
 unfold Ya at h
 split at h
 ·injection h with h;injection h with c d;subst c d;exact⟨rfl,‹_›,rfl⟩
 ·cases h
def We (ts:List Tk)(i a:Nat)(b:List Tk):Except Nat (List Tk×Nat):=
 if _h:Zq (Zs ts i) Yq=true then
  match _ht:Ya ts (i+1) a with
  | .error l=>.error l
  | .ok (t,i')=>We ts i' a (b++[t])
 else .ok (b,i)
 termination_by ts.length-i
 decreasing_by
  have c:=Uv _h;have d:=(YI _ht).2.2;omega
def Xi (ts:List Tk)(i a:Nat):Except Nat (List Tk×Nat):=
 match Ya ts i a with
 | .error l=>.error l
 | .ok (t,i1)=>We ts i1 a [t]
def YS {α β:Type}(r:Except Nat (α×Nat))(f:α->Nat->Except Nat (β×Nat)):Except Nat (β×Nat):=
 match r with
 | .error l=>.error l
 | .ok (a,i)=>f a i
theorem Zh {α β:Type}{r:Except Nat (α×Nat)}{f:α->Nat->Except Nat (β×Nat)}{a:α}{i:Nat}(h:r=.ok (a,i)):YS r f=f a i:=by rw[h];rfl
theorem Z9 {α β:Type}{r:Except Nat (α×Nat)}{f:α->Nat->Except Nat (β×Nat)}{l:Nat}(h:r=.error l):YS r f=.error l:=by rw[h];rfl
structure Vp where
 name:Tk
 base:Tk
 rate:Tk
structure Rv where
 decline:Bool
 cheapest:Bool
 routes:List Tk
structure XX where
 name:Tk
 rank:Tk
 bin:Tk×Tk
 mcc:List Tk
 amount:Option (Tk×Tk)
 cur:List Tk
 act:Rv
inductive Yk where
 |route (r:Vp)
 |rule (r:XX)
def WE (ts:List Tk)(i:Nat):Except Nat (Vp×Nat):=
 YS (Ya ts i 0) fun name i=>YS (Ya ts i 1) fun base i=>YS (Ya ts i 1) fun a i=>.ok (⟨name,base,a⟩,i)
def YM (ts:List Tk)(i:Nat)(kw:ByteArray):Except Nat (List Tk×Nat):=if Zq (Zs ts i) kw then Xi ts (i+1) 1 else .ok ([],i)
def XR (ts:List Tk)(i:Nat)(kw:ByteArray):Except Nat (Option (Tk×Tk)×Nat):=if Zq (Zs ts i) kw then YS (Uu ts (i+1)) fun a i=>.ok (I a,i)else .ok (Y,i)
def Xj (ts:List Tk)(i:Nat):Except Nat (Rv×Nat):=
 if Zq (Zs ts i) Yj then .ok (⟨true,false,[]⟩,i+1)
 else if Zq (Zs ts i) ZY then YS (Xi ts (i+1) 0) fun l i=>.ok (⟨false,true,l⟩,i)
 else YS (Xi ts i 0) fun l i=>.ok (⟨false,false,l⟩,i)
def Wf (ts:List Tk)(i:Nat):Except Nat (XX×Nat):=
 YS (Ya ts i 0) fun name i=>YS (Ya ts i 1) fun b i=>YS (ZG ts i UZ) fun _ i=>YS (ZG ts i SA) fun _ i=>
 YS (Uu ts i) fun c i=>YS (YM ts i Wc) fun d i=>YS (XR ts i ZS) fun a i=>YS (YM ts i WD) fun e i=>
 YS (ZG ts i Tl) fun _ i=>YS (Xj ts i) fun f i=>.ok (⟨name,b,c,d,a,e,f⟩,i)
def Z5 (ts:List Tk)(i:Nat):Except Nat (Yk×Nat):=
 if Zq (Zs ts i) Wb then YS (WE ts (i+1)) fun r i=>.ok (.route r,i)
 else YS (ZG ts i VP) fun _ i=>YS (Wf ts i) fun r i=>.ok (.rule r,i)
theorem bI {α β:Type}{r:Except Nat (α×Nat)}{f:α->Nat->Except Nat (β×Nat)}{b:β}{k:Nat}(h:YS r f=.ok (b,k)):∃a j,r=.ok (a,j)/\f a j=.ok (b,k):=by
 unfold YS at h
 split at h
 ·cases h
 ·exact⟨_,_,rfl,h⟩
theorem YB {ts:List Tk}{i:Nat}{m:ByteArray}{u:Unit}{a:Nat}(h:ZG ts i m=.ok (u,a)):a=i+1:=by
 unfold ZG at h
 split at h
 ·injection h with h;injection h with c b;exact b.symm
 ·cases h
theorem Wk (ts:List Tk)(i:Nat):Uu ts i=YS (Ya ts i 1) fun a i=>YS (ZG ts i Vb) fun _ i=>YS (Ya ts i 1) fun b i=>.ok ((a,b),i):=by
 unfold Uu YS
 cases Ya ts i 1 with
 |error l=>rfl
 |ok r=>
  obtain⟨a,c⟩:=r
  dsimp only
  cases ZG ts c Vb with
  |error l=>rfl
  |ok r=>
   obtain⟨u,d⟩:=r
   dsimp only
   cases Ya ts d 1 with
   |error l=>rfl
   |ok r=>rfl
theorem LB {ts:List Tk}{i:Nat}{c:Tk×Tk}{k:Nat}(h:Uu ts i=.ok (c,k)):i<k:=by
 rw[Wk]at h;obtain⟨a,g,d,h⟩:=bI h;obtain⟨_,j,e,h⟩:=bI h;obtain⟨b,l,f,h⟩:=bI h;have m:=(YI d).2.2;have n:=YB e;have o:=(YI f).2.2;injection h with h;injection h with _ h;omega
theorem F3 {ts:List Tk}{a:Nat}:∀(n i:Nat)(b l:List Tk)(k:Nat),ts.length-i=n->We ts i a b=.ok (l,k)->i<=k:=by
 intro n
 induction n using V with
 |ind n d=>
  intro i b l k m h;rw[We]at h
  split at h
  ·rename_i f
   have g:=Uv f
   split at h
   ·cases h
   ·rename_i t c j
    have e:=(YI j).2.2;have:=d (ts.length-c) (by omega) c _ l k rfl h;omega
  ·injection h with h;injection h with _ h;omega
theorem PI {ts:List Tk}{i a:Nat}{l:List Tk}{k:Nat}(h:Xi ts i a=.ok (l,k)):i<k:=by
 unfold Xi at h
 split at h
 ·cases h
 ·rename_i t b c
  have e:=(YI c).2.2;have:=F3 _ b [t] l k rfl h;omega
theorem PJ {ts:List Tk}{i:Nat}{kw:ByteArray}{l:List Tk}{k:Nat}(h:YM ts i kw=.ok (l,k)):i<=k:=by
 unfold YM at h
 split at h
 ·have:=PI h;omega
 ·injection h with h;injection h with _ h;omega
theorem Jk {ts:List Tk}{i:Nat}{kw:ByteArray}{l:Option (Tk×Tk)}{k:Nat}(h:XR ts i kw=.ok (l,k)):i<=k:=by
 unfold XR at h
 split at h
 ·obtain⟨c,j,b,a⟩:=bI h
  have:=LB b;injection a with a;injection a with _ a;omega
 ·injection h with h;injection h with _ h;omega
theorem Jl {ts:List Tk}{i:Nat}{a:Rv}{k:Nat}(h:Xj ts i=.ok (a,k)):i<k:=by
 unfold Xj at h
 split at h
 ·injection h with h;injection h with _ h;omega
 split at h
 ·obtain⟨l,j,c,b⟩:=bI h
  have:=PI c;injection b with b;injection b with _ b;omega
 ·obtain⟨l,j,c,b⟩:=bI h
  have:=PI c;injection b with b;injection b with _ b;omega
theorem Gk {ts:List Tk}{i:Nat}{r:Vp}{k:Nat}(h:WE ts i=.ok (r,k)):i<k:=by
 unfold WE at h;obtain⟨a,g,d,h⟩:=bI h;obtain⟨b,j,e,h⟩:=bI h;obtain⟨c,l,f,h⟩:=bI h;have m:=(YI d).2.2;have n:=(YI e).2.2;have o:=(YI f).2.2;injection h with h;injection h with _ h;omega
theorem F4 {ts:List Tk}{i:Nat}{r:XX}{k:Nat}(h:Wf ts i=.ok (r,k)):i<k:=by
 unfold Wf at h;obtain⟨a,x,j,h⟩:=bI h;obtain⟨b,y,l,h⟩:=bI h;obtain⟨_,z,m,h⟩:=bI h;obtain⟨_,A,n,h⟩:=bI h;obtain⟨c,B,o,h⟩:=bI h;obtain⟨d,C,p,h⟩:=bI h;obtain⟨f,D,q,h⟩:=bI h;obtain⟨g,E,s,h⟩:=bI h;obtain⟨_,F,t,h⟩:=bI h;obtain⟨u,v,e,h⟩:=bI h;have G:=(YI j).2.2;have H:=(YI l).2.2;have I:=YB m;have J:=YB n;have K:=LB o;have L:=PJ p;have M:=Jk q;have N:=PJ s;have O:=YB t;have w:=Jl e;injection h with h;injection h with _ h;omega
theorem Vc {ts:List Tk}{i:Nat}{e:Yk}{k:Nat}(h:Z5 ts i=.ok (e,k)):i<k:=by
 unfold Z5 at h
 split at h
 ·obtain⟨r,j,b,a⟩:=bI h
  have:=Gk b;injection a with a;injection a with _ a;omega
 ·obtain⟨_,j,b,h⟩:=bI h
  obtain⟨r,c,a,h⟩:=bI h;have:=YB b;have:=F4 a;injection h with h;injection h with _ h;omega
def Zu (ts:List Tk)(i:Nat)(a:List Yk):Except Nat (List Yk×Nat):=
 if _hs:(Zs ts i).sort=3 then .ok (a,i)
 else match _he:Z5 ts i with
  | .error l=>.error l
  | .ok (e,j)=>match _hx:ZG ts j WK with
   | .error l=>.error l
   | .ok (_,k)=>Zu ts k (a++[e])
 termination_by ts.length-i
 decreasing_by
  have c:=Vc _he;have d:=YB _hx
  have f:i<ts.length:=by
   rcases Z i ts.length with b|b
   ·exact b
   ·exfalso
    apply _hs;unfold Zs;rw[gD,P b];rfl
  omega
theorem X1 {ts:List Tk}{i:Nat}{a:List Yk}(h:(Zs ts i).sort=3):Zu ts i a=.ok (a,i):=by
 rw[Zu,dif_pos h]
theorem Y2 {ts:List Tk}{i:Nat}{a:List Yk}{l:Nat}(h:¬(Zs ts i).sort=3)(b:Z5 ts i=.error l):Zu ts i a=.error l:=by
 rw[Zu,dif_neg h];split<;>simp_all
theorem Xx {ts:List Tk}{i:Nat}{a:List Yk}{l:Nat}{e:Yk}{j:Nat}(h:¬(Zs ts i).sort=3)(b:Z5 ts i=.ok (e,j))(c:ZG ts j WK=.error l):Zu ts i a=.error l:=by
 rw[Zu,dif_neg h]
 split
 ·simp_all
 ·split<;>simp_all
theorem Wx {ts:List Tk}{i:Nat}{a:List Yk}{e:Yk}{j:Nat}{u:Unit}{k:Nat}(h:¬(Zs ts i).sort=3)(b:Z5 ts i=.ok (e,j))(c:ZG ts j WK=.ok (u,k)):Zu ts i a=Zu ts k (a++[e]):=by
 rw[Zu,dif_neg h]
 split
 ·simp_all
 ·split<;>simp_all
inductive V5 where
 |rules|mccs|amounts|curs|ints|names|action|NAME|INT
 |lit (m:ByteArray)
def U7:List V5:=[.lit Wb,.NAME,.INT,.INT,.lit WK,.rules]
def TS:List V5:=[.lit VP,.NAME,.INT,.lit UZ,.lit SA,.INT,.lit Vb,.INT,.mccs,.amounts,.curs,.lit Tl,.action,.lit WK,.rules]
def Zm (s:V5)(t:Tk):Option (List V5):=
 match s with
 | .rules=>I (if Zq t Wb then U7 else if Zq t VP then TS else[])
 | .mccs=>I (if Zq t Wc then[.lit Wc,.INT,.ints]else[])
 | .amounts=>I (if Zq t ZS then[.lit ZS,.INT,.lit Vb,.INT]else[])
 | .curs=>I (if Zq t WD then[.lit WD,.INT,.ints]else[])
 | .ints=>I (if Zq t Yq then[.lit Yq,.INT,.ints]else[])
 | .names=>I (if Zq t Yq then[.lit Yq,.NAME,.names]else[])
 | .action=>I (if Zq t Yj then[.lit Yj]else if Zq t ZY then[.lit ZY,.NAME,.names]else[.NAME,.names])
 |_=>Y
def Uw (s:V5)(t:Tk):Bool:=
 match s with
 | .NAME=>decide (t.sort=0)
 | .INT=>decide (t.sort=1)
 | .lit m=>Zq t m
 |_=>false
def YG (ts:List Tk):Nat->List V5->Nat->Option (Option Nat)
 |_,[],i=>I (if(Zs ts i).sort=3 then Y else I i)
 |0,_::_,_=>Y
 |m+1,s::rest,i=>match Zm s (Zs ts i)with
  |some l=>YG ts m (l++rest) i
  |none=>if Uw s (Zs ts i)then YG ts m rest (i+1)else I (I i)
section
variable {ts:List Tk}
theorem UO (m i:Nat):YG ts m [] i=I (if(Zs ts i).sort=3 then Y else I i):=by cases m<;>rfl
def PK (ts:List Tk)(a:List V5)(i:Nat)(r:Option Nat):Prop:=∃m,YG ts m a i=I r
theorem V6 {s:V5}{a l:List V5}{i:Nat}{r:Option Nat}(h:Zm s (Zs ts i)=I l)(b:PK ts (l++a) i r):PK ts (s::a) i r:=by
 obtain⟨m,c⟩:=b;exact⟨m+1,by simp only[YG,h];exact c⟩
theorem Rw {s:V5}{a:List V5}{i:Nat}{r:Option Nat}(h:Zm s (Zs ts i)=Y)(b:Uw s (Zs ts i)=true)(c:PK ts a (i+1) r):PK ts (s::a) i r:=by
 obtain⟨m,d⟩:=c;exact⟨m+1,by simp only[YG,h,b,if_true];exact d⟩
theorem LC {s:V5}{a:List V5}{i:Nat}(h:Zm s (Zs ts i)=Y)(b:Uw s (Zs ts i)=false):PK ts (s::a) i (I i):=
 ⟨1,by simp only[YG,h,b];rfl⟩
def F5 (ts:List Tk)(a:List V5)(i l:Nat):Prop:=∃j,PK ts a i (I j)/\(Zs ts j).line=l
structure Ye {α:Type}(ts:List Tk)(st:List V5)(p:Except Nat (α×Nat))(i:Nat):Prop where
 err:∀rest l,p=.error l->F5 ts (st++rest) i l
 ok:∀rest a j r,p=.ok (a,j)->PK ts rest j r->PK ts (st++rest) i r
theorem Vq {α:Type}(a:α)(i:Nat):Ye ts [] (.ok (a,i)) i:=
 ⟨fun _ _ h=>(by cases h),fun b d j r h c=>by injection h with h;injection h with _ h;subst h;exact c⟩
theorem ZF {α β:Type}{st1 st2:List V5}{p:Except Nat (α×Nat)}{f:α->Nat->Except Nat (β×Nat)}{i:Nat}(e:Ye ts st1 p i)(m:∀a j,p=.ok (a,j)->Ye ts st2 (f a j) j):Ye ts (st1++st2) (YS p f) i:=by
 constructor
 ·intro c l h
  cases d:p with
  |error l'=>
   rw[d]at h
   have n:l'=l:=by injection h
   subst n;rw[S];exact e.err _ _ d
  |ok r=>
   obtain⟨a,j⟩:=r;rw[d]at h;obtain⟨o,g,q⟩:=(m a j d).err c l h;rw[S];exact⟨o,e.ok _ a j _ d g,q⟩
 ·intro c b k r h g
  obtain⟨a,j,d,s⟩:=bI h;rw[S];exact e.ok _ a j _ d ((m a j d).ok c b k r s g)
theorem XK {α β:Type}{b:List V5}{p:Except Nat (α×Nat)}{g:α->β}{i:Nat}(c:Ye ts b p i):Ye ts b (YS p fun a i=>.ok (g a,i)) i:=by
 have h:=ZF (st2:=[]) (f:=fun a i=>(.ok (g a,i):Except Nat (β×Nat))) c (fun a j _=>Vq (g a) j)
 rwa [J]at h
theorem Xk {α:Type}{s:V5}{l:List V5}{p:Except Nat (α×Nat)}{i:Nat}(e:Zm s (Zs ts i)=I l)(h:Ye ts l p i):Ye ts [s] p i:=by
 constructor
 ·intro b f c
  obtain⟨j,d,g⟩:=h.err b f c;exact⟨j,V6 e d,g⟩
 ·intro b a j r c d
  exact V6 e (h.ok b a j r c d)
theorem Rx (i b:Nat)(s:V5)(d:∀t,Zm s t=Y)(e:∀t,Uw s t=decide (t.sort=b)):Ye ts [s] (Ya ts i b) i:=by
 constructor
 ·intro c l h
  unfold Ya at h
  split at h
  ·cases h
  ·rename_i f
   injection h with h;exact⟨i,LC (d _) (by rw[e];simpa using f),h⟩
 ·intro c a j r h g
  obtain⟨rfl,k,rfl⟩:=YI h;exact Rw (d _) (by rw[e];simpa using k) g
theorem Ul (i:Nat):Ye ts [.NAME] (Ya ts i 0) i:=Rx i 0 .NAME (fun _=>rfl) (fun _=>rfl)
theorem Wl (i:Nat):Ye ts [.INT] (Ya ts i 1) i:=Rx i 1 .INT (fun _=>rfl) (fun _=>rfl)
theorem XL (i:Nat)(m:ByteArray):Ye ts [.lit m] (ZG ts i m) i:=by
 constructor
 ·intro b l h
  unfold ZG at h
  split at h
  ·cases h
  ·rename_i c
   injection h with h;exact⟨i,LC rfl (by show Zq _ _=false;simpa using c),h⟩
 ·intro b a j r h d
  unfold ZG at h
  split at h
  ·rename_i e
   injection h with h;injection h with _ h;subst h;exact Rw rfl e d
  ·cases h
theorem X3 {α:Type}{e:List V5}{p:Except Nat (α×Nat)}{i:Nat}{m:ByteArray}(f:Zq (Zs ts i) m=true)(h:Ye ts e p (i+1)):Ye ts (.lit m::e) p i:=by
 constructor
 ·intro b l c
  obtain⟨j,d,g⟩:=h.err b l c;exact⟨j,Rw rfl f d,g⟩
 ·intro b a j r c d
  exact Rw rfl f (h.ok b a j r c d)
theorem Ry (c:Nat)(f p:V5)(u:∀t,Zm f t=I (if Zq t Yq then[.lit Yq,p,f]else[]))(q:∀i,Ye ts [p] (Ya ts i c) i):
  ∀(n i:Nat)(g:List Tk),ts.length-i=n->Ye ts [f] (We ts i c g) i:=by
 intro n
 induction n using V with
 |ind n v=>
  intro i g z;rw[We]
  split
  ·rename_i k
   have w:=Uv k;refine Xk (l:=[.lit Yq,p,f]) (by rw[u,if_pos k]) (X3 k ?_)
   cases m:Ya ts (i+1) c with
   |error l=>
    constructor
    ·intro b l' h
     have:=(q (i+1)).err (f::b) l' (by rw[m];simpa using h);exact this
    ·intro b a j r h
     simp at h
   |ok r=>
    obtain⟨t,o⟩:=r;have e:=(YI m).2.2;have d:=v (ts.length-o) (by omega) o (g++[t]) rfl
    constructor
    ·intro b l h
     simp only at h;obtain⟨x,s,y⟩:=d.err b l h;exact⟨x,(q (i+1)).ok (f::b) t o _ m s,y⟩
    ·intro b a j r h s
     simp only at h;exact(q (i+1)).ok (f::b) t o _ m (d.ok b a j r h s)
  ·rename_i k
   refine Xk (l:=[]) (by rw[u,if_neg k]) (Vq _ _)
theorem PL (i a:Nat):Xi ts i a=YS (Ya ts i a) fun t b=>We ts b a [t]:=by
 unfold Xi YS
 cases Ya ts i a with
 |error l=>rfl
 |ok r=>rfl
theorem MF (i:Nat):Ye ts [.INT,.ints] (Xi ts i 1) i:=by
 rw[PL];exact ZF (st1:=[.INT]) (Wl i) (fun a j _=>Ry 1 .ints .INT (fun _=>rfl) Wl _ j [a] rfl)
theorem SB (i:Nat):Ye ts [.NAME,.names] (Xi ts i 0) i:=by
 rw[PL];exact ZF (st1:=[.NAME]) (Ul i) (fun a j _=>Ry 0 .names .NAME (fun _=>rfl) Ul _ j [a] rfl)
theorem TC (i:Nat)(kw:ByteArray)(b:V5)(c:∀t,Zm b t=I (if Zq t kw then[.lit kw,.INT,.ints]else[])):Ye ts [b] (YM ts i kw) i:=by
 unfold YM
 split
 ·rename_i a
  exact Xk (l:=[.lit kw,.INT,.ints]) (by rw[c,if_pos a]) (X3 a (MF (i+1)))
 ·rename_i a
  exact Xk (l:=[]) (by rw[c,if_neg a]) (Vq _ _)
theorem Rz (i:Nat):Ye ts [.INT,.lit Vb,.INT] (Uu ts i) i:=by
 rw[Wk]
 exact ZF (st1:=[.INT]) (Wl i) fun a j _=>ZF (st1:=[.lit Vb]) (XL j Vb) fun _ k _=>XK (Wl k)
theorem Pg (i:Nat):Ye ts [.amounts] (XR ts i ZS) i:=by
 unfold XR
 split
 ·rename_i a
  exact Xk (l:=[.lit ZS,.INT,.lit Vb,.INT]) (by show I (if _ then _ else _)=_;rw[if_pos a]) (X3 a (XK (Rz (i+1))))
 ·rename_i a
  exact Xk (l:=[]) (by show I (if _ then _ else _)=_;rw[if_neg a]) (Vq _ _)
theorem PM (i:Nat):Ye ts [.action] (Xj ts i) i:=by
 unfold Xj
 split
 ·rename_i b
  exact Xk (l:=[.lit Yj]) (by show I (if _ then _ else _)=_;rw[if_pos b]) (X3 b (Vq _ _))
 ·rename_i b
  split
  ·rename_i a
   exact Xk (l:=[.lit ZY,.NAME,.names]) (by show I (if _ then _ else _)=_;rw[if_neg b,if_pos a]) (X3 a (XK (SB (i+1))))
  ·rename_i a
   exact Xk (l:=[.NAME,.names]) (by show I (if _ then _ else _)=_;rw[if_neg b,if_neg a]) (XK (SB i))
theorem Nq (i:Nat):Ye ts [.NAME,.INT,.INT] (WE ts i) i:=by
 unfold WE
 exact ZF (st1:=[.NAME]) (Ul i) fun _ j _=>ZF (st1:=[.INT]) (Wl j) fun _ k _=>XK (Wl k)
theorem MG (i:Nat):Ye ts [.NAME,.INT,.lit UZ,.lit SA,.INT,.lit Vb,.INT,.mccs,.amounts,.curs,.lit Tl,.action] (Wf ts i) i:=by
 unfold Wf
 exact ZF (st1:=[.NAME]) (Ul i) fun _ i _=>ZF (st1:=[.INT]) (Wl i) fun _ i _=>
  ZF (st1:=[.lit UZ]) (XL i UZ) fun _ i _=>ZF (st1:=[.lit SA]) (XL i SA) fun _ i _=>
  ZF (st1:=[.INT,.lit Vb,.INT]) (Rz i) fun _ i _=>ZF (st1:=[.mccs]) (TC i Wc .mccs (fun _=>rfl)) fun _ i _=>
  ZF (st1:=[.amounts]) (Pg i) fun _ i _=>ZF (st1:=[.curs]) (TC i WD .curs (fun _=>rfl)) fun _ i _=>
  ZF (st1:=[.lit Tl]) (XL i Tl) fun _ i _=>XK (PM i)
theorem Nr:∀(n i:Nat)(a:List Yk),ts.length-i=n->
  (∀s j,Zu ts i a=.ok (s,j)->PK ts [.rules] i Y)/\(∀l,Zu ts i a=.error l->F5 ts [.rules] i l):=by
 intro n
 induction n using V with
 |ind n A=>
  intro i a D;by_cases c:(Zs ts i).sort=3
  ·have g:PK ts [.rules] i Y:=by
    have B:∀m,Zq (Zs ts i) m=false:=fun m=>by simp[Zq,c]
    refine V6 (l:=[]) (by simp[Zm,B]) ⟨0,?_⟩;rw[J,UO,if_pos c]
   rw[X1 c];exact⟨fun _ _ _=>g,fun _ h=>by cases h⟩
  have E:i<ts.length:=by
   rcases Z i ts.length with y|y
   ·exact y
   ·exfalso
    apply c;unfold Zs;rw[gD,P y];rfl
  have d:∀(z:List V5),Zm .rules (Zs ts i)=I (z++[.lit WK,.rules])->Ye ts z (Z5 ts i) i->
    (∀s j,Zu ts i a=.ok (s,j)->PK ts [.rules] i Y)/\(∀l,Zu ts i a=.error l->F5 ts [.rules] i l):=by
   intro z w x
   cases b:Z5 ts i with
   |error l=>
    rw[Y2 c b];refine⟨fun _ _ h=>(by cases h),fun l' h=>?_⟩;injection h with h;subst h;obtain⟨j,g,t⟩:=x.err [.lit WK,.rules] l b;exact⟨j,V6 w (by rw[J];exact g),t⟩
   |ok r=>
    obtain⟨e,j⟩:=r;have C:=Vc b
    cases q:ZG ts j WK with
    |error l=>
     rw[Xx c b q];refine⟨fun _ _ h=>(by cases h),fun l' h=>?_⟩;injection h with h;subst h;obtain⟨v,g,t⟩:=(XL j WK).err [.rules] l q;exact⟨v,V6 w (by rw[J];exact x.ok _ e j _ b g),t⟩
    |ok r=>
     obtain⟨u,k⟩:=r;rw[Wx c b q];have F:=YB q;have f:=A (ts.length-k) (by omega) k (a++[e]) rfl;refine⟨fun s v h=>?_,fun l h=>?_⟩
     ·exact V6 w (by rw[J];exact x.ok _ e j _ b ((XL j WK).ok [.rules] u k _ q (f.1 s v h)))
     ·obtain⟨v,g,t⟩:=f.2 l h
      exact⟨v,V6 w (by rw[J];exact x.ok _ e j _ b ((XL j WK).ok [.rules] u k _ q g)),t⟩
  by_cases o:Zq (Zs ts i) Wb=true
  ·refine d [.lit Wb,.NAME,.INT,.INT] (by show I (if _ then _ else _)=_;rw[if_pos o];rfl) ?_
   unfold Z5;rw[if_pos o];exact X3 o (XK (Nq (i+1)))
  by_cases p:Zq (Zs ts i) VP=true
  ·refine d [.lit VP,.NAME,.INT,.lit UZ,.lit SA,.INT,.lit Vb,.INT,.mccs,.amounts,.curs,.lit Tl,.action] (by show I (if _ then _ else _)=_;rw[if_neg o,if_pos p];rfl) ?_
   unfold Z5;rw[if_neg o]
   exact ZF (st1:=[.lit VP]) (XL i VP) fun _ j _=>XK (MG j)
  ·have b:Z5 ts i=.error (Zs ts i).line:=by
    unfold Z5;rw[if_neg o];unfold ZG;rw[if_neg p];rfl
   rw[Y2 c b];refine⟨fun _ _ h=>(by cases h),fun l h=>?_⟩;injection h with h;subst h;refine⟨i,V6 (l:=[]) (by show I (if _ then _ else _)=_;rw[if_neg o,if_neg p]) ⟨0,?_⟩,rfl⟩;rw[J,UO,if_neg c]
end
