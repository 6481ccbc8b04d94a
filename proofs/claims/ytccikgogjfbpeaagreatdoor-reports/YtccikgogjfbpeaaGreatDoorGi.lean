import Derived.Test.YtccikgogjfbpeaaGreatDoorGg
open Go.Value renaming pointer->I,int->V
open Option renaming none->J,some->P
open Go.Obj renaming cells->S
open Go.IntKind renaming i64->Y
open _root_.ByteArray renaming empty->Z
open Bool renaming false_eq_true->U,true_and->K
open List renaming getElem?_append_left->O,getElem?_cons_succ->H,getElem?_eq_none->G,mem_cons->M,pairwise_cons->X,take_add_one->A,all_append->C,mem_append->F,find?_cons->Q,drop_zero->z4,all_cons->z5
open Go renaming World->E,Value->z3
open Go.Ending renaming returned->D
open Or renaming inl->N,inr->z6
namespace Go.Proofs.YtccikgogjfbpeaaGreatDoor
set_option maxRecDepth 30000
set_option maxHeartbeats 8000000
structure ZI where
 pan:ByteArray
 mcc:Int
 am:Int
 cur:Int
def Vo (l:List Nat)(n:Int):Bool:=l.any (fun x=>decide ((x:Int)=n))
def TL (p:ZI)(s:Zn):Bool:=
 if s.sort=0 then Vo s.nums p.mcc else if s.sort=1 then decide (((s.nums.getD 0 0:Nat):Int)<=p.am)&&decide (p.am<=((s.nums.getD 1 0:Nat):Int))else Vo s.nums p.cur
def OH (r:Zc)(p:ZI):Bool:=match r.am with
 |none=>true
 |some a=>decide ((a.1:Int)<=p.am)&&decide (p.am<=(a.2:Int))
def VO (r:Zc)(p:ZI):Bool:=(decide (r.mcc=[])||Vo r.mcc p.mcc)&&(OH r p&&(decide (r.cur=[])||Vo r.cur p.cur))
theorem Fc (r:Zc)(p:ZI):(Yf r).all (TL p)=VO r p:=by
 unfold Yf VO OH;rw[C,C]
 have a:(if r.mcc=[]then[]else[(⟨0,r.mcc,0,0⟩:Zn)]).all (TL p)=(decide (r.mcc=[])||Vo r.mcc p.mcc):=by
  split
  ·rename_i h;simp[h]
  ·rename_i h;simp[h,TL]
 have b:(if r.cur=[]then[]else[(⟨2,r.cur,0,0⟩:Zn)]).all (TL p)=(decide (r.cur=[])||Vo r.cur p.cur):=by
  split
  ·rename_i h;simp[h]
  ·rename_i h;simp[h,TL]
 rw[a,b]
 cases r.am with
 |none=>simp
 |some c=>simp[TL]
def Xc (b:Zn->Bool)(l:List Zn):Nat->Nat->Option Zn
 |0,_=>J
 |n+1,a=>match l[a]? with
  |none=>J
  |some s=>if s.sort<3 then Xc b l n (if b s then a+1 else a+s.skip)else P s
theorem OI (b:Zn->Bool)(pre l:List Zn):∀(n a:Nat),Xc b (pre++l) n (pre.length+a)=Xc b l n a
 |0,_=>rfl
 |n+1,a=>by
  unfold Xc;rw[aR (by omega),show pre.length+a-pre.length=a from by omega]
  cases l[a]? with
  |none=>rfl
  |some s=>
   dsimp only
   split
   ·rw[show(if b s=true then pre.length+a+1 else pre.length+a+s.skip)=pre.length+(if b s=true then a+1 else a+s.skip)from by split<;>omega]
    exact OI b pre l n _
   ·rfl
theorem Qu (m:Nat):∀(l:List Zn)(a j:Nat)(s:Zn),l[j]?=P s->(Z4 m a l)[j]?=P {s with skip:=m-(a+j)+1}
 |[],_,_,_,h=>by simp at h
 |x::r,a,0,s,h=>by
  simp at h;subst h;simp[Z4]
 |x::r,a,j+1,s,h=>by
  rw[H]at h;simp only[Z4,H];rw[Qu m r (a+1) j s h,show a+1+j=a+(j+1)from by omega]
theorem Ks (p:ZI)(s:Zn)(k:Nat):TL p {s with skip:=k}=TL p s:=rfl
theorem V0 (m:Nat):∀(a:Nat)(l:List Zn),(Z4 m a l).length=l.length
 |_,[]=>rfl
 |a,_::r=>by show(Z4 m (a+1) r).length+1=r.length+1;rw[V0 m (a+1) r]
theorem Q0 (p:ZI)(b:List Zn)(d:∀s,s∈b->s.sort<3)(c:Zn)(g:¬c.sort<3)(a:List Zn)(n:Nat)(R:Option Zn)(m:Xc (TL p) a n 0=R)(o:0<n):
  ∀(k j:Nat),k+j=b.length->Xc (TL p) (Z4 b.length 0 b++c::a) (n+k) j=if(b.drop j).all (TL p)then P c else Xc (TL p) (Z4 b.length 0 b++c::a) (n+k) j
 |0,j,h=>by
  rw[dL (by omega)];simp only[List.all_nil,if_true];obtain⟨i,rfl⟩:∃i,n=i+1:=⟨n-1,by omega⟩;rw[Nat.add_zero,Xc,aR (by rw[V0];omega),V0,show j-b.length=0 from by omega];simp[g]
 |k+1,j,h=>by
  have l:=Q0 p b d c g a n R m o k (j+1) (by omega);obtain⟨s,f⟩:∃s,b[j]?=P s:=⟨_,gE (by omega)⟩
  have q:b.drop j=s::b.drop (j+1):=by
   obtain⟨r,t⟩:=iG.1 f;rw[dC r,t]
  rw[q,z5]
  cases u:TL p s with
  |false=>simp
  |true=>
   rw[K]
   split
   ·rename_i e
    rw[if_pos e]at l
    show Xc (TL p) _ (n+k+1) j=_
    rw[Xc,O (by rw[V0];omega),Qu _ b 0 j s f]
    dsimp only
    rw[if_pos (d s (mG f)),Ks,u,if_pos rfl];exact l
   ·rfl
theorem Mg (p:ZI)(b:List Zn)(f:∀s,s∈b->s.sort<3)(c:Zn)(a:List Zn)(n:Nat)(R:Option Zn)(m:Xc (TL p) a n 0=R):
  ∀(k j:Nat),k+j=b.length->(b.drop j).all (TL p)=false->∃d,Xc (TL p) (Z4 b.length 0 b++c::a) d j=R
 |0,j,h,hf=>by
  rw[dL (by omega)]at hf;simp at hf
 |k+1,j,h,hf=>by
  obtain⟨s,i⟩:∃s,b[j]?=P s:=⟨_,gE (by omega)⟩
  have o:b.drop j=s::b.drop (j+1):=by
   obtain⟨q,r⟩:=iG.1 i;rw[dC q,r]
  rw[o,z5]at hf
  have g:∀d,Xc (TL p) (Z4 b.length 0 b++c::a) (d+1) j=Xc (TL p) (Z4 b.length 0 b++c::a) d (if TL p s then j+1 else j+(b.length-(0+j)+1)):=by
   intro d;rw[Xc,O (by rw[V0];omega),Qu _ b 0 j s i]
   dsimp only
   rw[if_pos (f s (mG i)),Ks]
  cases l:TL p s with
  |true=>
   rw[l,K]at hf;obtain⟨d,e⟩:=Mg p b f c a n R m k (j+1) (by omega) hf;exact⟨d+1,by rw[g,l];exact e⟩
  |false=>
   refine⟨n+1,?_⟩;rw[g,l,if_neg (by simp),show j+(b.length-(0+j)+1)=(Z4 b.length 0 b++[c]).length+0 from by rw[List.length_append,V0];simp;omega,show Z4 b.length 0 b++c::a=(Z4 b.length 0 b++[c])++a from by simp,OI];exact m
theorem Q4 (r:Zc):∀s,s∈Yf r->s.sort<3:=by
 intro s a;unfold Yf at a;rw[F,F]at a;rcases a with h|h|h
 ·split at h
  ·cases h
  ·simp at h;subst h;simp
 ·cases b:r.am with
  |none=>rw[b]at h;cases h
  |some c=>rw[b]at h;simp at h;subst h;simp
 ·split at h
  ·cases h
  ·simp at h;subst h;simp
theorem RQ (i:Nat)(r:Zc):¬(Ts i r).sort<3:=by
 unfold Ts
 split
 ·simp
 ·split<;>simp
def Rg (R:List Zc)(met:Nat)(p:ZI):List Nat->Option Nat
 |[]=>J
 |i::L=>if met.testBit i&&(match R[i]? with|none=>false|some r=>VO r p)then P i else Rg R met p L
def RR (R:List Zc):Option Nat->Zn
 |none=>⟨6,[],0,0⟩
 |some i=>match R[i]? with
  |none=>⟨6,[],0,0⟩
  |some r=>Ts i r
theorem OJ (R:List Zc)(met:Nat)(p:ZI):∀(L:List Nat),∃n,Xc (TL p) (Z2 R met L) n 0=P (RR R (Rg R met p L))
 |[]=>⟨1,by simp[Xc,Z2,RR,Rg]⟩
 |i::L=>by
  obtain⟨n,b⟩:=OJ R met p L;simp only[Z2,Rg]
  cases k:met.testBit i with
  |false=>simpa using⟨n,b⟩
  |true=>
   simp only[if_true,K]
   cases f:R[i]? with
   |none=>simpa using⟨n,b⟩
   |some r=>
    dsimp only
    have c:=Fc r p
    split
    ·rename_i g
     rw[g]at c;simp at c;rw[<-c];exact⟨1,by simp[Xc,RQ,RR,f]⟩
    ·rename_i g
     have h:0<n:=by
      cases n with
      |zero=>simp[Xc]at b
      |succ n=>omega
     by_cases a:VO r p=true
     ·have e:=Q0 p (Yf r) (Q4 r) (Ts i r) (RQ i r) (Z2 R met L) n _ b h (Yf r).length 0 (by omega)
      rw[z4,c,a,if_pos rfl]at e;rw[if_pos a];exact⟨_,by rw[Rf,e];simp[RR,f]⟩
     ·have d:VO r p=false:=by simpa using a
      obtain⟨j,e⟩:=Mg p (Yf r) (Q4 r) (Ts i r) (Z2 R met L) n _ b (Yf r).length 0 (by omega) (by rw[z4,c,d]);rw[if_neg a];exact⟨j,by rw[Rf,e]⟩
def YK (rk:Nat->Nat)(meets:Nat->Bool):Nat->Option Nat
 |0=>J
 |n+1=>if meets n&&(match YK rk meets n with|none=>true|some b=>decide (rk b<rk n))then P n else YK rk meets n
theorem Ua (rk:Nat->Nat)(meets:Nat->Bool):∀n,match YK rk meets n with
  |none=>∀j,j<n->meets j=false
  |some b=>b<n/\meets b=true/\∀j,j<n->meets j=true->j≠b->TH rk b j
 |0=>by intro j g;omega
 |n+1=>by
  have d:=Ua rk meets n;unfold YK
  cases k:YK rk meets n with
  |none=>
   rw[k]at d
   dsimp only at d ⊢
   rw[Bool.and_true]
   cases h:meets n with
   |true=>
    simp only[if_true];refine⟨by omega,h,fun j g a c=>?_⟩;have:=d j (by omega);rw[this]at a
    cases a
   |false=>
    simp only[U,if_false];intro j g;by_cases e:j=n
    ·subst e;exact h
    ·exact d j (by omega)
  |some b=>
   rw[k]at d
   dsimp only at d ⊢
   obtain⟨m,l,i⟩:=d
   cases h:meets n with
   |true=>
    rw[K];by_cases f:rk b<rk n
    ·simp only[f,decide_true,if_true]
     refine⟨by omega,h,fun j g a c=>?_⟩;by_cases e:j=b
     ·subst e;exact N f
     ·have:=i j (by omega) a e
      unfold TH at*;omega
    ·simp only[f,decide_false,U,if_false]
     refine⟨by omega,l,fun j g a c=>?_⟩;by_cases e:j=n
     ·subst e
      unfold TH;omega
     ·exact i j (by omega) a c
   |false=>
    simp only[Bool.false_and,U,if_false];refine⟨by omega,l,fun j g a c=>?_⟩;by_cases e:j=n
    ·subst e
     rw[h]at a
     cases a
    ·exact i j (by omega) a c
theorem Hf {rk:Nat->Nat}{meets:Nat->Bool}:∀{L:List Nat},L.Pairwise (TH rk)->match L.find? meets with
  |none=>∀j,j∈L->meets j=false
  |some b=>b∈L/\meets b=true/\∀j,j∈L->meets j=true->j≠b->TH rk b j
 |[],_=>by intro j a;cases a
 |x::L,h=>by
  have c:=Hf (meets:=meets) (X.1 h).2;rw[Q]
  cases f:meets x with
  |true=>
   dsimp only
   refine⟨by simp,f,fun j a _ d=>?_⟩;rcases M.1 a with e|a
   ·exact absurd e d
   ·exact(X.1 h).1 j a
  |false=>
   dsimp only
   cases i:L.find? meets with
   |none=>
    rw[i]at c
    dsimp only at c ⊢
    intro j a;rcases M.1 a with e|a
    ·rw[e];exact f
    ·exact c j a
   |some b=>
    rw[i]at c
    dsimp only at c ⊢
    refine⟨by simp[c.1],c.2.1,fun j a g d=>?_⟩;rcases M.1 a with e|a
    ·subst e;rw[f]at g;cases g
    ·exact c.2.2 j a g d
theorem Fd (rk:Nat->Nat)(meets:Nat->Bool)(n:Nat):(Y0 rk n).find? meets=YK rk meets n:=by
 have d:=Hf (meets:=meets) (QY rk n);have c:=Ua rk meets n
 cases g:(Y0 rk n).find? meets with
 |none=>
  rw[g]at d
  cases f:YK rk meets n with
  |none=>rfl
  |some b=>
   rw[f]at c;have:=d b (VX.2 c.1);rw[c.2.1]at this
   cases this
 |some a=>
  rw[g]at d
  dsimp only at d
  have h:=VX.1 d.1
  cases f:YK rk meets n with
  |none=>
   rw[f]at c;have:=c a h;rw[d.2.1]at this
   cases this
  |some b=>
   rw[f]at c
   dsimp only at c
   by_cases e:a=b
   ·rw[e]
   ·have i:=d.2.2 b (VX.2 c.1) c.2.1 (fun j=>e j.symm)
    have k:=c.2.2 a h d.2.1 e;unfold TH at i k;omega
theorem OK (R:List Zc)(met:Nat)(p:ZI):∀L,Rg R met p L=L.find? (fun i=>met.testBit i&&(match R[i]? with|none=>false|some r=>VO r p))
 |[]=>rfl
 |i::L=>by
  rw[Rg,Q,OK R met p L]
  cases(met.testBit i&&(match R[i]? with|none=>false|some r=>VO r p))<;>simp
theorem Fe (rk:Nat->Nat)(n:Nat):WY n (ZE rk n)=Y0 rk n:=by
 unfold WY;apply List.ext_getElem?;intro k;rw[List.getElem?_map];have b:=VC rk n;by_cases a:k<n
 ·rw[List.getElem?_range a,gE (by omega)]
  simp only[Option.map_some,ZE,if_pos a];rw[UF (by omega)]
 ·rw[G (by simp;omega),G (by omega)]
  rfl
theorem EX (rk:Nat->Nat)(n k:Nat)(h:k<n):ZE rk n k<n:=by
 have a:=VC rk n;unfold ZE;rw[if_pos h,UF (by omega)];exact VX.1 (List.getElem_mem _)
def Y1 (R:List Zc)(p:ZI)(c i:Nat):Bool:=match R[i]? with
 |none=>false
 |some r=>decide (r.lo<=c/10^(6-r.digits))&&(decide (c/10^(6-r.digits)<=r.hi)&&VO r p)
theorem Ic (R:List Zc)(met:Nat)(p:ZI)(c:Nat)(d:∀i r,R[i]?=P r->(met.testBit i=true↔Ot r.digits r.lo r.hi c)):
  Rg R met p (WY R.length (ZE (ZA R) R.length))=YK (ZA R) (Y1 R p c) R.length:=by
 rw[OK,Fe,<-Fd]
 congr 1
 funext i
 unfold Y1
 cases f:R[i]? with
 |none=>simp
 |some r=>
  have h:=d i r f;unfold Ot at h
  dsimp only
  cases b:met.testBit i with
  |true=>
   have:=h.1 b;simp[this.1,this.2]
  |false=>
   have g:¬(r.lo<=c/10^(6-r.digits)/\c/10^(6-r.digits)<=r.hi):=fun e=>by have:=h.2 e;rw[b]at this;cases this
   by_cases a:r.lo<=c/10^(6-r.digits)
   ·have j:¬c/10^(6-r.digits)<=r.hi:=fun e=>g ⟨a,e⟩
    simp[a,j]
   ·simp[a]
def Yv (c:Bool)(a:Nat->Int)(d:Nat->Bool):List Nat->Option Nat->Option Nat
 |[],b=>b
 |x::r,b=>Yv c a d r (if d x then b else match b with
  |none=>P x
  |some y=>if c&&decide (a x<a y)then P x else P y)
theorem OL (a:Nat->Int)(b:Nat->Bool):∀(l:List Nat)(y:Nat),Yv false a b l (P y)=P y
 |[],_=>rfl
 |x::r,y=>by
  unfold Yv
  have:(if b x=true then P y else if(false&&decide (a x<a y))=true then P x else P y)=P y:=by split<;>simp
  dsimp only
  rw[this];exact OL a b r y
def Xe (a:List Zd)(b:Int)(x:Nat):Int:=match a[x]? with
 |none=>0
 |some t=>(t.base:Int)+(t.rate:Int)*b
def OM (a:List Zd)(x:Nat):ByteArray:=match a[x]? with
 |none=>Z
 |some t=>t.name
def EY (a:List Zd)(r:Zc)(b:Nat->Bool)(c:Int):Nat×ByteArray×ByteArray:=
 if r.decline then(3,r.name,Z)
 else match Yv r.cheapest (Xe a c) b r.routes J with
  |none=>(4,r.name,Z)
  |some x=>(0,r.name,OM a x)
def Xv (s:ByteArray):Bool:=decide (6<=s.size)&&(decide (s.size<=19)&&s.data.toList.all (fun c=>decide (48<=c.toNat)&&decide (c.toNat<=57)))
def Yd (p:ZI):Bool:=Xv p.pan&&(decide (0<=p.mcc)&&decide (p.mcc<=9999))&&((decide (0<=p.am)&&decide (p.am<=1000000000))&&(decide (0<=p.cur)&&decide (p.cur<=999)))
def Zz (s:ByteArray):Nat:=Yt (s.data.toList.take 6)
def TM (a:List Zd)(R:List Zc)(p:ZI)(b:Nat->Bool):Nat×ByteArray×ByteArray:=
 if Yd p then(match YK (ZA R) (Y1 R p (Zz p.pan)) R.length with
  |none=>(2,Z,Z)
  |some i=>match R[i]? with
   |none=>(2,Z,Z)
   |some r=>EY a r b p.am)
 else(1,Z,Z)
theorem Rh {l:List UInt8}(a:∀c,c∈l->48<=c.toNat/\c.toNat<=57):∀(m k:Nat),k+m<=l.length->Yt (l.take (k+m))/10^m=Yt (l.take k)
 |0,k,_=>by simp
 |m+1,k,h=>by
  have d:=Rh a m k (by omega);obtain⟨c,b⟩:∃c,l[k+m]?=P c:=⟨_,gE (by omega)⟩;have e:=a c (mG b);rw[show k+(m+1)=(k+m)+1 from by omega,A,b,Option.toList_some,UA,Nat.pow_succ,Nat.mul_comm (10^m) 10,<-Nat.div_div_eq_div_mul,show(Yt (l.take (k+m))*10+(c.toNat-48))/10=Yt (l.take (k+m))from by omega];exact d
theorem Id {l:List UInt8}(a:∀c,c∈l->48<=c.toNat/\c.toNat<=57)(f:6<=l.length)(k:Nat)(g:k<6)(c:UInt8)(b:l[k]?=P c):J0 (Yt (l.take 6)) k=c.toNat-48:=by
 unfold J0;have e:=Rh a (5-k) (k+1) (by omega);rw[show k+1+(5-k)=6 from by omega]at e;have d:=a c (mG b);rw[e,A,b,Option.toList_some,UA];omega
open Go.RowKit
theorem XJ.less {b a:Nat}{w:E}(h:a<=b):∀{l:List Zn}{d:List z3},XJ b w l d->XJ a w l d
 |[],_,e=>e
 |_::_,_,⟨c,rest,e,⟨vn,e1,h1⟩,h2⟩=>⟨c,rest,e,⟨vn,e1,oS h1 h⟩,XJ.less h h2⟩
theorem XV.less {f d:Nat}{w:E}{T:Nat}{g:z3}{R:List Zc}{e:Nat->Nat}(h:XV f w T g R e)(c:d<=f):XV d w T g R e:=by
 obtain⟨i,k,a,b,l,n,⟨o,p,q⟩,r⟩:=h.bx;refine⟨Nat.le_trans c h.tz,i,k,a,b,l,oS n c,⟨o,oS p c,fun j m s=>?_⟩,VY.low c _ _ r⟩;obtain⟨t,u,v,x,y⟩:=q j m s;exact⟨t,u,v,oS x c,y.less c⟩
theorem Ff (w:E)(B:Nat)(q x:z3)(d:List Zd)(a:List Zc)(y:List z3)(s:Nat)(b:Bk w B q x d a y)(j:YE d a)(hz:s<=B):
  Calls Tryz.prog 51 #[I (P ⟨B,0,J⟩)] w fun e w'=>(∃T,e=D (I (P ⟨T,0,J⟩))/\w.heap.size<=T/\XV s w' T q a (ZE (ZA a) a.length))/\F0 w w':=by
 have z:B<w.heap.size:=bL w _ b.c0;obtain⟨A,C,F⟩:=oL b.ro;subst F;obtain⟨G,c,H⟩:=oL b.lo;subst H;refine EW w B A d.length C G a.length c a rfl b.l8 (fun k h=>EX _ _ _ h) (fun r f=>⟨(j.rl r f).mc.1,(j.rl r f).cu.1⟩) (fun r f=>⟨⟨(j.rl r f).bn.1,(j.rl r f).bn.2.1⟩,?_⟩) (by omega) b.c0 b.c1 (fun i r t=>?_)
 ·obtain⟨l,m,n⟩:=(j.rl r f).bn
  have:10^r.digits<=10^6:=Nat.pow_le_pow_right (by omega) l;omega
 ·obtain⟨cs,⟨vm,vc,vp,e,l,m,n⟩,K⟩:=b.ru.at' t
  obtain⟨L,M,N⟩:=oL l;subst N;obtain⟨O,Q,R⟩:=oL m;subst R;obtain⟨S,U,V⟩:=oL n;subst V;have W:=(iG.1 t).1;obtain⟨g,c',p,hb,X⟩:=b.lo.form (by omega);injection p with p e8 Y;subst p Y;refine⟨g,L,M,O,Q,S,U,rfl,X,fun o v Z=>?_,oS l (by omega),oS m (by omega),oS n (by omega)⟩;have u:=b.lo.cells (g:=g) rfl _ _ (K o v (by rw[e];exact Z));rw[YN,Nat.zero_add]at u;exact u
def RS (x:Except (Nat×Nat) (List Zd×List Zc))(w:E)(e:Ending)(w':E):Prop:=
 match x with
 | .ok p=>(∃T B a b c d,e=D (.tuple #[I (P ⟨T,0,J⟩),V Y 0,V Y 0])/\w.heap.size<=T/\w'.cell? ⟨T,0,J⟩=P (I (P ⟨B,0,J⟩))/\w'.cell? ⟨T,1,J⟩=P (I (P ⟨a,0,J⟩))/\w.heap.size<=B/\Bk w' B b c p.1 p.2 d/\XV w.heap.size w' a b p.2 (ZE (ZA p.2) p.2.length))/\Below w.heap.size w w'
 | .error f=>e=D (.tuple #[I J,V Y f.1,V Y f.2])/\Below w.heap.size w w'
theorem RS.ok {x:Except (Nat×Nat) (List Zd×List Zc)}{w w':E}{e:Ending}{p:List Zd×List Zc}(h:x=.ok p):RS x w e w'↔(∃T B a b c d,e=D (.tuple #[I (P ⟨T,0,J⟩),V Y 0,V Y 0])/\w.heap.size<=T/\w'.cell? ⟨T,0,J⟩=P (I (P ⟨B,0,J⟩))/\w'.cell? ⟨T,1,J⟩=P (I (P ⟨a,0,J⟩))/\w.heap.size<=B/\Bk w' B b c p.1 p.2 d/\XV w.heap.size w' a b p.2 (ZE (ZA p.2) p.2.length))/\Below w.heap.size w w':=by subst h;exact Iff.rfl
theorem RS.err {x:Except (Nat×Nat) (List Zd×List Zc)}{w w':E}{e:Ending}{f:Nat×Nat}(h:x=.error f):RS x w e w'↔e=D (.tuple #[I J,V Y f.1,V Y f.2])/\Below w.heap.size w w':=by subst h;exact Iff.rfl
theorem Kt (s:ByteArray)(w:E):Calls Tryz.prog 32 #[.string s] w (RS (XP s) w):=by
 have o0:∀(fn:Fn)(first cap:Array z3)(w:E),(Instr.makeFunc fn first cap).run Tryz.prog w=.ok (.func fn first cap) w:=fun _ _ _ _=>rfl
 go_enter_defers Tryz.func32,Tryz.ntmps32
 go_wp2_with fail;refine(Eq s _).mono ?_;intro e L r;have l:F0 w (((w.alloc (S #[I J] 31)).alloc (S #[V Y 0] 74)).alloc (S #[V Y 0] 3)):=(((Fr.refl _ _).alloc _).alloc _).alloc _;have M:(((w.alloc (S #[I J] 31)).alloc (S #[V Y 0] 74)).alloc (S #[V Y 0] 3)).heap[w.heap.size]?=P (S #[I J] 31):=(((Fr.refl (fun _=>False) _).alloc _).alloc _).whole (aN w _) (by simp);have O:(((w.alloc (S #[I J] 31)).alloc (S #[V Y 0] 74)).alloc (S #[V Y 0] 3)).heap[w.heap.size+1]?=P (S #[V Y 0] 74):=((Fr.refl (fun _=>False) _).alloc _).whole (by have:=aN (w.alloc (S #[I J] 31)) (S #[V Y 0] 74);simpa using this) (by simp)
 have Q:(((w.alloc (S #[I J] 31)).alloc (S #[V Y 0] 74)).alloc (S #[V Y 0] 3)).heap[w.heap.size+1+1]?=P (S #[V Y 0] 3):=by have:=aN ((w.alloc (S #[I J] 31)).alloc (S #[V Y 0] 74)) (S #[V Y 0] 3);simpa using this
 have t:w.heap.size<=(((w.alloc (S #[I J] 31)).alloc (S #[V Y 0] 74)).alloc (S #[V Y 0] 3)).heap.size:=l.size;generalize((w.alloc (S #[I J] 31)).alloc (S #[V Y 0] 74)).alloc (S #[V Y 0] 3)=w0 at*
 cases z:XP s with
 |error f=>
  obtain⟨he,R⟩:=(TE.err z).1 r;unfold Zj at he;subst he;have b:F0 w0 L:=Fr.of_below R;refine leaves_cons (f:=57) (args:=#[I (P ⟨w.heap.size,0,J⟩),I (P ⟨w.heap.size+1,0,J⟩),I (P ⟨w.heap.size+1+1,0,J⟩)]) (by simp) (by simp[go_sem]) ?_;refine(Pi w.heap.size (w.heap.size+1) (w.heap.size+1+1) f.1 f.2 _ _ _ L (bC (b.whole M (by simp)) 0 _ rfl) (bC (b.whole O (by simp)) 0 _ rfl) (bC (b.whole Q (by simp)) 0 _ rfl) (bF (b.whole M (by simp)) 0) (bF (b.whole O (by simp)) 0) (bF (b.whole Q (by simp)) 0) (by omega) (by omega) (by omega) (by omega) (by omega) (by omega)).mono ?_;rintro e u' w2 ⟨rfl,rfl,U,X,Z,c⟩;have A:Below w.heap.size w w2:=(l.trans b).below (Nat.le_refl _) (by simp)|>.trans (c.below (Nat.le_trans t b.size) (fun k n=>by omega));simp[Leaves,settle,results,Tryz.results32,go_sem,U,X,Z];exact(RS.err rfl).2 ⟨rfl,A⟩
 |ok p=>
  obtain⟨⟨B,vr,vl,xs,rfl,A,n⟩,R⟩:=(TE.ok z).1 r;have b:F0 w0 L:=Fr.of_below R;have b0:=Za (Ff L B vr vl p.1 p.2 xs w0.heap.size n (Oo z) A);have HK:=Za n;have e0:=Za b;have C:=Za l;have D:=Za M;have F:=Za O;have m:=Za Q;have f0:=Za A;have HR:=Za z;clear n b R l M O Q t A r z;go_wp2_with fail;refine b0.o.mono ?_;rintro e w2 ⟨⟨q,rfl,g0,G⟩,i⟩;have g:F0 w0 w2:=e0.o.trans i;have p0:w.heap.size+1+1<w2.heap.size:=nL (iA.1 m.o).1 g.size;have d:F0 w0 (w2.alloc (S #[I (P ⟨B,0,J⟩),I (P ⟨q,0,J⟩)] 80)):=g.alloc _;have c0:=bC (d.whole D.o (by simp)) 0 _ rfl;have c1:=bC (d.whole F.o (by simp)) 0 _ rfl;have c2:=bC (d.whole m.o (by simp)) 0 _ rfl;have z0:=bF (d.whole D.o (by simp)) 0;have z1:=bF (d.whole F.o (by simp)) 0;have z2:=bF (d.whole m.o (by simp)) 0;have H:Hid (Bk w2 B vr vl p.1 p.2 xs/\XV w0.heap.size w2 q vr p.2 (ZE (ZA p.2) p.2.length)):=⟨HK.o.fr i (by simp),G⟩;have HF:=Za (C.o.trans g);have H0:Hid (w.heap.size+1+1<w0.heap.size/\w.heap.size<=w0.heap.size):=⟨(iA.1 m.o).1,C.o.size⟩;clear d g i G g0;go_wp2_with fail
  have a:∀(v:E)(x y o:Nat)(u:z3),¬x=y->(v.setCell ⟨x,0,J⟩ u).cell? ⟨y,o,J⟩=v.cell? ⟨y,o,J⟩:=fun v x y o u h=>cO _ _ _ _ (fun e=>h (by injection e))
  have r:=bC (aN w2 (S #[I (P ⟨B,0,J⟩),I (P ⟨q,0,J⟩)] 80)) 0 _ rfl;have i0:=bC (aN w2 (S #[I (P ⟨B,0,J⟩),I (P ⟨q,0,J⟩)] 80)) 1 _ rfl;have T:Fr (fun j=>j=w.heap.size\/j=w.heap.size+1\/j=w.heap.size+1+1) w2 ((((w2.alloc (S #[I (P ⟨B,0,J⟩),I (P ⟨q,0,J⟩)] 80)).setCell ⟨w.heap.size,0,J⟩ (I (P ⟨w2.heap.size,0,J⟩))).setCell ⟨w.heap.size+1,0,J⟩ (V Y 0)).setCell ⟨w.heap.size+1+1,0,J⟩ (V Y 0)):=((((Fr.refl _ _).alloc _).setCell (N (N rfl)) _).setCell (N (z6 (N rfl))) _).setCell (N (z6 (z6 rfl))) _;have d0:=(a _ (w.heap.size+1+1) w.heap.size 0 (V Y 0) (by omega)).trans ((a _ (w.heap.size+1) w.heap.size 0 (V Y 0) (by omega)).trans (cS _ _ (I (P ⟨w2.heap.size,0,J⟩)) c0));have d1:=(a _ (w.heap.size+1+1) (w.heap.size+1) 0 (V Y 0) (by omega)).trans (cS _ _ (V Y 0) ((a _ w.heap.size (w.heap.size+1) 0 (I (P ⟨w2.heap.size,0,J⟩)) (by omega)).trans c1));have d2:=cS _ _ (V Y 0) ((a _ (w.heap.size+1) (w.heap.size+1+1) 0 (V Y 0) (by omega)).trans ((a _ w.heap.size (w.heap.size+1+1) 0 (I (P ⟨w2.heap.size,0,J⟩)) (by omega)).trans c2));have dT:=(a _ (w.heap.size+1+1) w2.heap.size 0 (V Y 0) (by omega)).trans ((a _ (w.heap.size+1) w2.heap.size 0 (V Y 0) (by omega)).trans ((a _ w.heap.size w2.heap.size 0 (I (P ⟨w2.heap.size,0,J⟩)) (by omega)).trans r));have K:=(a _ (w.heap.size+1+1) w2.heap.size 1 (V Y 0) (by omega)).trans ((a _ (w.heap.size+1) w2.heap.size 1 (V Y 0) (by omega)).trans ((a _ w.heap.size w2.heap.size 1 (I (P ⟨w2.heap.size,0,J⟩)) (by omega)).trans i0));generalize((((w2.alloc (S #[I (P ⟨B,0,J⟩),I (P ⟨q,0,J⟩)] 80)).setCell ⟨w.heap.size,0,J⟩ (I (P ⟨w2.heap.size,0,J⟩))).setCell ⟨w.heap.size+1,0,J⟩ (V Y 0)).setCell ⟨w.heap.size+1+1,0,J⟩ (V Y 0))=W at*
  refine leaves_cons (f:=57) (args:=#[I (P ⟨w.heap.size,0,J⟩),I (P ⟨w.heap.size+1,0,J⟩),I (P ⟨w.heap.size+1+1,0,J⟩)]) (by simp) (by simp[go_sem]) ?_;refine(JD w.heap.size (w.heap.size+1) (w.heap.size+1+1) W).mono ?_;rintro e u' w3 ⟨rfl,rfl,c⟩;have U:=(c.cell (p:=⟨w.heap.size,0,J⟩) (bL W _ d0) (by simp)).trans d0;have X:=(c.cell (p:=⟨w.heap.size+1,0,J⟩) (bL W _ d1) (by simp)).trans d1;have Z:=(c.cell (p:=⟨w.heap.size+1+1,0,J⟩) (bL W _ d2) (by simp)).trans d2;have aT:=(c.cell (p:=⟨w2.heap.size,0,J⟩) (bL W _ dT) (by simp)).trans dT;have j0:=(c.cell (p:=⟨w2.heap.size,1,J⟩) (bL W _ K) (by simp)).trans K;obtain⟨h0,k0⟩:=H0.o;have hb:=f0.o;have l0:=(H.o.1.fr T (fun k n=>by omega)).fr c (by simp);have m0:=((H.o.2.fr T (fun k n=>by omega)).fr c (by simp)).less k0;have n0:Below w.heap.size w w3:=(HF.o.below (Nat.le_refl _) (by simp)).trans ((T.below (by omega) (fun k n=>by omega)).trans (c.below (by have:=T.size;omega) (by simp)));simp[Leaves,settle,results,Tryz.results32,go_sem,U,X,Z];exact(RS.ok HR.o).2 ⟨⟨_,_,_,_,_,_,rfl,by omega,aT,j0,by omega,l0,m0⟩,n0⟩
