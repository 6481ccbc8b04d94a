import Derived.Test.YtccikgogjfbpeaaGreatDoorAp
import Derived.Test.YtccikgogjfbpeaaGreatDoorAm
open Option renaming some->I,none->J
open Go.Value renaming int->V,bool->Z,pointer->H,slice->G,string->M,bool->z4,agg->y7
open Go.IntKind renaming i64->Y,u8->z7,u8->q9
open Go.Proofs.Tryz renaming prog->U
open _root_.ByteArray renaming empty->O
open Go.Ending renaming returned->E,returned->z1
open Go.RowKit renaming Hid->N
open Go renaming Calls->C,World->z3,Value->q6
open Go.Obj renaming cells->z0
open Or renaming inr->z2,inl->z6
open Bool renaming false_eq_true->z5,true_and->z8,false_and->y8
open List renaming mem_append->z9,getElem?_map->y0,mem_cons->y2,getElem?_eq_none->y3,getElem?_range->y4,getElem?_append_left->y5,getElem?_cons_succ->y6,getElem?_toArray->y9,all_cons->x4,pairwise_cons->x5,take_add_one->x6,length_cons->x7,all_append->x8,find?_cons->x9,drop_zero->q4,any_cons->q5
open Nat renaming zero_le->y1,zero_add->q7,le_of_eq->q8
namespace Go.Proofs.YtccikgogjfbpeaaGreatDoor
set_option maxRecDepth 30000
set_option maxHeartbeats 8000000
structure WC where
 pan:ByteArray
 mcc:Int
 am:Int
 cur:Int
def Ul (l:List Nat)(n:Int):Bool:=l.any (fun x=>decide ((x:Int)=n))
def RN (p:WC)(s:Zl):Bool:=
 if s.sort=0 then Ul s.nums p.mcc else if s.sort=1 then decide (((s.nums.getD 0 0:Nat):Int)<=p.am)&&decide (p.am<=((s.nums.getD 1 0:Nat):Int))else Ul s.nums p.cur
def Mi (r:Ze)(p:WC):Bool:=match r.am with
 |none=>true
 |some a=>decide ((a.1:Int)<=p.am)&&decide (p.am<=(a.2:Int))
def V9 (r:Ze)(p:WC):Bool:=(decide (r.mcc=[])||Ul r.mcc p.mcc)&&(Mi r p&&(decide (r.cur=[])||Ul r.cur p.cur))
theorem CL (r p):(Z4 r).all (RN p)=V9 r p:=by
 unfold Z4 V9 Mi;rw[x8,x8]
 have a:(if r.mcc=[]then[]else[(⟨0,r.mcc,0,0⟩:Zl)]).all (RN p)=(decide (r.mcc=[])||Ul r.mcc p.mcc):=by
  split
  ·rename_i h;simp[h]
  rename_i h;simp[h,RN]
 have b:(if r.cur=[]then[]else[(⟨2,r.cur,0,0⟩:Zl)]).all (RN p)=(decide (r.cur=[])||Ul r.cur p.cur):=by
  split
  ·rename_i h;simp[h]
  rename_i h;simp[h,RN]
 rw[a,b]
 cases r.am with
 |none=>simp
 |some c=>simp[RN]
def XN (b:Zl->Bool)(l:List Zl):Nat->Nat->Option Zl
 |0,_=>J
 |n+1,a=>match l[a]? with
  |none=>J
  |some s=>if s.sort<3 then XN b l n (if b s then a+1 else a+s.skip)else I s
theorem Mj (b:Zl->Bool)(pre l:List Zl):∀(n a:Nat),XN b (pre++l) n (pre.length+a)=XN b l n a
 |0,_=>rfl
 |n+1,a=>by
  unfold XN;rw[aR (by omega),show pre.length+a-pre.length=a from by omega]
  cases l[a]? with
  |none=>rfl
  |some s=>
   dsimp only
   split
   ·rw[show(if b s=true then pre.length+a+1 else pre.length+a+s.skip)=pre.length+(if b s=true then a+1 else a+s.skip)from by split<;>omega]
    exact Mj b pre l n _
   rfl
theorem PL (m:Nat):∀(l:List Zl)(a j:Nat)(s:Zl),l[j]?=I s->(ZN m a l)[j]?=I {s with skip:=m-(a+j)+1}
 |[],_,_,_,h=>by simp at h
 |x::r,a,0,s,h=>by
  simp at h;subst h;simp[ZN]
 |x::r,a,j+1,s,h=>by
  rw[y6]at h;simp only[ZN,y6];rw[PL m r (a+1) j s h,show a+1+j=a+(j+1)from by omega]
theorem I5 (p s k):RN p {s with skip:=k}=RN p s:=rfl
theorem VG (m:Nat):∀(a:Nat)(l:List Zl),(ZN m a l).length=l.length
 |_,[]=>rfl
 |a,_::r=>by show(ZN m (a+1) r).length+1=r.length+1;rw[VG m (a+1) r]
theorem Oo (p:WC)(b:List Zl)(d:∀s,s∈b->s.sort<3)(c:Zl)(g:¬c.sort<3)(a:List Zl)(n:Nat)(R:Option Zl)(m:XN (RN p) a n 0=R)(o:0<n):
  ∀(k j:Nat),k+j=b.length->XN (RN p) (ZN b.length 0 b++c::a) (n+k) j=if(b.drop j).all (RN p)then I c else XN (RN p) (ZN b.length 0 b++c::a) (n+k) j
 |0,j,h=>by
  rw[dL (by omega)];simp only[List.all_nil,if_true];obtain⟨i,rfl⟩:∃i,n=i+1:=⟨n-1,by omega⟩;rw[Nat.add_zero,XN,aR (by rw[VG];omega),VG,show j-b.length=0 from by omega];simp[g]
 |k+1,j,h=>by
  have l:=Oo p b d c g a n R m o k (j+1) (by omega);obtain⟨s,f⟩:∃s,b[j]?=I s:=⟨_,gE (by omega)⟩
  have q:b.drop j=s::b.drop (j+1):=by
   obtain⟨r,t⟩:=iG.1 f;rw[dC r,t]
  rw[q,x4]
  cases u:RN p s with
  |false=>simp
  |true=>
   rw[z8]
   split
   ·rename_i e
    rw[if_pos e]at l
    show XN (RN p) _ (n+k+1) j=_
    rw[XN,y5 (by rw[VG];omega),PL _ b 0 j s f]
    dsimp only
    rw[if_pos (d s (mG f)),I5,u,if_pos rfl];exact l
   rfl
theorem Kp (p:WC)(b:List Zl)(f:∀s,s∈b->s.sort<3)(c:Zl)(a:List Zl)(n:Nat)(R:Option Zl)(l:XN (RN p) a n 0=R):
  ∀(k j:Nat),k+j=b.length->(b.drop j).all (RN p)=false->∃d,XN (RN p) (ZN b.length 0 b++c::a) d j=R
 |0,j,h,hf=>by
  rw[dL (by omega)]at hf;simp at hf
 |k+1,j,h,hf=>by
  obtain⟨s,g⟩:∃s,b[j]?=I s:=⟨_,gE (by omega)⟩
  have m:b.drop j=s::b.drop (j+1):=by
   obtain⟨o,q⟩:=iG.1 g;rw[dC o,q]
  rw[m,x4]at hf
  have one:∀d,XN (RN p) (ZN b.length 0 b++c::a) (d+1) j=XN (RN p) (ZN b.length 0 b++c::a) d (if RN p s then j+1 else j+(b.length-(0+j)+1)):=by
   intro d;rw[XN,y5 (by rw[VG];omega),PL _ b 0 j s g]
   dsimp only
   rw[if_pos (f s (mG g)),I5]
  cases i:RN p s with
  |true=>
   rw[i,z8]at hf;obtain⟨d,e⟩:=Kp p b f c a n R l k (j+1) (by omega) hf;exact⟨d+1,by rw[one,i];exact e⟩
  |false=>
   refine⟨n+1,?_⟩;rw[one,i,if_neg (by simp),show j+(b.length-(0+j)+1)=(ZN b.length 0 b++[c]).length+0 from by rw[List.length_append,VG];simp;omega,show ZN b.length 0 b++c::a=(ZN b.length 0 b++[c])++a from by simp,Mj];exact l
theorem Oq (r):∀s,s∈Z4 r->s.sort<3:=by
 intro s a;unfold Z4 at a;rw[z9,z9]at a;rcases a with h|h|h
 ·split at h
  ·cases h
  simp at h;subst h;simp
 ·cases b:r.am with
  |none=>rw[b]at h;cases h
  |some c=>rw[b]at h;simp at h;subst h;simp
 split at h
 ·cases h
 simp at h;subst h;simp
theorem Q0 (i r):¬(UG i r).sort<3:=by
 unfold UG
 split
 ·simp
 split<;>simp
def Qi (R:List Ze)(met:Nat)(p:WC):List Nat->Option Nat
 |[]=>J
 |i::L=>if met.testBit i&&(match R[i]? with|none=>false|some r=>V9 r p)then I i else Qi R met p L
def Qj (R:List Ze):Option Nat->Zl
 |none=>⟨6,[],0,0⟩
 |some i=>match R[i]? with
  |none=>⟨6,[],0,0⟩
  |some r=>UG i r
theorem Mk (R:List Ze)(met:Nat)(p:WC):∀(L:List Nat),∃n,XN (RN p) (ZI R met L) n 0=I (Qj R (Qi R met p L))
 |[]=>⟨1,by simp[XN,ZI,Qj,Qi]⟩
 |i::L=>by
  obtain⟨n,b⟩:=Mk R met p L;simp only[ZI,Qi]
  cases k:met.testBit i with
  |false=>simpa using⟨n,b⟩
  |true=>
   simp only[if_true,z8]
   cases f:R[i]? with
   |none=>simpa using⟨n,b⟩
   |some r=>
    dsimp only
    have c:=CL r p
    split
    ·rename_i g
     rw[g]at c;simp at c;rw[<-c];exact⟨1,by simp[XN,Q0,Qj,f]⟩
    rename_i g
    have h:0<n:=by
     cases n with
     |zero=>simp[XN]at b
     |succ n=>omega
    by_cases a:V9 r p=true
    ·have e:=Oo p (Z4 r) (Oq r) (UG i r) (Q0 i r) (ZI R met L) n _ b h (Z4 r).length 0 (by omega)
     rw[q4,c,a,if_pos rfl]at e;rw[if_pos a];exact⟨_,by rw[Sd,e];simp[Qj,f]⟩
    have d:V9 r p=false:=by simpa using a
    obtain⟨j,e⟩:=Kp p (Z4 r) (Oq r) (UG i r) (ZI R met L) n _ b (Z4 r).length 0 (by omega) (by rw[q4,c,d]);rw[if_neg a];exact⟨j,by rw[Sd,e]⟩
def YF (rk:Nat->Nat)(meets:Nat->Bool):Nat->Option Nat
 |0=>J
 |n+1=>if meets n&&(match YF rk meets n with|none=>true|some b=>decide (rk b<rk n))then I n else YF rk meets n
theorem Ur (rk:Nat->Nat)(meets:Nat->Bool):∀n,match YF rk meets n with
  |none=>∀j,j<n->meets j=false
  |some b=>b<n/\meets b=true/\∀j,j<n->meets j=true->j≠b->Ss rk b j
 |0=>by intro j g;omega
 |n+1=>by
  have d:=Ur rk meets n;unfold YF
  cases k:YF rk meets n with
  |none=>
   rw[k]at d
   dsimp only at d ⊢
   rw[Bool.and_true]
   cases h:meets n with
   |true=>
    simp only[if_true];refine⟨by omega,h,fun j g a c=>?_⟩;have:=d j (by omega);rw[this]at a
    cases a
   |false=>
    simp only[z5,if_false];intro j g;by_cases e:j=n
    ·subst e;exact h
    exact d j (by omega)
  |some b=>
   rw[k]at d
   dsimp only at d ⊢
   obtain⟨m,l,i⟩:=d
   cases h:meets n with
   |true=>
    rw[z8];by_cases f:rk b<rk n
    ·simp only[f,decide_true,if_true]
     refine⟨by omega,h,fun j g a c=>?_⟩;by_cases e:j=b
     ·subst e;exact z6 f
     have:=i j (by omega) a e
     unfold Ss at*;omega
    simp only[f,decide_false,z5,if_false]
    refine⟨by omega,l,fun j g a c=>?_⟩;by_cases e:j=n
    ·subst e
     unfold Ss;omega
    exact i j (by omega) a c
   |false=>
    simp only[y8,z5,if_false];refine⟨by omega,l,fun j g a c=>?_⟩;by_cases e:j=n
    ·subst e
     rw[h]at a
     cases a
    exact i j (by omega) a c
theorem Dh {rk:Nat->Nat}{meets:Nat->Bool}:∀{L:List Nat},L.Pairwise (Ss rk)->match L.find? meets with
  |none=>∀j,j∈L->meets j=false
  |some b=>b∈L/\meets b=true/\∀j,j∈L->meets j=true->j≠b->Ss rk b j
 |[],_=>by intro j a;cases a
 |x::L,h=>by
  have c:=Dh (meets:=meets) (x5.1 h).2;rw[x9]
  cases f:meets x with
  |true=>
   dsimp only
   refine⟨by simp,f,fun j a _ d=>?_⟩;rcases y2.1 a with e|a
   ·exact absurd e d
   exact(x5.1 h).1 j a
  |false=>
   dsimp only
   cases i:L.find? meets with
   |none=>
    rw[i]at c
    dsimp only at c ⊢
    intro j a;rcases y2.1 a with e|a
    ·rw[e];exact f
    exact c j a
   |some b=>
    rw[i]at c
    dsimp only at c ⊢
    refine⟨by simp[c.1],c.2.1,fun j a g d=>?_⟩;rcases y2.1 a with e|a
    ·subst e;rw[f]at g;cases g
    exact c.2.2 j a g d
theorem CM (rk meets n):(Xd rk n).find? meets=YF rk meets n:=by
 have d:=Dh (meets:=meets) (Oh rk n);have c:=Ur rk meets n
 cases g:(Xd rk n).find? meets with
 |none=>
  rw[g]at d
  cases f:YF rk meets n with
  |none=>rfl
  |some b=>
   rw[f]at c;have:=d b (Uf.2 c.1);rw[c.2.1]at this
   cases this
 |some a=>
  rw[g]at d
  dsimp only at d
  have h:=Uf.1 d.1
  cases f:YF rk meets n with
  |none=>
   rw[f]at c;have:=c a h;rw[d.2.1]at this
   cases this
  |some b=>
   rw[f]at c
   dsimp only at c
   by_cases e:a=b
   ·rw[e]
   have i:=d.2.2 b (Uf.2 c.1) c.2.1 (fun j=>e j.symm)
   have k:=c.2.2 a h d.2.1 e;unfold Ss at i k;omega
theorem Ml (R:List Ze)(met:Nat)(p:WC):∀L,Qi R met p L=L.find? (fun i=>met.testBit i&&(match R[i]? with|none=>false|some r=>V9 r p))
 |[]=>rfl
 |i::L=>by
  rw[Qi,x9,Ml R met p L]
  cases(met.testBit i&&(match R[i]? with|none=>false|some r=>V9 r p))<;>simp
theorem CN (rk n):X6 n (Zx rk n)=Xd rk n:=by
 unfold X6;apply List.ext_getElem?;intro k;rw[y0];have b:=VU rk n;by_cases a:k<n
 ·rw[y4 a,gE (by omega)]
  simp only[Option.map_some,Zx,if_pos a];rw[UZ (by omega)]
 rw[y3 (by simp;omega),y3 (by omega)]
 rfl
theorem A6 (rk n k)(h:k<n):Zx rk n k<n:=by
 have a:=VU rk n;unfold Zx;rw[if_pos h,UZ (by omega)];exact Uf.1 (List.getElem_mem _)
def YX (R:List Ze)(p:WC)(c i:Nat):Bool:=match R[i]? with
 |none=>false
 |some r=>decide (r.lo<=c/10^(6-r.digits))&&(decide (c/10^(6-r.digits)<=r.hi)&&V9 r p)
theorem FR (R met p c)(d:∀i r,R[i]?=I r->(met.testBit i=true↔RF r.digits r.lo r.hi c)):
  Qi R met p (X6 R.length (Zx (Zv R) R.length))=YF (Zv R) (YX R p c) R.length:=by
 rw[Ml,CN,<-CM]
 congr 1
 funext i
 unfold YX
 cases f:R[i]? with
 |none=>simp
 |some r=>
  have h:=d i r f;unfold RF at h
  dsimp only
  cases b:met.testBit i with
  |true=>
   have:=h.1 b;simp[this.1,this.2]
  |false=>
   have g:¬(r.lo<=c/10^(6-r.digits)/\c/10^(6-r.digits)<=r.hi):=fun e=>by have:=h.2 e;rw[b]at this;cases this
   by_cases a:r.lo<=c/10^(6-r.digits)
   ·have j:¬c/10^(6-r.digits)<=r.hi:=fun e=>g ⟨a,e⟩
    simp[a,j]
   simp[a]
def YK (c:Bool)(a:Nat->Int)(d:Nat->Bool):List Nat->Option Nat->Option Nat
 |[],b=>b
 |x::r,b=>YK c a d r (if d x then b else match b with
  |none=>I x
  |some y=>if c&&decide (a x<a y)then I x else I y)
theorem Mm (a:Nat->Int)(b:Nat->Bool):∀(l:List Nat)(y:Nat),YK false a b l (I y)=I y
 |[],_=>rfl
 |x::r,y=>by
  unfold YK
  have:(if b x=true then I y else if(false&&decide (a x<a y))=true then I x else I y)=I y:=by split<;>simp
  dsimp only
  rw[this];exact Mm a b r y
def XO (rts:List Zf)(a:Int)(x:Nat):Int:=match rts[x]? with
 |none=>0
 |some t=>(t.base:Int)+(t.rate:Int)*a
def Mn (rts:List Zf)(x:Nat):ByteArray:=match rts[x]? with
 |none=>O
 |some t=>t.name
def A7 (rts:List Zf)(r:Ze)(a:Nat->Bool)(b:Int):Nat×ByteArray×ByteArray:=
 if r.decline then(3,r.name,O)
 else match YK r.cheapest (XO rts b) a r.routes J with
  |none=>(4,r.name,O)
  |some x=>(0,r.name,Mn rts x)
def XP (s:ByteArray):Bool:=decide (6<=s.size)&&(decide (s.size<=19)&&s.data.toList.all (fun c=>decide (48<=c.toNat)&&decide (c.toNat<=57)))
def Y5 (p:WC):Bool:=XP p.pan&&(decide (0<=p.mcc)&&decide (p.mcc<=9999))&&((decide (0<=p.am)&&decide (p.am<=1000000000))&&(decide (0<=p.cur)&&decide (p.cur<=999)))
def Zy (s:ByteArray):Nat:=Yu (s.data.toList.take 6)
def TR (rts:List Zf)(R:List Ze)(p:WC)(a:Nat->Bool):Nat×ByteArray×ByteArray:=
 if Y5 p then(match YF (Zv R) (YX R p (Zy p.pan)) R.length with
  |none=>(2,O,O)
  |some i=>match R[i]? with
   |none=>(2,O,O)
   |some r=>A7 rts r a p.am)
 else(1,O,O)
theorem Qk {l:List UInt8}(a:∀c,c∈l->48<=c.toNat/\c.toNat<=57):∀(m k:Nat),k+m<=l.length->Yu (l.take (k+m))/10^m=Yu (l.take k)
 |0,k,_=>by simp
 |m+1,k,h=>by
  have d:=Qk a m k (by omega);obtain⟨c,b⟩:∃c,l[k+m]?=I c:=⟨_,gE (by omega)⟩;have e:=a c (mG b);rw[show k+(m+1)=(k+m)+1 from by omega,x6,b,Option.toList_some,UU,Nat.pow_succ,Nat.mul_comm (10^m) 10,<-Nat.div_div_eq_div_mul,show(Yu (l.take (k+m))*10+(c.toNat-48))/10=Yu (l.take (k+m))from by omega];exact d
theorem FSq {l:List UInt8}(a:∀c,c∈l->48<=c.toNat/\c.toNat<=57)(f:6<=l.length)(k)(g:k<6)(c)(b:l[k]?=I c):Iu (Yu (l.take 6)) k=c.toNat-48:=by
 unfold Iu;have e:=Qk a (5-k) (k+1) (by omega);rw[show k+1+(5-k)=6 from by omega]at e;have d:=a c (mG b);rw[e,x6,b,Option.toList_some,UU];omega
open Go.RowKit
def PM (n:Int):Nat->List Nat->Int
 |_,[]=> -1
 |i,x::r=>if(n==(x:Int))=true then(i:Int)else PM n (i+1) r
theorem Di (n:Int):∀(l:List Nat)(i:Nat),decide (0<=PM n i l)=Ul l n
 |[],_=>rfl
 |x::r,i=>by
  unfold PM Ul;rw[q5];by_cases h:n=(x:Int)
  ·have a:=h.symm
   simp[h]
  have a:¬(x:Int)=n:=fun e=>h e.symm
  have e:(n==(x:Int))=false:=by simpa using h
  rw[e,if_neg (by simp),Di n r (i+1)];simp[a,Ul]
def Uy (s:ByteArray):Nat->List ByteArray->Int
 |_,[]=> -1
 |i,x::r=>if(s.toList==x.toList)=true then(i:Int)else Uy s (i+1) r
def JE (l:List ByteArray)(s:ByteArray):Bool:=l.any (fun x=>s.toList==x.toList)
theorem Dj (s:ByteArray):∀(l:List ByteArray)(i:Nat),decide (0<=Uy s i l)=JE l s
 |[],_=>rfl
 |x::r,i=>by
  unfold Uy JE;rw[q5]
  cases h:(s.toList==x.toList)with
  |true=>simp
  |false=>
   rw[if_neg (by simp),Dj s r (i+1)];simp[JE]
def Zu (w:z3)(a:Option Addr)(l:List Nat):Prop:=∀k x,l[k]?=I x->∃g,a=I ⟨g,0,J⟩/\w.cell? ⟨g,k,J⟩=I (V Y (x:Nat))
theorem Zu.of {w base c a l}(h:w.ownsRow base 3 1 (G a l.length c) l.length (Zg l)):Zu w a l:=by
 intro k x b;have i:=(iG.1 b).1;obtain⟨g,j,e,_,_⟩:=h.form (by omega);injection e with f m n;subst f;refine⟨g,rfl,?_⟩;have d:=h.cells (g:=g) rfl k (V Y (x:Nat)) (by unfold Zg;rw[y0,b];rfl);rw[Yc,q7]at d;exact d
def Ye (w:z3)(a:Option Addr)(l:List ByteArray):Prop:=∀k s,l[k]?=I s->∃g o,a=I ⟨g,o,J⟩/\w.cell? ⟨g,o+k,J⟩=I (M s)
theorem Ye.fr {w w' S a l}(h:Ye w a l)(d:Fr S w w')(e:∀g o,a=I ⟨g,o,J⟩->¬S g:=by simp):Ye w' a l:=by
 intro k s f;obtain⟨g,o,b,c⟩:=h k s f;exact⟨g,o,b,(d.cell (p:=⟨g,o+k,J⟩) (bL w _ c) (e g o b)).trans c⟩
theorem FT (w a c l)(n:Int)(h:Zu w a l)(t:l.length<=4000):
  C U 241 #[G a l.length c,V Y n] w fun e w'=>e=E (V Y (PM n 0 l))/\w'=w:=by
 have u:=Za h;obtain⟨m,j⟩:∃m,l.length=m:=⟨_,rfl⟩;have p:=Za j;rw[j]at t ⊢;go_enter Tryz.func241,Tryz.ntmps241;go_wp2_with fail
 go_loop [5,8] (fun _ i=>∃k:Nat,k<=m/\i=V Y k/\N (PM n 0 l=PM n k (l.drop k))) (fun _ i=>m-(intOf i).toNat)
 case atStart=>exact⟨0,y1 _,rfl,rfl⟩
 obtain⟨k,A,rfl,d⟩:=hrel;by_cases v:k<m
 ·have f:(k:Int)<(m:Int):=by omega
  obtain⟨x,q⟩:∃x,l[k]?=I x:=⟨_,gE (by have:=p.o;omega)⟩;obtain⟨g,rfl,B⟩:=u.o k x q
  have r:N (l.drop k=x::l.drop (k+1)):=by
   obtain⟨y,z⟩:=iG.1 q
   show _=_
   rw[dC y,z]
  cases s:(n==(x:Int))with
  |true=>
   have b:N (PM n 0 l=(k:Int)):=by show _=_;rw[d.o,r.o];simp only[PM];rw[if_pos s]
   go_wp2;go_ret;exact⟨ZO b.o.symm,rfl⟩
  |false=>
   have b:N (PM n 0 l=PM n (k+1) (l.drop (k+1))):=by show _=_;rw[d.o,r.o];simp only[PM];rw[if_neg (by simp[s])]
   go_wp2;exact⟨⟨k+1,by omega,by go_num,b⟩,by simp[intOf];omega⟩
 have f:¬(k:Int)<(m:Int):=by omega
 have b:N (PM n 0 l= -1):=by show _=_;rw[d.o,dL (by have:=p.o;omega)];rfl
 go_wp2;go_ret;exact⟨ZO b.o.symm,rfl⟩
theorem LD (w a c l)(n:Int)(h:Zu w a l)(f:l.length<=4000):
  C U 207 #[G a l.length c,V Y n] w fun e w'=>e=E (Z (Ul l n))/\w'=w:=by
 have g:=Za (FT w a c l n h f);have i:=Za (Di n l 0);generalize PM n 0 l=x at*;go_enter Tryz.func207,Tryz.ntmps207;go_wp2_with fail;refine g.o.mono ?_;rintro e j ⟨rfl,d⟩;replace d:=d.symm;subst d;go_wp2;go_ret;exact⟨congrArg (fun b=>z1 (z4 b)) i.o,rfl⟩
theorem Mo (w a c l s)(h:Ye w a l)(j:l.length<=maxLen):
  C U 66 #[G a l.length c,M s] w fun e w'=>e=E (V Y (Uy s 0 l))/\w'=w:=by
 have u:=Za h;unfold maxLen at j;obtain⟨m,n⟩:∃m,l.length=m:=⟨_,rfl⟩;have p:=Za n;rw[n]at j ⊢
 have v:(m:Int)<=9223372036854775807:=by omega
 go_enter Tryz.func66,Tryz.ntmps66;go_wp2_with fail
 go_loop [5,8] (fun _ i=>∃k:Nat,k<=m/\i=V Y k/\N (Uy s 0 l=Uy s k (l.drop k))) (fun _ i=>m-(intOf i).toNat)
 case atStart=>exact⟨0,y1 _,rfl,rfl⟩
 obtain⟨k,B,rfl,d⟩:=hrel;by_cases y:k<m
 ·have f:(k:Int)<(m:Int):=by omega
  obtain⟨x,q⟩:∃x,l[k]?=I x:=⟨_,gE (by have:=p.o;omega)⟩;obtain⟨g,o,rfl,D⟩:=u.o k x q
  have r:N (l.drop k=x::l.drop (k+1)):=by
   obtain⟨z,A⟩:=iG.1 q
   show _=_
   rw[dC z,A]
  cases t:(s.toList==x.toList)with
  |true=>
   have b:N (Uy s 0 l=(k:Int)):=by show _=_;rw[d.o,r.o];simp only[Uy];rw[if_pos t]
   go_wp2;go_ret;exact⟨ZO b.o.symm,rfl⟩
  |false=>
   have b:N (Uy s 0 l=Uy s (k+1) (l.drop (k+1))):=by show _=_;rw[d.o,r.o];simp only[Uy];rw[if_neg (by simp[t])]
   go_wp2;exact⟨⟨k+1,by omega,by go_num,b⟩,by simp[intOf];omega⟩
 have f:¬(k:Int)<(m:Int):=by omega
 have b:N (Uy s 0 l= -1):=by show _=_;rw[d.o,dL (by have:=p.o;omega)];rfl
 go_wp2;go_ret;exact⟨ZO b.o.symm,rfl⟩
theorem LE (w a c l s)(h:Ye w a l)(f:l.length<=maxLen):
  C U 38 #[G a l.length c,M s] w fun e w'=>e=E (Z (JE l s))/\w'=w:=by
 have g:=Za (Mo w a c l s h f);have i:=Za (Dj s l 0);generalize Uy s 0 l=x at*;go_enter Tryz.func38,Tryz.ntmps38;go_wp2_with fail;refine g.o.mono ?_;rintro e j ⟨rfl,d⟩;replace d:=d.symm;subst d;go_wp2;go_ret;exact⟨congrArg (fun b=>z1 (z4 b)) i.o,rfl⟩
theorem CO (w)(n m:Int):
  C U 111 #[V Y n,V Y m] w fun e w'=>e=E (Z (decide (0<=n)&&decide (n<=m)))/\w'=w:=by
 by_cases a:0<=n
 ·by_cases c:n<=m
  all_goals
   go_enter Tryz.func111,Tryz.ntmps111;go_wp2;go_ret;exact⟨congrArg (fun b=>z1 (z4 b)) (by simp[a,c]),rfl⟩
 go_enter Tryz.func111,Tryz.ntmps111
 go_wp2;go_ret;exact⟨congrArg (fun b=>z1 (z4 b)) (by simp;omega),rfl⟩
def Xt (s:ByteArray)(k:Nat):Bool:=(s.data.toList.drop k).all (fun c=>decide (48<=c.toNat)&&decide (c.toNat<=57))
theorem Q4 (s k)(h:k<s.size):Xt s k=(iD (ZC s k)&&Xt s (k+1)):=by
 unfold Xt
 have a:k<s.data.toList.length:=by simpa using h
 rw[dC a,x4]
 congr 1
 unfold iD ZC;rw[gD,gE a];simp only[Option.getD_some];rw[<-Bool.decide_and]
 congr 1
 apply propext;omega
theorem Os (s k)(h:s.size<=k):Xt s k=true:=by
 unfold Xt;rw[dL (by simpa using h)];rfl
theorem LF (s w)(t:s.size<=3000):
  C U 164 #[M s] w fun e w'=>e=E (Z (Xt s 0))/\F0 w w':=by
 have h:=fun w=>Lib.run_convert_string_bytes (P:=U) w 9 50 5 s Tryz.underlying9 Tryz.underlying50 Tryz.underlying5
 go_enter Tryz.func164,Tryz.ntmps164;go_wp2_with fail;have n:N (F0 w (Lib.bytesWorld w 5 s)):=Wk _ _ _
 have a:∀j,j<s.size->(Lib.bytesWorld w 5 s).cell? ⟨w.heap.size,j,J⟩=I (V z7 (ZC s j)):=fun j q=>by
  have:=Lib.bytesWorld_cell w 5 s j q
  simpa[ZC]using this
 have r:=Za a;clear a h;generalize Lib.bytesWorld w 5 s=W at*;generalize grownCap _ _ _ _=cap at*
 go_loop [4,8] (fun _ i=>∃k:Nat,k<=s.size/\i=V Y k/\N (Xt s 0=Xt s k)) (fun _ i=>s.size-(intOf i).toNat)
 case atStart=>exact⟨0,y1 _,rfl,rfl⟩
 obtain⟨k,u,rfl,l⟩:=hrel;by_cases d:k<s.size
 ·have v:=r.o k d
  have m:(k:Int)<(s.size:Int):=by omega
  have f:=Za (Q4 s k d)
  have g:N (∀W,C U 188 #[V z7 (ZC s k)] W fun e w'=>e=E (Z (iD (ZC s k)))/\w'=W):=fun W=>Tg _ W
  generalize ZC s k=b at*
  cases p:iD b with
  |true=>
   rw[p]at g f;go_wp2_with fail;refine(g.o _).mono ?_;rintro e w2 ⟨rfl,c⟩;replace c:=c.symm;subst c;go_wp2;exact⟨⟨k+1,by omega,by go_num,by show _=_;rw[l.o,f.o,z8]⟩,by simp[intOf];omega⟩
  |false=>
   rw[p]at g f;go_wp2_with fail;refine(g.o _).mono ?_;rintro e w2 ⟨rfl,c⟩;replace c:=c.symm;subst c;go_wp2;go_ret;exact⟨congrArg (fun b=>z1 (z4 b)) (by rw[l.o,f.o,y8]),n.o⟩
 have m:¬(k:Int)<(s.size:Int):=by omega
 go_wp2;go_ret;exact⟨congrArg (fun b=>z1 (z4 b)) (by rw[l.o,Os s k (by omega)]),n.o⟩
theorem CP (s w)(h:s.size<=maxLen):
  C U 110 #[M s] w fun e w'=>e=E (Z (XP s))/\F0 w w':=by
 have c:XP s=(decide (6<=s.size)&&(decide (s.size<=19)&&Xt s 0)):=rfl;unfold maxLen at h
 have k:(s.size:Int)<=9223372036854775807:=by omega
 by_cases d:6<=s.size
 ·have i:(6:Int)<=(s.size:Int):=by omega
  by_cases a:s.size<=19
  ·have f:(s.size:Int)<=19:=by omega
   have l:N (∀W,C U 164 #[M s] W fun e w'=>e=E (Z (Xt s 0))/\F0 W w'):=fun W=>LF s W (by omega)
   have g:N (XP s=Xt s 0):=by show _=_;rw[c];simp[d,a]
   clear h c d a;go_enter Tryz.func110,Tryz.ntmps110;go_wp2_with fail;refine(l.o _).mono ?_;rintro e w2 ⟨rfl,j⟩;have m:=Za j;clear j;go_wp2;go_ret;exact⟨congrArg (fun b=>z1 (z4 b)) g.o.symm,m.o⟩
  have f:¬(s.size:Int)<=19:=by omega
  have g:N (XP s=false):=by show _=_;rw[c];simp[a]
  clear h c d a;go_enter Tryz.func110,Tryz.ntmps110;go_wp2;go_ret;exact⟨congrArg (fun b=>z1 (z4 b)) g.o.symm,Fr.refl _ _⟩
 have i:¬(6:Int)<=(s.size:Int):=by omega
 have g:N (XP s=false):=by show _=_;rw[c];simp[d]
 clear h c d;go_enter Tryz.func110,Tryz.ntmps110;go_wp2;go_ret;exact⟨congrArg (fun b=>z1 (z4 b)) g.o.symm,Zt⟩
def UC (b:Nat)(p:WC)(a:Nat->Bool)(k:Nat)(done:Bool)(o:Nat×ByteArray×ByteArray):Obj:=
 z0 #[H (I ⟨b,0,J⟩),M p.pan,V Y p.mcc,V Y p.am,V Y p.cur,Z (a 0),Z (a 1),Z (a 2),Z (a 3),Z (a 4),Z (a 5),V Y (k:Nat),Z done,V Y (o.1:Nat),M o.2.1,M o.2.2] 127
theorem Dk {w:z3}{Q a k p b d o}(h:w.heap[Q]?=I (UC a p b k d o))(k'):(w.setCell ⟨Q,11,J⟩ (V Y (k':Nat))).heap[Q]?=I (UC a p b k' d o):=by
 have e:=heap_setCell_same w Q 11 _ _ (V Y (k':Nat)) h
 simpa[UC]using e
theorem vw {w:z3}{Q a k p b d o}(h:w.heap[Q]?=I (UC a p b k d o)):(w.setCell ⟨Q,12,J⟩ (Z true)).heap[Q]?=I (UC a p b k true o):=by
 have e:=heap_setCell_same w Q 12 _ _ (Z true) h
 simpa[UC]using e
theorem vx {w:z3}{Q b k p c d o}(h:w.heap[Q]?=I (UC b p c k d o))(a):(((w.setCell ⟨Q,13,J⟩ (V Y (a.1:Nat))).setCell ⟨Q,14,J⟩ (M a.2.1)).setCell ⟨Q,15,J⟩ (M a.2.2)).heap[Q]?=I (UC b p c k d a):=by
 have e:=heap_setCell_same _ Q 15 _ _ (M a.2.2) (heap_setCell_same _ Q 14 _ _ (M a.2.1) (heap_setCell_same w Q 13 _ _ (V Y (a.1:Nat)) h))
 simpa[UC]using e
def Ln (b:Nat)(a:Option Addr)(n c d e:Nat):q6:=y7 #[V z7 (b:Nat),G a n c,V Y (d:Nat),V Y (e:Nat)]
theorem I6 (w Q l k p m o v a n c x d b)(h:w.heap[Q]?=I (UC l p m k false o))(z:k<=100000)(A:d<=100000):
  C U 206 #[H (I ⟨Q,0,J⟩),Ln v a n c x d,Z b] w fun e w'=>e=E (.tuple #[])/\w'.heap[Q]?=I (UC l p m (if b then k+1 else k+d) false o)/\Fr (fun j=>j=Q) w w':=by
 obtain⟨q,y⟩:=Vx w (z0 #[V z7 (v:Nat),G a n c,V Y (x:Nat),V Y (d:Nat)] 208);have B:=(iA.1 h).1;have f:=q.o.whole h
 have g:Q≠w.heap.size:=by omega
 unfold Ln
 cases b with
 |true=>
  go_enter Tryz.func206,Tryz.ntmps206;go_upto_region 2 with fail;generalize w.alloc _=W at*;have r:=Za f;have s:=Zc f 11;have t:=bF f 11;have u:=Zc y.o 3;obtain⟨X,i⟩:∃X,w.heap.size=X:=⟨_,rfl⟩;rw[i]at u g;rw[i];go_wp2
  go_end0
  refine⟨rfl,?_,(q.o.mono).trans ((Fr.refl (fun j=>j=Q) W).setCell (p:=⟨Q,11,J⟩) (z6 rfl) _)⟩;have e:=Dk r.o (k+1)
  simpa using e
 |false=>
  go_enter Tryz.func206,Tryz.ntmps206;go_upto_region 3 with fail;generalize w.alloc _=W at*;have r:=Za f;have s:=Zc f 11;have t:=bF f 11;have u:=Zc y.o 3;obtain⟨X,i⟩:∃X,w.heap.size=X:=⟨_,rfl⟩;rw[i]at u g;rw[i]
  go_region
  go_wp2
  go_end0
  refine⟨rfl,?_,((q.o.mono).trans ((Fr.refl (fun j=>j=Q) W).setCell (p:=⟨Q,11,J⟩) (z6 rfl) _)).drew⟩;have e:=Dk r.o (k+d);exact(by simpa using e:(W.setCell ⟨Q,11,J⟩ (V Y ((k:Int)+(d:Int)))).heap[Q]?=I (UC l p m (k+d) false o))
theorem Zu.fr {w w' S a l}(h:Zu w a l)(d:Fr S w w')(e:∀g,a=I ⟨g,0,J⟩->¬S g:=by simp):Zu w' a l:=by
 intro k x f;obtain⟨g,b,c⟩:=h k x f;exact⟨g,b,(d.cell (p:=⟨g,k,J⟩) (bL w _ c) (e g b)).trans c⟩
theorem A8 (F x w Q q k p r o i a l c m f)(h:w.heap[Q]?=I (UC q p r k false o))(R:k<=100000)(S:f<=100000)(hi:Zu w a l)(hl:l.length<=4000)(hF:F=165/\x=p.mcc\/F=167/\x=p.cur):
  C U F #[H (I ⟨Q,0,J⟩),Ln i a l.length c m f] w fun e w'=>e=E (.tuple #[])/\w'.heap[Q]?=I (UC q p r (if Ul l x then k+1 else k+f) false o)/\Fr (fun j=>j=Q) w w':=by
 obtain⟨W,eW,z,M⟩:=sn w (z0 #[V z7 (i:Nat),G a l.length c,V Y (m:Nat),V Y (f:Nat)] 208);have hQ:=(iA.1 h).1;have A:=z.o.whole h
 have s:Q≠w.heap.size:=by omega
 have HI:=Za (hi.fr z.o);unfold Ln;obtain⟨k',t⟩:∃k',(if Ul l x=true then k+1 else k+f)=k':=⟨_,rfl⟩;have B:=Za t;rw[t];obtain⟨X,u⟩:∃X,N (w.heap.size=X):=⟨_,rfl⟩;rw[u.o]at M s
 have n:N (∀d,Fr (fun j=>j=Q) W d->(∃k',d.heap[Q]?=I (UC q p r k' false o))->d.cell? ⟨X,0,J⟩=I (V z7 (i:Nat))/\d.cell? ⟨X,1,J⟩=I (G a l.length c)/\d.cell? ⟨X,2,J⟩=I (V Y (m:Nat))/\d.cell? ⟨X,3,J⟩=I (V Y (f:Nat))/\d.cell? ⟨Q,2,J⟩=I (V Y p.mcc)/\d.cell? ⟨Q,4,J⟩=I (V Y p.cur)):=by
  intro d g ⟨k',hq⟩;have y:=g.whole M.o (fun e=>s e.symm);exact⟨Zc y 0,Zc y 1,Zc y 2,Zc y 3,Zc hq 2,Zc hq 4⟩
 have HC:N (∀d,N (F0 W d)->C U 207 #[G a l.length c,V Y x] d fun e w'=>e=E (Z (Ul l x))/\N (F0 W w')/\w'.cell? ⟨X,0,J⟩=I (V z7 (i:Nat))/\w'.cell? ⟨X,1,J⟩=I (G a l.length c)/\w'.cell? ⟨X,2,J⟩=I (V Y (m:Nat))/\w'.cell? ⟨X,3,J⟩=I (V Y (f:Nat))/\w'.cell? ⟨Q,2,J⟩=I (V Y p.mcc)/\w'.cell? ⟨Q,4,J⟩=I (V Y p.cur)):=by
  intro d g;refine(LD d a c l x (HI.o.fr g.o) hl).mono ?_;rintro e w' ⟨D,rfl⟩;exact⟨D,g,n.o _ (g.o.mono) ⟨k,g.o.whole A⟩⟩
 have HG:N (∀d,N (F0 W d)->C U 206 #[H (I ⟨Q,0,J⟩),y7 #[V z7 (i:Nat),G a l.length c,V Y (m:Nat),V Y (f:Nat)],Z (Ul l x)] d fun e w'=>e=E (.tuple #[])/\N (w'.heap[Q]?=I (UC q p r k' false o)/\Fr (fun j=>j=Q) W w')/\w'.cell? ⟨X,0,J⟩=I (V z7 (i:Nat))/\w'.cell? ⟨X,1,J⟩=I (G a l.length c)/\w'.cell? ⟨X,2,J⟩=I (V Y (m:Nat))/\w'.cell? ⟨X,3,J⟩=I (V Y (f:Nat))/\w'.cell? ⟨Q,2,J⟩=I (V Y p.mcc)/\w'.cell? ⟨Q,4,J⟩=I (V Y p.cur)):=by
  intro d g;refine(I6 d Q q k p r o i a l.length c m f (Ul l x) (g.o.whole A) R S).mono ?_;rintro e w' ⟨D,K,h3⟩;rw[B.o]at K;have P:=(g.o.mono (T:=fun j=>j=Q)).trans h3;exact⟨D,⟨K,P⟩,n.o _ P ⟨_,K⟩⟩
 have hS:=n.o W Zt ⟨k,A⟩;have a0:N (F0 W W.drew):=Zt.drew;generalize Ul l x=b at*;rcases hF with⟨rfl,rfl⟩|⟨rfl,rfl⟩
 case' inl=>go_enter Tryz.func165,Tryz.ntmps165
 case' inr=>go_enter Tryz.func167,Tryz.ntmps167
 all_goals
  go_upto_region 1 with fail;rw[eW.o,u.o]
  go_region_held3 (fun d=>d.cell? ⟨X,0,J⟩=I (V z7 (i:Nat))/\d.cell? ⟨X,1,J⟩=I (G a l.length c)/\d.cell? ⟨X,2,J⟩=I (V Y (m:Nat))/\d.cell? ⟨X,3,J⟩=I (V Y (f:Nat))/\d.cell? ⟨Q,2,J⟩=I (V Y p.mcc)/\d.cell? ⟨Q,4,J⟩=I (V Y p.cur)) (first|assumption|go_keep) (first
   |(go_at_call 207;refine(HC.o _ (by assumption)).mono ?_;rintro e w7 ⟨rfl,b0,L⟩)
   |(go_at_call 206;refine(HG.o _ (by assumption)).mono ?_;rintro e w7 ⟨rfl,v,L⟩))
  go_wp2_with fail
  go_end0
  exact⟨rfl,v.o.1,(z.o.mono).trans v.o.2⟩
theorem WY {P l Q e S}(i){f d b a w}(hi:BX l i=I f)(g:Region.noSelect l.toArray=true)(j:Region.free e l.toArray b i=true)(k:(Region.ready e l.toArray b).contains i=true)(m:∀c a w,Q (.panic c) (a.put f.dst undef) w->Q (.panic c) a w)(n:Region.wanted f (yielded l.toArray a.tmps)=false)(o:S w)(h:wpAnyH P e l.toArray Q S d (b.setIfInBounds i true) (a.put f.dst undef) w):wpAnyH P e l.toArray Q S (d+1) b a w:=
 wpAnyH_take ((K9 l i).trans hi) g j k m (z2 ⟨n,rfl⟩) o h
theorem LG (w Q s k p u o n a d m c q i)(h:w.heap[Q]?=I (UC s p u k false o))(hk:k<=100000)(hs:i<=100000)(hi:Zu w a [d,m]):
  C U 166 #[H (I ⟨Q,0,J⟩),Ln n a 2 c q i] w fun e w'=>e=E (.tuple #[])/\w'.heap[Q]?=I (UC s p u (if decide ((d:Int)<=p.am)&&decide (p.am<=(m:Int))then k+1 else k+i) false o)/\Fr (fun j=>j=Q) w w':=by
 obtain⟨K,HX⟩:=Vx w (z0 #[V z7 (n:Nat),G a 2 c,V Y (q:Nat),V Y (i:Nat)] 208);have hQ:=(iA.1 h).1;have P:=K.o.whole h
 have v:Q≠w.heap.size:=by omega
 have x:=hi.fr K.o;obtain⟨g,rfl,l⟩:=x 0 d rfl;obtain⟨g',y,R⟩:=x 1 m rfl;injection y with y;injection y with y _ _;subst y;unfold Ln;obtain⟨k',z⟩:∃k',(if(decide ((d:Int)<=p.am)&&decide (p.am<=(m:Int)))=true then k+1 else k+i)=k':=⟨_,rfl⟩;have a0:=Za z;rw[z];go_enter Tryz.func166,Tryz.ntmps166;go_upto_region 1 with fail;generalize w.alloc _=W at*;obtain⟨X,hX⟩:∃X,w.heap.size=X:=⟨_,rfl⟩;rw[hX]at HX v;rw[hX];have A:=bL W _ l
 have B:g≠Q:=by
  intro e;subst e;rw[show W.cell? ⟨g,0,J⟩=I (H (I ⟨s,0,J⟩))from Zc P 0]at l
  cases l
 have D:N (∀b,Fr (fun j=>j=Q) W b->(∃k',b.heap[Q]?=I (UC s p u k' false o))->b.cell? ⟨X,0,J⟩=I (V z7 (n:Nat))/\b.cell? ⟨X,1,J⟩=I (G (I ⟨g,0,J⟩) 2 c)/\b.cell? ⟨X,2,J⟩=I (V Y (q:Nat))/\b.cell? ⟨X,3,J⟩=I (V Y (i:Nat))/\b.cell? ⟨Q,3,J⟩=I (V Y p.am)/\b.cell? ⟨g,0,J⟩=I (V Y (d:Nat))/\b.cell? ⟨g,1,J⟩=I (V Y (m:Nat))):=by
  intro b t ⟨k',hq⟩;have L:=t.whole HX.o (fun e=>v e.symm);exact⟨Zc L 0,Zc L 1,Zc L 2,Zc L 3,Zc hq 3,(t.cell (p:=⟨g,0,J⟩) A B).trans l,(t.cell (p:=⟨g,1,J⟩) A B).trans R⟩
 have M:N (∀b,N (F0 W b)->C U 206 #[H (I ⟨Q,0,J⟩),y7 #[V z7 (n:Nat),G (I ⟨g,0,J⟩) 2 c,V Y (q:Nat),V Y (i:Nat)],Z (decide ((d:Int)<=p.am)&&decide (p.am<=(m:Int)))] b fun e w'=>e=E (.tuple #[])/\N (w'.heap[Q]?=I (UC s p u k' false o)/\Fr (fun j=>j=Q) W w')/\w'.cell? ⟨X,0,J⟩=I (V z7 (n:Nat))/\w'.cell? ⟨X,1,J⟩=I (G (I ⟨g,0,J⟩) 2 c)/\w'.cell? ⟨X,2,J⟩=I (V Y (q:Nat))/\w'.cell? ⟨X,3,J⟩=I (V Y (i:Nat))/\w'.cell? ⟨Q,3,J⟩=I (V Y p.am)/\w'.cell? ⟨g,0,J⟩=I (V Y (d:Nat))/\w'.cell? ⟨g,1,J⟩=I (V Y (m:Nat))):=by
  intro b t;refine(I6 b Q s k p u o n (I ⟨g,0,J⟩) 2 c q i _ (t.o.whole P) hk hs).mono ?_;rintro e w' ⟨he,h2,h3⟩;rw[a0.o]at h2;have h4:=(t.o.mono (T:=fun j=>j=Q)).trans h3;exact⟨he,⟨h2,h4⟩,D.o _ h4 ⟨_,h2⟩⟩
 have hS:=D.o W Zt ⟨k,P⟩;have F:N (F0 W W.drew):=Zt.drew;refine wp_region_held_drew (S:=fun b=>b.cell? ⟨X,0,J⟩=I (V z7 (n:Nat))/\b.cell? ⟨X,1,J⟩=I (G (I ⟨g,0,J⟩) 2 c)/\b.cell? ⟨X,2,J⟩=I (V Y (q:Nat))/\b.cell? ⟨X,3,J⟩=I (V Y (i:Nat))/\b.cell? ⟨Q,3,J⟩=I (V Y p.am)/\b.cell? ⟨g,0,J⟩=I (V Y (d:Nat))/\b.cell? ⟨g,1,J⟩=I (V Y (m:Nat))) (by kernel_rfl) hS (fun O=>?_)
 iterate 11 (refine YO 0 O ?_;try go_frame)
 by_cases h0:(d:Int)<=p.am
 ·rw[show decide ((d:Int)<=p.am)=true from decide_eq_true h0,z8]at M
  iterate 13 (refine YO 0 O ?_;try go_frame)
  refine Vv 24 (fun K2 hK=>?_);go_simp;refine(M.o _ F).mono ?_;rintro e w7 ⟨rfl,f,r⟩;refine hK.out _ _ r (fun _=>?_)
  try go_frame
  refine wpAnyH_done (by kernel_rfl) ?_ _;go_wp2_with fail
  go_end0
  exact⟨rfl,f.o.1,(K.o.mono).trans f.o.2⟩
 rw[show decide ((d:Int)<=p.am)=false from decide_eq_false h0,y8]at M
 iterate 13 ((first|refine YO 0 O ?_|refine wJ 0 O ?_);try go_frame)
 refine Vv 24 (fun K2 hK=>?_);go_simp;refine(M.o _ F).mono ?_;rintro e w7 ⟨rfl,f,r⟩;refine hK.out _ _ r (fun _=>?_)
 try go_frame
 refine wpAnyH_done (by kernel_rfl) ?_ _;go_wp2_with fail
 go_end0
 exact⟨rfl,f.o.1,(K.o.mono).trans f.o.2⟩
theorem Q5 (w Q n k p q o d b rt)(h:w.heap[Q]?=I (UC n p q k false o))(r:b.size<=3000)(s:rt.size<=3000):
  C U 208 #[H (I ⟨Q,0,J⟩),V Y (d:Nat),M b,M rt] w fun e w'=>e=E (.tuple #[])/\w'.heap[Q]?=I (UC n p q k true (d,b,rt))/\Fr (fun j=>j=Q) w w':=by
 have t:=Zc h 12;have u:=bF h 12
 have f:N (∀W,C U 96 #[M b] W fun e w'=>e=E (M b)/\F0 W w'):=fun W=>Vz b W r
 have g:N (∀W,C U 96 #[M rt] W fun e w'=>e=E (M rt)/\F0 W w'):=fun W=>Vz rt W s
 have v:=Za (vw h);have x:N (Fr (fun j=>j=Q) w (w.setCell ⟨Q,12,J⟩ (Z true))):=(Fr.refl (fun j=>j=Q) w).setCell (p:=⟨Q,12,J⟩) (z6 rfl) _;go_enter Tryz.func208,Tryz.ntmps208;go_wp2_with fail;generalize w.setCell ⟨Q,12,J⟩ (Z true)=W at*;refine(f.o _).mono ?_;rintro e G ⟨rfl,i⟩;have l:=Za i;go_wp2_with fail;refine(g.o _).mono ?_;rintro e w2 ⟨rfl,m⟩;have c:=Za (l.o.trans m);have a:=Za (c.o.whole v.o);have y:=Zc a.o 13;have z:=Zc a.o 14;have A:=Zc a.o 15;have B:=bF a.o 13;have D:=bF a.o 14;have F:=bF a.o 15;go_wp2_with fail
 go_end0
 refine⟨rfl,vx a.o (d,b,rt),?_⟩;exact(x.o.trans (c.o.mono)).trans ((((Fr.refl (fun j=>j=Q) w2).setCell (p:=⟨Q,13,J⟩) (z6 rfl) _).setCell (p:=⟨Q,14,J⟩) (z6 rfl) _).setCell (p:=⟨Q,15,J⟩) (z6 rfl) _)
theorem Mp (w Q b k p d o f a n c g i)(h:w.heap[Q]?=I (UC b p d k false o)):
  C U 171 #[H (I ⟨Q,0,J⟩),Ln f a n c g i] w fun e w'=>e=E (.tuple #[])/\w'.heap[Q]?=I (UC b p d k true (2,O,O))/\Fr (fun j=>j=Q) w w':=by
 have l:=(Vx w (z0 #[V z7 (f:Nat),G a n c,V Y (g:Nat),V Y (i:Nat)] 208)).1;have m:=Za (Q5 _ Q b k p d o 2 O O (l.o.whole h) (by decide) (by decide));unfold Ln;go_enter Tryz.func171,Tryz.ntmps171;go_wp2_with fail;refine m.o.mono ?_;rintro e u ⟨rfl,q,r⟩;have s:=Za q;have t:=Za ((l.o.mono).trans r);go_wp2_with fail
 go_end0
 exact⟨rfl,s.o,t.o⟩
structure OP (w:z3)(TT Q:Nat)(ru:Nat)(nm:ByteArray)(g m nc:Nat):Prop where
 c1:w.cell? ⟨TT,1,J⟩=I (G (I ⟨g,0,J⟩) m nc)
 lt:ru<m
 ce:w.cell? ⟨g,ru,J⟩=I (M nm)
 sz:nm.size<=3000
 nt:TT≠Q
 ng:g≠Q
theorem OP.fr {w w' a Q b c g m d}(h:OP w a Q b c g m d)(e:Fr (fun j=>j=Q) w w'):OP w' a Q b c g m d:=
 ⟨(e.cell (p:=⟨a,1,J⟩) (bL w _ h.c1) h.nt).trans h.c1,h.lt,(e.cell (p:=⟨g,b,J⟩) (bL w _ h.ce) h.ng).trans h.ce,h.sz,h.nt,h.ng⟩
theorem JF (w:z3)(Q f k:Nat)(p:WC)(r:Nat->Bool)(o:Nat×ByteArray×ByteArray)(z:Nat)(a:Option Addr)(n c i A:Nat)(l:ByteArray)(g m v:Nat)(h:w.heap[Q]?=I (UC f p r k false o))(B:OP w f Q i l g m v):
  C U 168 #[H (I ⟨Q,0,J⟩),Ln z a n c i A] w fun e w'=>e=E (.tuple #[])/\w'.heap[Q]?=I (UC f p r k true (3,l,O))/\Fr (fun j=>j=Q) w w':=by
 obtain⟨x,D⟩:=Vx w (z0 #[V z7 (z:Nat),G a n c,V Y (i:Nat),V Y (A:Nat)] 208);have hQ:=(iA.1 h).1;have F:=x.o.whole h
 have s:Q≠w.heap.size:=by omega
 have y:=Za (B.fr (x.o.mono))
 have S:(i:Int)<(m:Int):=by have:=B.lt;omega
 unfold Ln;go_enter Tryz.func168,Tryz.ntmps168;go_upto_region 1 with fail;generalize w.alloc _=W at*;obtain⟨X,K⟩:∃X,w.heap.size=X:=⟨_,rfl⟩;rw[K]at D s;rw[K]
 have t:N (∀b,Fr (fun j=>j=Q) W b->(∃d L,b.heap[Q]?=I (UC f p r k d L))->b.cell? ⟨X,2,J⟩=I (V Y (i:Nat))/\b.cell? ⟨Q,0,J⟩=I (H (I ⟨f,0,J⟩))/\b.cell? ⟨f,1,J⟩=I (G (I ⟨g,0,J⟩) m v)/\b.cell? ⟨g,i,J⟩=I (M l)):=by
  intro b q ⟨d,L,hq⟩;have hx:=q.whole D.o (fun e=>s e.symm);exact⟨Zc hx 2,Zc hq 0,(y.o.fr q).c1,(y.o.fr q).ce⟩
 have HG:N (∀b,N (F0 W b)->C U 208 #[H (I ⟨Q,0,J⟩),V Y 3,M l,M ⟨#[]⟩] b fun e w'=>e=E (.tuple #[])/\N (w'.heap[Q]?=I (UC f p r k true (3,l,O))/\Fr (fun j=>j=Q) W w')/\w'.cell? ⟨X,2,J⟩=I (V Y (i:Nat))/\w'.cell? ⟨Q,0,J⟩=I (H (I ⟨f,0,J⟩))/\w'.cell? ⟨f,1,J⟩=I (G (I ⟨g,0,J⟩) m v)/\w'.cell? ⟨g,i,J⟩=I (M l)):=by
  intro b q;refine(Q5 b Q f k p r o 3 l O (q.o.whole F) y.o.sz (by decide)).mono ?_;rintro e w' ⟨he,P,h3⟩;have R:=(q.o.mono (T:=fun j=>j=Q)).trans h3;exact⟨he,⟨P,R⟩,t.o _ R ⟨_,_,P⟩⟩
 have hS:=t.o W Zt ⟨_,_,F⟩;have a0:N (F0 W W.drew):=Zt.drew
 go_region_held3 (fun b=>b.cell? ⟨X,2,J⟩=I (V Y (i:Nat))/\b.cell? ⟨Q,0,J⟩=I (H (I ⟨f,0,J⟩))/\b.cell? ⟨f,1,J⟩=I (G (I ⟨g,0,J⟩) m v)/\b.cell? ⟨g,i,J⟩=I (M l)) (first|assumption|go_keep) (first
  |(go_at_call 208;refine(HG.o _ (by assumption)).mono ?_;rintro e w7 ⟨rfl,u,b0⟩))
 go_wp2_with fail
 go_end0
 exact⟨rfl,u.o.1,(x.o.mono).trans u.o.2⟩
theorem Ot (w:z3)(Q f k:Nat)(p:WC)(r:Nat->Bool)(o:Nat×ByteArray×ByteArray)(z:Nat)(a:Option Addr)(n c i A:Nat)(l:ByteArray)(g m v:Nat)(h:w.heap[Q]?=I (UC f p r k false o))(B:OP w f Q i l g m v):
  C U 210 #[H (I ⟨Q,0,J⟩),Ln z a n c i A] w fun e w'=>e=E (.tuple #[])/\w'.heap[Q]?=I (UC f p r k true (4,l,O))/\Fr (fun j=>j=Q) w w':=by
 obtain⟨x,D⟩:=Vx w (z0 #[V z7 (z:Nat),G a n c,V Y (i:Nat),V Y (A:Nat)] 208);have hQ:=(iA.1 h).1;have F:=x.o.whole h
 have s:Q≠w.heap.size:=by omega
 have y:=Za (B.fr (x.o.mono))
 have S:(i:Int)<(m:Int):=by have:=B.lt;omega
 unfold Ln;go_enter Tryz.func210,Tryz.ntmps210;go_upto_region 1 with fail;generalize w.alloc _=W at*;obtain⟨X,K⟩:∃X,w.heap.size=X:=⟨_,rfl⟩;rw[K]at D s;rw[K]
 have t:N (∀b,Fr (fun j=>j=Q) W b->(∃d L,b.heap[Q]?=I (UC f p r k d L))->b.cell? ⟨X,2,J⟩=I (V Y (i:Nat))/\b.cell? ⟨Q,0,J⟩=I (H (I ⟨f,0,J⟩))/\b.cell? ⟨f,1,J⟩=I (G (I ⟨g,0,J⟩) m v)/\b.cell? ⟨g,i,J⟩=I (M l)):=by
  intro b q ⟨d,L,hq⟩;have hx:=q.whole D.o (fun e=>s e.symm);exact⟨Zc hx 2,Zc hq 0,(y.o.fr q).c1,(y.o.fr q).ce⟩
 have HG:N (∀b,N (F0 W b)->C U 208 #[H (I ⟨Q,0,J⟩),V Y 4,M l,M ⟨#[]⟩] b fun e w'=>e=E (.tuple #[])/\N (w'.heap[Q]?=I (UC f p r k true (4,l,O))/\Fr (fun j=>j=Q) W w')/\w'.cell? ⟨X,2,J⟩=I (V Y (i:Nat))/\w'.cell? ⟨Q,0,J⟩=I (H (I ⟨f,0,J⟩))/\w'.cell? ⟨f,1,J⟩=I (G (I ⟨g,0,J⟩) m v)/\w'.cell? ⟨g,i,J⟩=I (M l)):=by
  intro b q;refine(Q5 b Q f k p r o 4 l O (q.o.whole F) y.o.sz (by decide)).mono ?_;rintro e w' ⟨he,P,h3⟩;have R:=(q.o.mono (T:=fun j=>j=Q)).trans h3;exact⟨he,⟨P,R⟩,t.o _ R ⟨_,_,P⟩⟩
 have hS:=t.o W Zt ⟨_,_,F⟩;have a0:N (F0 W W.drew):=Zt.drew
 go_region_held3 (fun b=>b.cell? ⟨X,2,J⟩=I (V Y (i:Nat))/\b.cell? ⟨Q,0,J⟩=I (H (I ⟨f,0,J⟩))/\b.cell? ⟨f,1,J⟩=I (G (I ⟨g,0,J⟩) m v)/\b.cell? ⟨g,i,J⟩=I (M l)) (first|assumption|go_keep) (first
  |(go_at_call 208;refine(HG.o _ (by assumption)).mono ?_;rintro e w7 ⟨rfl,u,b0⟩))
 go_wp2_with fail
 go_end0
 exact⟨rfl,u.o.1,(x.o.mono).trans u.o.2⟩
structure PN (w:z3)(TT Q:Nat)(rts:List Zf)(ra:Option Addr)(rc:Nat):Prop where
 c0:w.cell? ⟨TT,0,J⟩=I (G ra rts.length rc)
 nt:TT≠Q
 rt:∀i t,rts[i]?=I t->∃g,ra=I ⟨g,0,J⟩/\g≠Q/\w.cell? ⟨g,i*3,J⟩=I (M t.name)/\w.cell? ⟨g,i*3+1,J⟩=I (V Y (t.base:Nat))/\w.cell? ⟨g,i*3+2,J⟩=I (V Y (t.rate:Nat))
 sz:∀t,t∈rts->Lz t
theorem PN.fr {w w' c Q rts e f}(h:PN w c Q rts e f)(a:Fr (fun j=>j=Q) w w'):PN w' c Q rts e f:=by
 refine⟨(a.cell (p:=⟨c,0,J⟩) (bL w _ h.c0) h.nt).trans h.c0,h.nt,fun i t hi=>?_,h.sz⟩;obtain⟨g,l,b,k,m,n⟩:=h.rt i t hi;have d:=bL w _ k;exact⟨g,l,b,(a.cell (p:=⟨g,i*3,J⟩) d b).trans k,(a.cell (p:=⟨g,i*3+1,J⟩) d b).trans m,(a.cell (p:=⟨g,i*3+2,J⟩) d b).trans n⟩
theorem Kq (w Q f k p u o so a n c i sk l g m B rts ra D x t)(h:w.heap[Q]?=I (UC f p u k false o))(hn:OP w f Q i l g m B)(K:PN w f Q rts ra D)(r:rts[x]?=I t):
  C U 209 #[H (I ⟨Q,0,J⟩),Ln so a n c i sk,V Y (x:Nat)] w fun e w'=>e=E (.tuple #[])/\w'.heap[Q]?=I (UC f p u k true (0,l,t.name))/\Fr (fun j=>j=Q) w w':=by
 obtain⟨F,HX⟩:=Vx w (z0 #[V z7 (so:Nat),G a n c,V Y (i:Nat),V Y (sk:Nat)] 208);have hQ:=(iA.1 h).1;have H1:=F.o.whole h
 have v:Q≠w.heap.size:=by omega
 have L:=Za (hn.fr (F.o.mono));have HR:=Za (K.fr (F.o.mono))
 have b0:(i:Int)<(m:Int):=by have:=hn.lt;omega
 have O:(x:Int)<(rts.length:Int):=by have:=(iG.1 r).1;omega
 have P:=Za r;have R:=Za ((K.sz t (mG r)).1);obtain⟨s,S,_⟩:=K.rt x t r;subst S;unfold Ln;go_enter Tryz.func209,Tryz.ntmps209;go_upto_region 1 with fail;generalize w.alloc _=W at*;obtain⟨X,hX⟩:∃X,w.heap.size=X:=⟨_,rfl⟩;rw[hX]at HX v;rw[hX]
 have y:N (∀b,Fr (fun j=>j=Q) W b->(∃d o',b.heap[Q]?=I (UC f p u k d o'))->b.cell? ⟨X,2,J⟩=I (V Y (i:Nat))/\b.cell? ⟨Q,0,J⟩=I (H (I ⟨f,0,J⟩))/\b.cell? ⟨f,1,J⟩=I (G (I ⟨g,0,J⟩) m B)/\b.cell? ⟨g,i,J⟩=I (M l)/\b.cell? ⟨f,0,J⟩=I (G (I ⟨s,0,J⟩) rts.length D)/\b.cell? ⟨s,x*3,J⟩=I (M t.name)):=by
  intro b q ⟨d,o',hq⟩;have r:=q.whole HX.o (fun e=>v e.symm);obtain⟨d0,z,_,e3,_,_⟩:=(HR.o.fr q).rt x t P.o;injection z with z;injection z with z _ _;subst z;exact⟨Zc r 2,Zc hq 0,(L.o.fr q).c1,(L.o.fr q).ce,(HR.o.fr q).c0,e3⟩
 have HG:N (∀b,N (F0 W b)->C U 208 #[H (I ⟨Q,0,J⟩),V Y 0,M l,M t.name] b fun e w'=>e=E (.tuple #[])/\N (w'.heap[Q]?=I (UC f p u k true (0,l,t.name))/\Fr (fun j=>j=Q) W w')/\w'.cell? ⟨X,2,J⟩=I (V Y (i:Nat))/\w'.cell? ⟨Q,0,J⟩=I (H (I ⟨f,0,J⟩))/\w'.cell? ⟨f,1,J⟩=I (G (I ⟨g,0,J⟩) m B)/\w'.cell? ⟨g,i,J⟩=I (M l)/\w'.cell? ⟨f,0,J⟩=I (G (I ⟨s,0,J⟩) rts.length D)/\w'.cell? ⟨s,x*3,J⟩=I (M t.name)):=by
  intro b q;refine(Q5 b Q f k p u o 0 l t.name (q.o.whole H1) L.o.sz R.o).mono ?_;rintro e w' ⟨he,h2,h3⟩;have h4:=(q.o.mono (T:=fun j=>j=Q)).trans h3;exact⟨he,⟨h2,h4⟩,y.o _ h4 ⟨_,_,h2⟩⟩
 have hS:=y.o W Zt ⟨_,_,H1⟩;have e0:N (F0 W W.drew):=Zt.drew;obtain⟨Z,a0⟩:∃Z,rts.length=Z:=⟨_,rfl⟩;rw[a0]at hS HG O
 go_region_held3 (fun b=>b.cell? ⟨X,2,J⟩=I (V Y (i:Nat))/\b.cell? ⟨Q,0,J⟩=I (H (I ⟨f,0,J⟩))/\b.cell? ⟨f,1,J⟩=I (G (I ⟨g,0,J⟩) m B)/\b.cell? ⟨g,i,J⟩=I (M l)/\b.cell? ⟨f,0,J⟩=I (G (I ⟨s,0,J⟩) Z D)/\b.cell? ⟨s,x*3,J⟩=I (M t.name)) (first|assumption|go_keep) (first
  |(go_at_call 208;refine(HG.o _ (by assumption)).mono ?_;rintro e w7 ⟨rfl,A,f0⟩))
 go_wp2_with fail
 go_end0
 exact⟨rfl,A.o.1,(F.o.mono).trans A.o.2⟩
theorem Dl (w Q j k p y o rts z A x t)(h:w.heap[Q]?=I (UC j p y k false o))(l:PN w j Q rts z A)(i:rts[x]?=I t)(r:0<=p.am)(B:p.am<=1000000000):
  C U 211 #[H (I ⟨Q,0,J⟩),V Y (x:Nat)] w fun e w'=>e=E (V Y (XO rts p.am x))/\F0 w w':=by
 have m:N (XO rts p.am x=(t.base:Int)+(t.rate:Int)*p.am):=by show _=_;unfold XO;rw[i]
 have f:=l.sz t (mG i)
 have D:(t.base:Int)<1000000000:=by have:=f.2.1;omega
 have F:(t.rate:Int)<1000000000:=by have:=f.2.2;omega
 have G:(0:Int)<=(t.rate:Int)*p.am:=Int.mul_nonneg (by omega) r
 have K:(t.rate:Int)*p.am<=1000000000000000000:=by
  have:=Int.mul_le_mul (a:=(t.rate:Int)) (b:=p.am) (c:=1000000000) (d:=1000000000) (by omega) B r (by omega);omega
 have n:(x:Int)<(rts.length:Int):=by have:=(iG.1 i).1;omega
 have L:=l.c0;have S:w.cell? ⟨Q,0,J⟩=I (H (I ⟨j,0,J⟩)):=Zc h 0;have O:w.cell? ⟨Q,3,J⟩=I (V Y p.am):=Zc h 3;have P:=(iA.1 h).1;obtain⟨g,rfl,_,T,Z,e5⟩:=l.rt x t i;obtain⟨s,q⟩:∃s,rts.length=s:=⟨_,rfl⟩;rw[q]at L n;have u:=(Vx w (z0 #[M t.name,V Y (t.base:Nat),V Y (t.rate:Nat)] 148)).1;have v:=aN w (z0 #[M t.name,V Y (t.base:Nat),V Y (t.rate:Nat)] 148);have x1:=Zc v 1;have x2:=Zc v 2;have R:=(u.o.cell (p:=⟨Q,3,J⟩) P).trans O;rw[m.o];go_enter Tryz.func211,Tryz.ntmps211;go_upto_region 2 with fail;generalize w.alloc _=W at*;generalize w.heap.size=X at*
 go_region
 go_wp2_with fail;go_ret;exact⟨rfl,u.o.drew⟩
def Mq (rts:List Zf)(a:ByteArray):Option Nat->Nat×ByteArray×ByteArray
 |none=>(4,a,O)
 |some x=>(0,a,Mn rts x)
theorem Dm {w:z3}{Q b k p a d o}(h:w.heap[Q]?=I (UC b p a k d o))(x)(c:x<6):w.cell? ⟨Q,5+x,J⟩=I (Z (a x)):=by
 have:x=0\/x=1\/x=2\/x=3\/x=4\/x=5:=by omega
 rcases this with rfl|rfl|rfl|rfl|rfl|rfl
 ·exact Zc h 5
 ·exact Zc h 6
 ·exact Zc h 7
 ·exact Zc h 8
 ·exact Zc h 9
 exact Zc h 10
theorem LH (w:z3)(Q s k:Nat)(p:WC)(d:Nat->Bool)(o:Nat×ByteArray×ByteArray)(A:Nat)(a:Option Addr)(l:List Nat)(c v B:Nat)(f:ByteArray)(g m S:Nat)(rts:List Zf)(ra:Option Addr)(rc:Nat)(h:w.heap[Q]?=I (UC s p d k false o))(hn:OP w s Q v f g m S)(hr:PN w s Q rts ra rc)(hi:Zu w a l)(hl:l.length<=4000)(y:∀x,x∈l->x<rts.length)(h6:rts.length<=6)(T:0<=p.am/\p.am<=1000000000):
  C U 169 #[H (I ⟨Q,0,J⟩),Ln A a l.length c v B] w fun e w'=>e=E (.tuple #[])/\w'.heap[Q]?=I (UC s p d k true (Mq rts f (YK false (XO rts p.am) d l J)))/\Fr (fun j=>j=Q) w w':=by
 obtain⟨u,z⟩:=Vx w (z0 #[V z7 (A:Nat),G a l.length c,V Y (v:Nat),V Y (B:Nat)] 208);have R:=Za (u.o.whole h);have HI:=Za (hi.fr u.o);have Z:=Za (hn.fr (u.o.mono));have HR:=Za (hr.fr (u.o.mono))
 have a0:N (∀x,x∈l->x<rts.length/\x<6):=fun x h=>⟨y x h,by have:=y x h;omega⟩
 have f0:=Za T;obtain⟨n,D⟩:∃n,l.length=n:=⟨_,rfl⟩;have F:=Za D;rw[D]at u z R HI Z HR hl ⊢;obtain⟨b,r⟩:∃b,YK false (XO rts p.am) d l J=b:=⟨_,rfl⟩;have K:=Za r;rw[r];unfold Ln;go_enter Tryz.func169,Tryz.ntmps169;go_upto_region 1 with fail;generalize w.alloc _=W at*;obtain⟨X,hX⟩:∃X,w.heap.size=X:=⟨_,rfl⟩;rw[hX]at z;rw[hX];have x0:=Zc z.o 0;have x1:=Zc z.o 1;have x2:=Zc z.o 2;have x3:=Zc z.o 3;go_wp2_with fail
 go_loop [5,9] (fun _ i=>∃j:Nat,j<=n/\i=V Y j/\N (YK false (XO rts p.am) d (l.drop j) J=b)) (fun _ i=>n-(intOf i).toNat)
 case atStart=>exact⟨0,y1 _,rfl,K⟩
 obtain⟨j,hj,rfl,HB⟩:=hrel;by_cases g0:j<n
 ·have b0:(j:Int)<(n:Int):=by omega
  obtain⟨x,y⟩:∃x,l[j]?=I x:=⟨_,gE (by have:=F.o;omega)⟩;obtain⟨ga,rfl,hc⟩:=HI.o j x y
  have hd:l.drop j=x::l.drop (j+1):=by
   obtain⟨L,M⟩:=iG.1 y;rw[dC L,M]
  rw[hd]at HB;obtain⟨c0,d0⟩:=a0.o x (mG y)
  have e0:(x:Int)<6:=by omega
  have P:=Dm R.o x d0;have q:N (YK false (XO rts p.am) d (l.drop (j+1)) (if d x then J else I x)=b):=HB.o
  cases hq:d x with
  |true=>
   rw[hq]at P q;go_wp2_with fail;exact⟨⟨j+1,by omega,by go_num,q⟩,by simp[intOf];omega⟩
  |false=>
   rw[hq]at P q;obtain⟨t,ht⟩:∃t,rts[x]?=I t:=⟨_,gE c0⟩;have HE:N (C U 209 #[H (I ⟨Q,0,J⟩),y7 #[V z7 (A:Nat),G (I ⟨ga,0,J⟩) n c,V Y (v:Nat),V Y (B:Nat)],V Y (x:Nat)] W fun e w'=>e=E (.tuple #[])/\w'.heap[Q]?=I (UC s p d k true (0,f,t.name))/\Fr (fun j=>j=Q) W w'):=Kq W Q s k p d o A _ n c v B f g m S rts ra rc x t R.o Z.o HR.o ht
   have HO:N (Mq rts f b=(0,f,t.name)):=by
    show _=_
    have e:=q.o;rw[if_neg (by simp),Mm]at e;rw[<-e];simp only[Mq,Mn,ht]
   go_wp2_with fail;refine HE.o.mono ?_;rintro e w7 ⟨rfl,L,M⟩;have H1:=Za L;have H2:=Za ((u.o.mono).trans M);go_wp2_with fail
   (try simp only[Exit.inBlock,Exit.then])
   refine bodyPost_ret (results_none rfl _ _ _) rfl ?_;exact⟨rfl,by rw[HO.o];exact H1.o,H2.o⟩
 have b0:¬(j:Int)<(n:Int):=by omega
 have HE:=Za (Ot W Q s k p d o A a n c v B f g m S R.o Z.o)
 have HO:N (Mq rts f b=(4,f,O)):=by
  show _=_
  have e:=HB.o;rw[dL (by have:=F.o;omega)]at e;rw[<-e];rfl
 go_wp2_with fail;refine HE.o.mono ?_;rintro e w7 ⟨rfl,L,M⟩;have H1:=Za L;have H2:=Za ((u.o.mono).trans M);go_wp2_with fail
 go_end0
 exact⟨rfl,by rw[HO.o];exact H1.o,H2.o⟩
def VW:Option Nat->Int
 |none=> -1
 |some x=>(x:Nat)
theorem PO (w:z3)(Q B k:Nat)(p:WC)(q:Nat->Bool)(o:Nat×ByteArray×ByteArray)(so:Nat)(a:Option Addr)(l:List Nat)(c R sk:Nat)(O:ByteArray)(g m nc:Nat)(rts:List Zf)(ra:Option Addr)(rc:Nat)(h:w.heap[Q]?=I (UC B p q k false o))(hn:OP w B Q R O g m nc)(hr:PN w B Q rts ra rc)(hi:Zu w a l)(hl:l.length<=4000)(P:∀x,x∈l->x<rts.length)(h6:rts.length<=6)(j0:0<=p.am/\p.am<=1000000000):
  C U 170 #[H (I ⟨Q,0,J⟩),Ln so a l.length c R sk] w fun e w'=>e=E (.tuple #[])/\w'.heap[Q]?=I (UC B p q k true (Mq rts O (YK true (XO rts p.am) q l J)))/\Fr (fun j=>j=Q) w w':=by
 obtain⟨F,HX⟩:=Vx w (z0 #[V z7 (so:Nat),G a l.length c,V Y (R:Nat),V Y (sk:Nat)] 208);have HH:=Za (F.o.whole h);have HI:=Za (hi.fr F.o);have HN:=Za (hn.fr (F.o.mono));have HR:=Za (hr.fr (F.o.mono))
 have k0:N (∀x,x∈l->x<rts.length/\x<6):=fun x h=>⟨P x h,by have:=P x h;omega⟩
 have v:=Za j0;obtain⟨n,S⟩:∃n,l.length=n:=⟨_,rfl⟩;have T:=Za S;rw[S]at F HX HH HI HN HR hl ⊢;obtain⟨f,D⟩:∃f,YK true (XO rts p.am) q l J=f:=⟨_,rfl⟩;have Z:=Za D;rw[D];unfold Ln;go_enter Tryz.func170,Tryz.ntmps170;go_upto_region 1 with fail;generalize w.alloc _=W at*;obtain⟨X,hX⟩:∃X,w.heap.size=X:=⟨_,rfl⟩;rw[hX]at HX;rw[hX];have x1:=Zc HX.o 1;go_wp2_with fail
 go_loopg [4,6,10] n (fun mm bb _ i wr=>∃j b,j<=n/\mm=n-j/\bb=V Y (VW b)/\i=V Y (j:Nat)/\N (YK true (XO rts p.am) q (l.drop j) b=f)/\N (F0 W wr)/\N (∀y,b=I y->y<rts.length/\y<6))
 case atStart=>exact⟨0,J,y1 _,rfl,rfl,rfl,Z,Zt,fun y h=>by cases h⟩
 obtain⟨j,b,hj,rfl,rfl,rfl,HB,d,z⟩:=hrel;have s:=Za (d.o.whole HH.o);have a0:=Za (HN.o.fr (d.o.mono));have K:=Za (HR.o.fr (d.o.mono));have A:=Za (d.o.whole HX.o);by_cases v0:j<n
 ·have l0:(j:Int)<(n:Int):=by omega
  obtain⟨x,P⟩:∃x,l[j]?=I x:=⟨_,gE (by have:=T.o;omega)⟩;obtain⟨ga,rfl,hc⟩:=(HI.o.fr d.o) j x P
  have hd:l.drop j=x::l.drop (j+1):=by
   obtain⟨h1,h2⟩:=iG.1 P;rw[dC h1,h2]
  rw[hd]at HB;obtain⟨b0,c0⟩:=k0.o x (mG P)
  have t0:(x:Int)<6:=by omega
  have d0:=Dm s.o x c0;have e0:N (x<rts.length/\x<6):=⟨b0,c0⟩
  cases hq:q x with
  |true=>
   have r:N (YK true (XO rts p.am) q (l.drop (j+1)) b=f):=by have e:=HB.o;unfold YK at e;rw[hq,if_pos rfl]at e;exact e
   rw[hq]at d0;obtain⟨bi,f0⟩:∃bi,VW b=bi:=⟨_,rfl⟩;have m0:=Za f0;rw[f0];go_wp2_with fail;go_roundg (n-(j+1))
   case measure=>omega
   exact⟨j+1,b,by omega,rfl,by rw[m0.o],by go_num,r,d,z⟩
  |false=>
   rw[hq]at d0
   cases b with
   |none=>
    have r:N (YK true (XO rts p.am) q (l.drop (j+1)) (I x)=f):=by have e:=HB.o;unfold YK at e;rw[hq,if_neg (by simp)]at e;exact e
    unfold VW;go_wp2_with fail;go_roundg (n-(j+1))
    case measure=>omega
    exact⟨j+1,I x,by omega,rfl,rfl,by go_num,r,d,fun y h=>by injection h with h;subst h;exact e0.o⟩
   |some y=>
    have r:N (YK true (XO rts p.am) q (l.drop (j+1)) (if decide (XO rts p.am x<XO rts p.am y)then I x else I y)=f):=by have e:=HB.o;unfold YK at e;rw[hq,if_neg (by simp)]at e;exact e
    obtain⟨L,_⟩:=z.o y rfl;obtain⟨t,ht⟩:∃t,rts[x]?=I t:=⟨_,gE b0⟩;obtain⟨t2,n0⟩:∃t,rts[y]?=I t:=⟨_,gE L⟩
    have o0:N (∀u,F0 wr u->C U 211 #[H (I ⟨Q,0,J⟩),V Y (x:Nat)] u fun e w'=>e=E (V Y (XO rts p.am x))/\F0 u w'):=fun u hf=>Dl u Q B k p q o rts ra rc x t (hf.whole s.o) (K.o.fr (hf.mono)) ht v.o.1 v.o.2
    have p0:N (∀u,F0 wr u->C U 211 #[H (I ⟨Q,0,J⟩),V Y (y:Nat)] u fun e w'=>e=E (V Y (XO rts p.am y))/\F0 u w'):=fun u hf=>Dl u Q B k p q o rts ra rc y t2 (hf.whole s.o) (K.o.fr (hf.mono)) n0 v.o.1 v.o.2
    unfold VW
    have q0:¬(y:Int)<0:=by omega
    generalize XO rts p.am x=fx at*;generalize XO rts p.am y=fy at*;go_wp2_with fail;refine(o0.o _ Zt).mono ?_;rintro e w5 ⟨rfl,r0⟩;have g0:=Za r0;go_wp2_with fail;refine(p0.o _ g0.o).mono ?_;rintro e w6 ⟨rfl,s0⟩;have h0:=Za ((d.o.trans g0.o).trans s0);by_cases i0:fx<fy
    ·have M:N (YK true (XO rts p.am) q (l.drop (j+1)) (I x)=f):=by have e:=r.o;rw[if_pos (by simpa using i0)]at e;exact e
     go_wp2_with fail;go_roundg (n-(j+1))
     case measure=>omega
     exact⟨j+1,I x,by omega,rfl,rfl,by go_num,M,h0,fun y h=>by injection h with h;subst h;exact e0.o⟩
    have M:N (YK true (XO rts p.am) q (l.drop (j+1)) (I y)=f):=by have e:=r.o;rw[if_neg (by simpa using i0)]at e;exact e
    go_wp2_with fail;go_roundg (n-(j+1))
    case measure=>omega
    exact⟨j+1,I y,by omega,rfl,rfl,by go_num,M,h0,z⟩
 have l0:¬(j:Int)<(n:Int):=by omega
 have hb:b=f:=by
  have e:=HB.o;rw[dL (by have:=T.o;omega)]at e;exact e
 subst hb;have x0:=Zc A.o 0;have x1:=Zc A.o 1;have x2:=Zc A.o 2;have x3:=Zc A.o 3
 cases b with
 |none=>
  have HE:=Za (Ot wr Q B k p q o so a n c R sk O g m nc s.o a0.o);unfold VW;go_wp2_with fail;refine HE.o.mono ?_;rintro e w7 ⟨rfl,h1,h2⟩;have H1:=Za h1;have H2:=Za (((F.o.trans d.o).mono).trans h2);go_wp2_with fail
  go_end0
  exact⟨rfl,H1.o,H2.o⟩
 |some y=>
  obtain⟨L,_⟩:=z.o y rfl;obtain⟨t,ht⟩:∃t,rts[y]?=I t:=⟨_,gE L⟩;have HE:=Za (Kq wr Q B k p q o so a n c R sk O g m nc rts ra rc y t s.o a0.o K.o ht)
  have HO:N (Mq rts O (I y)=(0,O,t.name)):=by
   show _=_
   simp only[Mq,Mn,ht]
  unfold VW
  have q0:¬(y:Int)<0:=by omega
  go_wp2_with fail;refine HE.o.mono ?_;rintro e w7 ⟨rfl,h1,h2⟩;have H1:=Za h1;have H2:=Za (((F.o.trans d.o).mono).trans h2);go_wp2_with fail
  go_end0
  exact⟨rfl,by rw[HO.o];exact H1.o,H2.o⟩
theorem UM {s}(h:XP s=true):6<=s.size/\s.size<=19/\∀c,c∈s.data.toList->48<=c.toNat/\c.toNat<=57:=by
 unfold XP at h;simp only[Bool.and_eq_true,decide_eq_true_eq,List.all_eq_true]at h;exact⟨h.1,h.2.1,h.2.2⟩
theorem vy {s}(h:XP s=true)(n)(e:n<6):∃d:Nat,d<10/\ZC s n=48+(d:Int)/\Iu (Zy s) n=d:=by
 obtain⟨f,_,b⟩:=UM h
 have g:6<=s.data.toList.length:=by simpa using f
 obtain⟨c,a⟩:∃c,s.data.toList[n]?=I c:=⟨_,gE (by omega)⟩;have i:=b c (mG a);refine⟨c.toNat-48,by omega,?_,FSq b g n e c a⟩;unfold ZC;rw[gD,a];simp only[Option.getD_some];omega
theorem FU (d:Nat)(h:d<10):q9.wrap (48+(d:Int)-48)=(d:Int):=by
 have:d=0\/d=1\/d=2\/d=3\/d=4\/d=5\/d=6\/d=7\/d=8\/d=9:=by omega
 rcases this with rfl|rfl|rfl|rfl|rfl|rfl|rfl|rfl|rfl|rfl<;>decide
def xg (w:z3)(d B o n:Nat)(t:Tr)(a b:q6)(dg:Nat->Nat)(c:Nat):Prop:=
 w.cell? ⟨B,o,J⟩=I a/\w.cell? ⟨B,o+1,J⟩=I b/\Xf w d t (y7 #[a,b])/\t.deep n/\t.find dg n=c
theorem A9 (w u v t a b s f)(h:xg w u v 3 0 t a b (Iu (Zy s)) f)(F:XP s=true):
  C U 65 #[H (I ⟨v,0,J⟩),M s] w fun e w'=>e=E (V Y (f:Nat))/\F0 w w':=by
 have T:=Za h;have W:=Za F;have X:=(UM F).1;go_enter Tryz.func65,Tryz.ntmps65;go_wp2_with fail
 go_loopg [5,6] 7 (fun m x i wr=>∃B o n t a b,n<=6/\m=7-n/\x=H (I ⟨B,o,J⟩)/\i=V Y (n:Nat)/\N (xg w u B o n t a b (Iu (Zy s)) f)/\N (F0 w wr))
 case atStart=>exact⟨v,3,0,t,a,b,by omega,rfl,rfl,rfl,T,Zt⟩
 obtain⟨B,o,n,t,a,b,hn,rfl,rfl,rfl,Z,r⟩:=hrel;obtain⟨G,c1,L,hd,k⟩:=Z.o;have l:=bL w _ G;have d0:=(r.o.cell (p:=⟨B,o,J⟩) l).trans G;have d1:=(r.o.cell (p:=⟨B,o+1,J⟩) l).trans c1
 cases t with
 |leaf q=>
  have e:=L;injection e with e
  obtain⟨rfl,rfl⟩:a=H J/\b=V Y (q:Nat):=by simpa using e
  have hq:=k;subst hq;go_wp2_with fail;go_ret;exact⟨rfl,r.o⟩
 |node kk=>
  obtain⟨K,cs,e,a0,Q,b0,g⟩:=L;injection e with e
  obtain⟨rfl,rfl⟩:a=H (I ⟨K,0,J⟩)/\b=V Y 0:=by simpa using e
  obtain⟨y,j⟩:=hd;obtain⟨d,c,hb,z⟩:=vy W.o n y;obtain⟨R,S,e1,e2,e3⟩:=g d c
  have A:N (xg w u K (d*2) (n+1) (kk d) R S (Iu (Zy s)) f):=by
   refine⟨bC Q _ _ e1,bC Q _ _ e2,e3,j d c,?_⟩;rw[<-k,Tr.find,z]
  have D:=fun w=>VH (P:=U) Tryz.underlying9 s n (n:Int) rfl (by omega) w
  rw[hb]at D
  have e0:(n:Int)<(s.size:Int):=by omega
  have f0:(d:Int)<10:=by omega
  have g0:=FU d c;go_wp2_with fail
  go_quiet (fail)
  go_wp2_with fail;go_roundg (7-(n+1))
  case measure=>omega
  exact⟨K,d*2,n+1,kk d,R,S,by omega,rfl,rfl,by go_num,A,r.o.trans ⟨rfl,rfl,rfl,Nat.le_refl _,fun _ _ _=>rfl⟩⟩
theorem I7 (w D a c l s)(i:w.cell? ⟨D,0,J⟩=I (G a l.length c))(h:Ye w a l)(f:l.length<=maxLen):
  C U 37 #[M s,H (I ⟨D,0,J⟩)] w fun e w'=>e=E (Z (JE l s))/\w'=w:=by
 have g:=Za (LE w a c l s h f);clear h f;generalize l.length=n at*;generalize JE l s=b at*;go_enter Tryz.func37,Tryz.ntmps37;go_wp2_with fail;refine g.o.mono ?_;rintro e j ⟨rfl,d⟩;replace d:=d.symm;subst d;go_wp2_with fail;go_ret;exact⟨rfl,rfl⟩
def Vh (rts:List Zf)(l:List ByteArray)(i:Nat):Bool:=match rts[i]? with
 |none=>false
 |some t=>JE l t.name
def Mr (f:Nat->Bool)(i:Nat):Array q6:=((List.range 6).map fun j=>z4 (if j<i then f j else false)).toArray
theorem CQ (f i)(h:i<6):(Mr f i).setIfInBounds i (Z (f i))=Mr f (i+1):=by
 have:i=0\/i=1\/i=2\/i=3\/i=4\/i=5:=by omega
 rcases this with rfl|rfl|rfl|rfl|rfl|rfl<;>rfl
theorem CR (rts l j)(a:j<6):(Mr (Vh rts l) rts.length)[j]?=I (Z (Vh rts l j)):=by
 unfold Mr;rw[y9,y0,y4 a];simp only[Option.map_some];by_cases e:j<rts.length
 ·rw[if_pos e]
 rw[if_neg e,Vh,y3 (by omega)]
theorem FV (f i j)(a:j<6):∃v,(Mr f i)[j]?=I v:=by
 unfold Mr;rw[y9,y0,y4 a];exact⟨_,rfl⟩
structure wl (w:z3)(A1 A2:Nat)(f:Nat->Bool)(i:Nat)(wx:z3):Prop where
 fr:F0 w wx
 b1:wx.heap[A1]?=I (z0 #[Z false,Z false,Z false,Z false,Z false,Z false] 124)
 b2:wx.heap[A2]?=I (z0 (Mr f i) 124)
theorem wl.fr' {w b c d e f i}(h:wl w d e f i b)(a:F0 b c):wl w d e f i c:=
 ⟨h.fr.trans a,a.whole h.b1,a.whole h.b2⟩
theorem wl.step {w b c a f i}(h:wl w c a f i b)(g:w.heap.size<=a)(d:c≠a)(hi:i<6):wl w c a f (i+1) (b.setCell ⟨a,i,J⟩ (Z (f i)))/\(∃u,b.cell? ⟨a,i,J⟩=I u)/\b.frozen? ⟨a,i,J⟩=false:=by
 have j:Fr (fun k=>k=a) b (b.setCell ⟨a,i,J⟩ (Z (f i))):=(Fr.refl (fun k=>k=a) b).setCell (p:=⟨a,i,J⟩) (z6 rfl) _;refine⟨⟨h.fr.setCell (p:=⟨a,i,J⟩) (z2 g) _,j.whole h.b1 d,?_⟩,?_,bF h.b2 i⟩
 ·have e:=heap_setCell_same b a i _ _ (Z (f i)) h.b2
  rw[CQ f i hi]at e;exact e
 obtain⟨v,l⟩:=FV f i i hi
 exact⟨v,bC h.b2 _ _ l⟩
theorem CS (w F Q D rts ra rc a c l)(B:PN w F Q rts ra rc)(h6:rts.length<=6)(K:w.cell? ⟨D,0,J⟩=I (G a l.length c))(h:Ye w a l)(hl:l.length<=maxLen):
  C U 63 #[H (I ⟨F,0,J⟩),.func (.func 37) #[] #[H (I ⟨D,0,J⟩)]] w fun e w'=>e=E (y7 #[Z (Vh rts l 0),Z (Vh rts l 1),Z (Vh rts l 2),Z (Vh rts l 3),Z (Vh rts l 4),Z (Vh rts l 5)])/\F0 w w':=by
 have HR:=Za B;have L:=B.c0;have r:=bL w _ K
 have HD:N (∀W s,F0 w W->C U 37 #[M s,H (I ⟨D,0,J⟩)] W fun e w'=>e=E (Z (JE l s))/\w'=W):=fun W s hf=>I7 W D a c l s ((hf.cell (p:=⟨D,0,J⟩) r).trans K) (h.fr hf) hl
 obtain⟨n,O⟩:∃n,rts.length=n:=⟨_,rfl⟩;have HN:=Za O;rw[O]at L h6;have P:=Za (bL w _ B.c0)
 have q:N (wl w w.heap.size (w.heap.size+1) (Vh rts l) 0 ((w.alloc (z0 #[Z false,Z false,Z false,Z false,Z false,Z false] 124)).alloc (z0 #[Z false,Z false,Z false,Z false,Z false,Z false] 124))):=
  ⟨(Zt.alloc _).alloc _,((Fr.refl (fun _=>False) _).alloc _).whole (aN w _),by have e:=aN (w.alloc (z0 #[Z false,Z false,Z false,Z false,Z false,Z false] 124)) (z0 #[Z false,Z false,Z false,Z false,Z false,Z false] 124);rw[show(w.alloc (z0 #[Z false,Z false,Z false,Z false,Z false,Z false] 124)).heap.size=w.heap.size+1 from by simp]at e;exact e⟩
 have i0:=(q.o.fr.cell (p:=⟨F,0,J⟩) P.o).trans L;clear B K h hl r O L;go_enter Tryz.func63,Tryz.ntmps63;go_upto_region 2 with fail;generalize(w.alloc _).alloc _=W at*;obtain⟨A,k⟩:∃A,w.heap.size=A:=⟨_,rfl⟩;have HA:=Za k;rw[k]at q;rw[k];clear k;go_wp2_with fail
 go_loopg [6,7,13] n (fun m _ _ kv wx=>∃i,i<=n/\m=n-i/\kv=V Y (i:Nat)/\N (wl w A (A+1) (Vh rts l) i wx))
 case atStart=>exact⟨0,y1 _,rfl,rfl,q⟩
 obtain⟨i,hi,rfl,rfl,b⟩:=hrel;by_cases j0:i<n
 ·have R:(i:Int)<(n:Int):=by omega
  have k0:(i:Int)<6:=by omega
  obtain⟨t,S⟩:∃t,rts[i]?=I t:=⟨_,gE (by have:=HN.o;omega)⟩;obtain⟨g,rfl,_,e0,e1,e2⟩:=(HR.o.fr (b.o.fr.mono)).rt i t S
  have T:N (Vh rts l i=JE l t.name):=by show _=_;unfold Vh;rw[S]
  have a0:=(Vx wr (z0 #[M t.name,V Y (t.base:Nat),V Y (t.rate:Nat)] 148)).1;have hX:=aN wr (z0 #[M t.name,V Y (t.base:Nat),V Y (t.rate:Nat)] 148);have x0:=Zc hX 0;clear S hX;go_upto_region 5 with fail;generalize wr.alloc _=W1 at*;generalize wr.heap.size=X at*;have x:=Za (b.o.fr' a0.o);obtain⟨y,⟨u,hu⟩,l0⟩:=x.o.step (by have:=HA.o;omega) (by omega) (by omega);have z:=Za y;rw[T.o]at z;clear y e0 e1 e2;go_wp2_with fail;refine(HD.o _ _ x.o.fr).mono ?_;rintro e w2 ⟨rfl,hw⟩;replace hw:=hw.symm;subst hw;go_wp2_with fail;go_roundg (n-(i+1))
  case measure=>omega
  exact⟨i+1,by omega,rfl,by go_num,z⟩
 have R:¬(i:Int)<(n:Int):=by omega
 have g0:i=n:=by omega
 subst g0
 have d:=fun j hj=>bC b.o.b2 j _ (by have e:=CR rts l j hj;rw[HN.o]at e;exact e)
 have d0:=d 0 (by omega);have d1:=d 1 (by omega);have d2:=d 2 (by omega);have d3:=d 3 (by omega);have d4:=d 4 (by omega);have d5:=d 5 (by omega);have b0:wr.cell? ⟨A,0,J⟩=I (Z false):=bC b.o.b1 0 _ rfl;have f0:=bF b.o.b1 0;have b1:wr.cell? ⟨A,1,J⟩=I (Z false):=bC b.o.b1 1 _ rfl;have f1:=bF b.o.b1 1;have b2:wr.cell? ⟨A,2,J⟩=I (Z false):=bC b.o.b1 2 _ rfl;have f2:=bF b.o.b1 2;have b3:wr.cell? ⟨A,3,J⟩=I (Z false):=bC b.o.b1 3 _ rfl;have f3:=bF b.o.b1 3;have b4:wr.cell? ⟨A,4,J⟩=I (Z false):=bC b.o.b1 4 _ rfl;have f4:=bF b.o.b1 4;have b5:wr.cell? ⟨A,5,J⟩=I (Z false):=bC b.o.b1 5 _ rfl;have f5:=bF b.o.b1 5;clear d;have e6:=heap_setCell_same _ A 5 _ _ (Z (Vh rts l 5)) (heap_setCell_same _ A 4 _ _ (Z (Vh rts l 4)) (heap_setCell_same _ A 3 _ _ (Z (Vh rts l 3)) (heap_setCell_same _ A 2 _ _ (Z (Vh rts l 2)) (heap_setCell_same _ A 1 _ _ (Z (Vh rts l 1)) (heap_setCell_same wr A 0 _ _ (Z (Vh rts l 0)) b.o.b1)))));have f:=Za e6;clear e6;go_wp2_with fail;have s0:=bC f.o 0 (Z (Vh rts l 0)) rfl;have s1:=bC f.o 1 (Z (Vh rts l 1)) rfl;have s2:=bC f.o 2 (Z (Vh rts l 2)) rfl;have s3:=bC f.o 3 (Z (Vh rts l 3)) rfl;have s4:=bC f.o 4 (Z (Vh rts l 4)) rfl;have s5:=bC f.o 5 (Z (Vh rts l 5)) rfl;have k:w.heap.size<=A:=q8 HA.o;refine bodyPost_ret (v:=y7 #[Z (Vh rts l 0),Z (Vh rts l 1),Z (Vh rts l 2),Z (Vh rts l 3),Z (Vh rts l 4),Z (Vh rts l 5)]) (by simp[results,Tryz.results63,go_sem,s0,s1,s2,s3,s4,s5]) rfl ⟨rfl,?_⟩;exact(((((b.o.fr.setCell (p:=⟨A,0,J⟩) (z2 k) _).setCell (p:=⟨A,1,J⟩) (z2 k) _).setCell (p:=⟨A,2,J⟩) (z2 k) _).setCell (p:=⟨A,3,J⟩) (z2 k) _).setCell (p:=⟨A,4,J⟩) (z2 k) _).setCell (p:=⟨A,5,J⟩) (z2 k) _
theorem FW (w):C U 112 #[] w fun e w'=>e=E (y7 #[.func (.func 165) #[] #[],.func (.func 166) #[] #[],.func (.func 167) #[] #[],.func (.func 168) #[] #[],.func (.func 169) #[] #[],.func (.func 170) #[] #[],.func (.func 171) #[] #[]])/\F0 w w':=by
 have f:=fun(w:z3)(a:Addr)(m:Mode)(fn:Fn)(x y:Array q6)=>run_store U w a (.func fn x y) m rfl
 go_enter Tryz.func112,Tryz.ntmps112;have b:=aN w (z0 #[.nilFunc,.nilFunc,.nilFunc,.nilFunc,.nilFunc,.nilFunc,.nilFunc] 204);have g:=(Vx w (z0 #[.nilFunc,.nilFunc,.nilFunc,.nilFunc,.nilFunc,.nilFunc,.nilFunc] 204)).1;go_upto_region 1 with fail;generalize w.alloc _=W at*;obtain⟨A,c⟩:∃A,w.heap.size=A:=⟨_,rfl⟩;have h:=Za c;rw[c]at b;rw[c];have s:W.cell? ⟨A,0,J⟩=I .nilFunc:=bC b 0 _ rfl;have t:=bF b 0;have u:W.cell? ⟨A,1,J⟩=I .nilFunc:=bC b 1 _ rfl;have z:=bF b 1;have B:W.cell? ⟨A,2,J⟩=I .nilFunc:=bC b 2 _ rfl;have D:=bF b 2;have F:W.cell? ⟨A,3,J⟩=I .nilFunc:=bC b 3 _ rfl;have G:=bF b 3;have H:W.cell? ⟨A,4,J⟩=I .nilFunc:=bC b 4 _ rfl;have K:=bF b 4;have L:W.cell? ⟨A,5,J⟩=I .nilFunc:=bC b 5 _ rfl;have M:=bF b 5;have N:W.cell? ⟨A,6,J⟩=I .nilFunc:=bC b 6 _ rfl;have O:=bF b 6;have d:=Za (heap_setCell_same _ A 6 _ _ (.func (.func 171) #[] #[]) (heap_setCell_same _ A 5 _ _ (.func (.func 170) #[] #[]) (heap_setCell_same _ A 4 _ _ (.func (.func 169) #[] #[]) (heap_setCell_same _ A 3 _ _ (.func (.func 168) #[] #[]) (heap_setCell_same _ A 2 _ _ (.func (.func 167) #[] #[]) (heap_setCell_same _ A 1 _ _ (.func (.func 166) #[] #[]) (heap_setCell_same W A 0 _ _ (.func (.func 165) #[] #[]) b)))))));go_wp2_with fail;have i:=bC d.o 0 (.func (.func 165) #[] #[]) rfl;have j:=bC d.o 1 (.func (.func 166) #[] #[]) rfl;have k:=bC d.o 2 (.func (.func 167) #[] #[]) rfl;have l:=bC d.o 3 (.func (.func 168) #[] #[]) rfl;have n:=bC d.o 4 (.func (.func 169) #[] #[]) rfl;have q:=bC d.o 5 (.func (.func 170) #[] #[]) rfl;have r:=bC d.o 6 (.func (.func 171) #[] #[]) rfl;have b:w.heap.size<=A:=q8 h.o;refine bodyPost_ret (v:=y7 #[.func (.func 165) #[] #[],.func (.func 166) #[] #[],.func (.func 167) #[] #[],.func (.func 168) #[] #[],.func (.func 169) #[] #[],.func (.func 170) #[] #[],.func (.func 171) #[] #[]]) (by simp[results,Tryz.results112,go_sem,i,j,k,l,n,q,r]) rfl ⟨rfl,?_⟩
 exact((((((g.o.setCell (p:=⟨A,0,J⟩) (z2 b) _).setCell (p:=⟨A,1,J⟩) (z2 b) _).setCell (p:=⟨A,2,J⟩) (z2 b) _).setCell (p:=⟨A,3,J⟩) (z2 b) _).setCell (p:=⟨A,4,J⟩) (z2 b) _).setCell (p:=⟨A,5,J⟩) (z2 b) _).setCell (p:=⟨A,6,J⟩) (z2 b) _
def Ms (w:z3)(Q:Nat)(c:Option Addr)(l:List Zl):Prop:=
 ∀k s,l[k]?=I s->∃g a d,c=I ⟨g,0,J⟩/\g≠Q/\w.cell? ⟨g,k*4,J⟩=I (V z7 (s.sort:Nat))/\w.cell? ⟨g,k*4+1,J⟩=I (G a s.nums.length d)/\w.cell? ⟨g,k*4+2,J⟩=I (V Y (s.rule:Nat))/\w.cell? ⟨g,k*4+3,J⟩=I (V Y (s.skip:Nat))/\Zu w a s.nums/\∀b,a=I ⟨b,0,J⟩->b≠Q
theorem Ms.fr {w w' Q d l}(h:Ms w Q d l)(a:Fr (fun j=>j=Q) w w'):Ms w' Q d l:=by
 intro k s i;obtain⟨g,m,n,o,b,e,q,r,t,u,f⟩:=h k s i;have c:=bL w _ e;exact⟨g,m,n,o,b,(a.cell (p:=⟨g,k*4,J⟩) c b).trans e,(a.cell (p:=⟨g,k*4+1,J⟩) c b).trans q,(a.cell (p:=⟨g,k*4+2,J⟩) c b).trans r,(a.cell (p:=⟨g,k*4+3,J⟩) c b).trans t,u.fr a f,f⟩
def vz (s:Zl):Prop:=s.nums.length<=4000/\s.skip<=255/\(s.sort=1->∃x y,s.nums=[x,y])
def U3 (rts:List Zf)(a:ByteArray)(s:Zl)(b:Nat->Bool)(c:Int):Nat×ByteArray×ByteArray:=
 if s.sort=3 then(3,a,O)else if s.sort=4 then Mq rts a (YK false (XO rts c) b s.nums J)else if s.sort=5 then Mq rts a (YK true (XO rts c) b s.nums J)else(2,O,O)
def za (w:z3)(a Q:Nat)(rts:List Zf)(b:ByteArray)(s:Zl):Prop:=
 s.sort=6\/((s.sort=3\/s.sort=4\/s.sort=5)/\s.nums.length<=4000/\(∀x,x∈s.nums->x<rts.length)/\∃g m c,OP w a Q s.rule b g m c)
theorem za.fr {w w' a Q rts b s}(h:za w a Q rts b s)(c:Fr (fun j=>j=Q) w w'):za w' a Q rts b s:=by
 rcases h with h|⟨d,e,f,g,m,i,k⟩
 ·exact z6 h
 exact z2 ⟨d,e,f,g,m,i,k.fr c⟩
def uj (W:z3)(Q b:Nat)(p:WC)(c:Nat->Bool)(o:Nat×ByteArray×ByteArray)(l:List Zl)(d:Zl)(a:Nat×ByteArray×ByteArray)(m:Nat)(wr:z3):Prop:=
 Fr (fun j=>j=Q) W wr/\((∃k,wr.heap[Q]?=I (UC b p c k false o)/\XN (RN p) l m k=I d)\/∃k,wr.heap[Q]?=I (UC b p c k true a))
theorem CT {c l m k d}(h:XN c l m k=I d):∃b s,m=b+1/\l[k]?=I s/\(s.sort<3/\XN c l b (if c s then k+1 else k+s.skip)=I d\/¬s.sort<3/\s=d):=by
 cases m with
 |zero=>simp[XN]at h
 |succ b=>
  unfold XN at h
  cases e:l[k]? with
  |none=>rw[e]at h;cases h
  |some s=>
   rw[e]at h
   dsimp only at h
   refine⟨b,s,rfl,rfl,?_⟩
   split at h
   ·rename_i a
    exact z6 ⟨a,h⟩
   rename_i a
   injection h with h;exact z2 ⟨a,h⟩
theorem I8 (w Q r p t o pa pc l sE rts ra rc nm)(h:w.heap[Q]?=I (UC r p t 0 false o))(w0:Ms w Q pa l)(x0:∀s,s∈l->s.sort<3->vz s)(hl:l.length<=1000)(hm:∃n,XN (RN p) l n 0=I sE)(y0:za w r Q rts nm sE)(hr:PN w r Q rts ra rc)(h6:rts.length<=6)(A0:0<=p.am/\p.am<=1000000000):
  C U 64 #[H (I ⟨Q,0,J⟩),G pa l.length pc] w fun e w'=>e=E (.tuple #[])/\(∃k,w'.heap[Q]?=I (UC r p t k true (U3 rts nm sE t p.am)))/\Fr (fun j=>j=Q) w w':=by
 obtain⟨n0,hm⟩:=hm;obtain⟨u,a0⟩:∃u,U3 rts nm sE t p.am=u:=⟨_,rfl⟩;have j0:=Za a0;have HH:=Za h;have B0:=Za w0;have C0:=Za x0;have HM:=Za hm;have D0:=Za y0;have HR:=Za hr;have H6:=Za h6;have k0:=Za A0;obtain⟨n,hn⟩:∃n,l.length=n:=⟨_,rfl⟩;have HN:=Za hn;rw[hn]at hl;rw[hn,a0]
 have X0:=fun(w:z3)(a:Addr)(m:Mode)(fn:Fn)(x y:Array q6)=>run_store U w a (.func fn x y) m rfl
 go_enter Tryz.func64,Tryz.ntmps64;go_wp2_with fail;refine(FW w).mono ?_;rintro e w1 ⟨rfl,l0⟩;have O:=Za (l0.alloc (z0 #[.func (.func 165) #[] #[],.func (.func 166) #[] #[],.func (.func 167) #[] #[],.func (.func 168) #[] #[],.func (.func 169) #[] #[],.func (.func 170) #[] #[],.func (.func 171) #[] #[]] 204));have HA:=(Vx w1 (z0 #[.func (.func 165) #[] #[],.func (.func 166) #[] #[],.func (.func 167) #[] #[],.func (.func 168) #[] #[],.func (.func 169) #[] #[],.func (.func 170) #[] #[],.func (.func 171) #[] #[]] 204)).2
 have m0:N (w1.heap.size≠Q):=by have:=(iA.1 HH.o).1;have:=l0.size;show _≠_;omega
 go_upto_region 1 with fail;generalize w1.alloc _=W at*;generalize w1.heap.size=A at*;have E0:N (uj W Q r p t o l sE u n0 W):=⟨Zt,z6 ⟨0,O.o.whole HH.o,HM.o⟩⟩;have o0:=Za (B0.o.fr (O.o.mono));have p0:=Za (D0.o.fr (O.o.mono));have q0:=Za (HR.o.fr (O.o.mono))
 go_loopg [5] n0 (fun m _ wr=>N (uj W Q r p t o l sE u m wr))
 case atStart=>exact E0
 obtain⟨b0,⟨k,hq,G0⟩|⟨k,hq⟩⟩:=hrel.o
 ·obtain⟨m',s,rfl,hs,c0⟩:=CT G0
  obtain⟨g,B,K,rfl,Y0,e0,e1,e2,e3,H0,I0⟩:=(o0.o.fr b0) k s hs;have J0:=Zc hq 12;have Z0:=Zc hq 11
  have a1:k<n:=by have:=(iG.1 hs).1;have:=HN.o;omega
  have b1:(k:Int)<(n:Int):=by omega
  have HK:N (k<=100000):=by show _<=_;omega
  have R:=Za b0;have HQ:=Za hq;have K0:N (Q<wr.heap.size):=(iA.1 hq).1;have HS:=Za (mG hs);have L0:=Za c0;have M0:N (Zu wr B s.nums/\∀g',B=I ⟨g',0,J⟩->g'≠Q):=⟨H0,I0⟩;obtain⟨S,N0⟩:=Vx wr (z0 #[V z7 (s.sort:Nat),G B s.nums.length K,V Y (s.rule:Nat),V Y (s.skip:Nat)] 208);have r0:N (wr.heap.size≠Q/\A≠Q):=⟨by have:=K0.o;omega,m0.o⟩;go_upto_region 3 with fail;generalize wr.alloc _=M at*;generalize wr.heap.size=X at*;have O0:=Za (S.o.whole HQ.o);have d0:=S.o.whole (R.o.whole HA.o m0.o);have d0:=Za d0;have s0:=Za (R.o.trans (S.o.mono));have P0:=Za (M0.o.1.fr S.o)
  have Q0:N (∃F,(∀b,Fr (fun j=>j=Q) M b->b.cell? ⟨A,s.sort,J⟩=I (.func (.func F) #[] #[]))/\s.sort<7/\(∀args W,(callFunc F args).run U W=.ok (.enter F args) W)/\∀b,F0 M b->C U F #[H (I ⟨Q,0,J⟩),y7 #[V z7 (s.sort:Nat),G B s.nums.length K,V Y (s.rule:Nat),V Y (s.skip:Nat)]] b fun e w'=>e=E (.tuple #[])/\uj W Q r p t o l sE u m' w'/\Fr (fun j=>j=Q) b w'):=by
   have cA:=fun i v hv b (d:Fr (fun j=>j=Q) M b)=>bC (d.whole d0.o (fun e=>r0.o.2 e)) i v hv
   have q:=fun b (d:F0 M b)=>s0.o.trans (d.mono (T:=fun j=>j=Q))
   have hQ:=fun b (d:F0 M b)=>d.whole O0.o
   have hI:=fun b (d:F0 M b)=>P0.o.fr d
   rcases L0.o with⟨R0,L⟩|⟨c1,S0⟩
   ·obtain⟨P,d1,T0⟩:=C0.o s HS.o R0
    have f:s.sort=0\/s.sort=1\/s.sort=2:=by omega
    rcases f with c|c|c
    ·refine⟨165,c▸cA 0 _ rfl,by omega,fun _ _=>by kernel_rfl,fun b d=>?_⟩
     rw[c];refine(A8 _ p.mcc b Q r k p t o 0 B s.nums K s.rule s.skip (hQ b d) HK.o (by omega) (hI b d) P (z6 ⟨rfl,rfl⟩)).mono ?_;rintro e w' ⟨D,z,f⟩;rw[show RN p s=Ul s.nums p.mcc from by unfold RN;rw[if_pos c]]at L;exact⟨D,⟨(q b d).trans f,z6 ⟨_,z,L⟩⟩,f⟩
    ·refine⟨166,c▸cA 1 _ rfl,by omega,fun _ _=>by kernel_rfl,fun b d=>?_⟩
     obtain⟨x,y,f0⟩:=T0 c;have hi:=hI b d;rw[f0]at hi;rw[c,show s.nums.length=2 from by rw[f0];rfl];refine(LG b Q r k p t o 1 B x y K s.rule s.skip (hQ b d) HK.o (by omega) hi).mono ?_;rintro e w' ⟨D,z,f⟩;rw[show RN p s=(decide ((x:Int)<=p.am)&&decide (p.am<=(y:Int)))from by unfold RN;rw[if_neg (by omega),if_pos c,f0];rfl]at L;exact⟨D,⟨(q b d).trans f,z6 ⟨_,z,L⟩⟩,f⟩
    refine⟨167,c▸cA 2 _ rfl,by omega,fun _ _=>by kernel_rfl,fun b d=>?_⟩
    rw[c];refine(A8 _ p.cur b Q r k p t o 2 B s.nums K s.rule s.skip (hQ b d) HK.o (by omega) (hI b d) P (z2 ⟨rfl,rfl⟩)).mono ?_;rintro e w' ⟨D,z,f⟩;rw[show RN p s=Ul s.nums p.cur from by unfold RN;rw[if_neg (by omega),if_neg (by omega)]]at L;exact⟨D,⟨(q b d).trans f,z6 ⟨_,z,L⟩⟩,f⟩
   have Z:=j0.o
   subst S0;unfold U3 at Z
   have hE:∀{v:Nat×ByteArray×ByteArray}{b w':z3},F0 M b->w'.heap[Q]?=I (UC r p t k true v)->v=u->Fr (fun j=>j=Q) b w'->uj W Q r p t o l s u m' w':=fun d z ev f=>⟨(q _ d).trans f,z2 ⟨k,ev▸z⟩⟩
   rcases p0.o with c|⟨c,P,t0,ng,g0,h0,i0⟩
   ·refine⟨171,c▸cA 6 _ rfl,by omega,fun _ _=>by kernel_rfl,fun b d=>?_⟩
    simp only[c]at Z ⊢
    exact(Mp b Q r k p t o 6 B s.nums.length K s.rule s.skip (hQ b d)).mono fun e w' ⟨D,z,f⟩=>⟨D,hE d z (by simpa using Z) f,f⟩
   rcases c with c|c|c
   ·refine⟨168,c▸cA 3 _ rfl,by omega,fun _ _=>by kernel_rfl,fun b d=>?_⟩
    simp only[c]at Z ⊢
    exact(JF b Q r k p t o 3 B s.nums.length K s.rule s.skip nm ng g0 h0 (hQ b d) (i0.fr (q b d))).mono fun e w' ⟨D,z,f⟩=>⟨D,hE d z (by simpa using Z) f,f⟩
   ·refine⟨169,c▸cA 4 _ rfl,by omega,fun _ _=>by kernel_rfl,fun b d=>?_⟩
    simp only[c]at Z ⊢
    exact(LH b Q r k p t o 4 B s.nums K s.rule s.skip nm ng g0 h0 rts ra rc (hQ b d) (i0.fr (q b d)) (q0.o.fr (q b d)) (hI b d) P t0 H6.o k0.o).mono fun e w' ⟨D,z,f⟩=>⟨D,hE d z (by simpa using Z) f,f⟩
   refine⟨170,c▸cA 5 _ rfl,by omega,fun _ _=>by kernel_rfl,fun b d=>?_⟩
   simp only[c]at Z ⊢
   exact(PO b Q r k p t o 5 B s.nums K s.rule s.skip nm ng g0 h0 rts ra rc (hQ b d) (i0.fr (q b d)) (q0.o.fr (q b d)) (hI b d) P t0 H6.o k0.o).mono fun e w' ⟨D,z,f⟩=>⟨D,hE d z (by simpa using Z) f,f⟩
  obtain⟨F,hF,f1,g1,hC⟩:=Q0.o
  have v0:N (∀b,Fr (fun j=>j=Q) M b->b.cell? ⟨X,0,J⟩=I (V z7 (s.sort:Nat))/\b.cell? ⟨X,1,J⟩=I (G B s.nums.length K)/\b.cell? ⟨X,2,J⟩=I (V Y (s.rule:Nat))/\b.cell? ⟨X,3,J⟩=I (V Y (s.skip:Nat))/\b.cell? ⟨A,s.sort,J⟩=I (.func (.func F) #[] #[])):=fun b d=>by
   have hx:=d.whole N0.o (fun e=>r0.o.1 e);exact⟨Zc hx 0,Zc hx 1,Zc hx 2,Zc hx 3,hF b d⟩
  have HC:N (∀b,N (F0 M b)->C U F #[H (I ⟨Q,0,J⟩),y7 #[V z7 (s.sort:Nat),G B s.nums.length K,V Y (s.rule:Nat),V Y (s.skip:Nat)]] b fun e w'=>e=E (.tuple #[])/\N (uj W Q r p t o l sE u m' w')/\w'.cell? ⟨X,0,J⟩=I (V z7 (s.sort:Nat))/\w'.cell? ⟨X,1,J⟩=I (G B s.nums.length K)/\w'.cell? ⟨X,2,J⟩=I (V Y (s.rule:Nat))/\w'.cell? ⟨X,3,J⟩=I (V Y (s.skip:Nat))/\w'.cell? ⟨A,s.sort,J⟩=I (.func (.func F) #[] #[])):=fun b d=>(hC b d.o).mono fun e w' ⟨D,z,f⟩=>⟨D,z,v0.o _ ((d.o.mono).trans f)⟩
  have hS:=v0.o M Zt;have h1:N (F0 M M.drew):=Zt.drew
  have W0:(s.sort:Int)<7:=by omega
  go_region_held3 (fun b=>b.cell? ⟨X,0,J⟩=I (V z7 (s.sort:Nat))/\b.cell? ⟨X,1,J⟩=I (G B s.nums.length K)/\b.cell? ⟨X,2,J⟩=I (V Y (s.rule:Nat))/\b.cell? ⟨X,3,J⟩=I (V Y (s.skip:Nat))/\b.cell? ⟨A,s.sort,J⟩=I (.func (.func F) #[] #[])) (first|assumption|go_keep) (first
   |(refine(HC.o _ (by assumption)).mono ?_;rintro e w7 ⟨rfl,V0,i1⟩))
  go_wp2_with fail;go_roundg m'
  case measure=>omega
  exact V0
 have J0:=Zc hq 12
 have HQ:=Za hq;have R:=Za ((O.o.mono).trans b0);go_wp2_with fail
 go_end0
 exact⟨rfl,⟨k,HQ.o⟩,R.o⟩
theorem Fr.setRow {S w0 w}(h:Fr S w0 w){g}(b:S g\/w0.heap.size<=g)(a):Fr S w0 (w.setRow g a):=
 h.monoNew (T:=fun k=>k=g) ⟨rfl,rfl,rfl,by simp,fun k _ c=>setRow_other w g k a c⟩ (fun k d=>by subst d;exact b)
theorem Sg (R:List Ze)(met:Nat):∀L:List Nat,(ZI R met L).length<=L.length*4+1
 |[]=>by simp[ZI]
 |i::L=>by
  have a:=Sg R met L;simp only[ZI,x7]
  split
  ·cases b:R[i]? with
   |none=>dsimp only;omega
   |some r=>
    dsimp only
    split
    ·simp
    have c:=Tm r
    rw[lA,x7,Sd,VG];omega
  omega
theorem Kr {m:Nat}:∀{l:List Zl}{a:Nat}{s:Zl},s∈ZN m a l->∃b,b∈l/\s.sort=b.sort/\s.nums=b.nums/\s.skip<=m+1
 |[],_,_,h=>by cases h
 |x::r,a,s,h=>by
  rcases y2.1 h with e|h
  ·subst e
   exact⟨x,by simp,rfl,rfl,by show m-a+1<=m+1;omega⟩
  obtain⟨b,c,d⟩:=Kr h
  exact⟨b,by simp[c],d⟩
theorem CU {n r}(h:Tc n r):∀s,s∈Z4 r->s.nums.length<=4000/\(s.sort=1->∃x y,s.nums=[x,y]):=by
 intro s a;unfold Z4 at a;rw[z9,z9]at a;rcases a with e|e|e
 ·split at e
  ·cases e
  simp at e;subst e;exact⟨h.mc.1,fun e=>by simp at e⟩
 ·cases b:r.am with
  |none=>rw[b]at e;cases e
  |some c=>rw[b]at e;simp at e;subst e;exact⟨by simp,fun _=>⟨_,_,rfl⟩⟩
 split at e
 ·cases e
 simp at e;subst e;exact⟨h.cu.1,fun e=>by simp at e⟩
theorem Q6 {R:List Ze}{n:Nat}(c:∀r,r∈R->Tc n r)(met:Nat):∀(L:List Nat)(s:Zl),s∈ZI R met L->s.sort<3->vz s
 |[],s,h,hs=>by
  simp[ZI]at h;subst h;simp at hs
 |i::L,s,h,hs=>by
  have a:=Q6 c met L s;simp only[ZI]at h
  split at h
  ·cases b:R[i]? with
   |none=>rw[b]at h;exact a h hs
   |some r=>
    rw[b]at h
    dsimp only at h
    split at h
    ·simp at h
     subst h;exact absurd hs (Q0 i r)
    rw[z9]at h
    rcases h with h|h
    ·obtain⟨f,g,j,d,k⟩:=Kr h
     obtain⟨g1,g2⟩:=CU (c r (mG b)) f g;have g3:=Tm r;exact⟨by rw[d];exact g1,by omega,fun e=>by rw[d];exact g2 (by rw[<-j];exact e)⟩
    rcases y2.1 h with e|h
    ·subst e
     exact absurd hs (Q0 i r)
    exact a h hs
  exact a h hs
theorem JG {s}(h:XP s=true):Zy s<10^6:=by
 obtain⟨f,_,a⟩:=UM h
 have b:(s.data.toList.take 6).length=6:=by rw[List.length_take];simp;omega
 have e:=O1 (s.data.toList.take 6) 0 (fun c d=>(a c (List.mem_of_mem_take d)).2);rw[b]at e;unfold Zy Yu;omega
theorem PP (R):T9 R ⟨0,0⟩ 0 (2^R.length-1):=by
 intro i r a;refine⟨fun h=>by simp at h,fun _ h=>?_⟩;have:=(iG.1 a).1;rw[Nat.testBit_two_pow_sub_one]at h;simp at h;omega
theorem zd {rts R}(a:Yx rts R)(p)(d:XP p.pan=true):
  ∃m,(ZG R 7 ⟨0,0⟩ 0 (2^R.length-1) []).2[(ZG R 7 ⟨0,0⟩ 0 (2^R.length-1) []).1.find (Iu (Zy p.pan)) 0]?=I m/\
   ∃n,XN (RN p) (ZI R m (X6 R.length (Zx (Zv R) R.length))) n 0=I (Qj R (YF (Zv R) (YX R p (Zy p.pan)) R.length)):=by
 have e:=Jr (R:=R) (fun r b=>⟨(a.rl r b).bn.1,(a.rl r b).bn.2.1⟩) 7 ⟨0,0⟩ 0 (2^R.length-1) [] (by simp) (by simp) (PP R);obtain⟨m,f,g⟩:=e.2 (Zy p.pan) (by unfold YQ;have:=JG d;simp;omega);refine⟨m,f,?_⟩;obtain⟨n,c⟩:=Mk R m p (X6 R.length (Zx (Zv R) R.length));rw[FR R m p (Zy p.pan) g]at c;exact⟨n,c⟩
theorem Mt {rts R}(a:Yx rts R):(ZG R 7 ⟨0,0⟩ 0 (2^R.length-1) []).1.deep 0:=
 (Jr (R:=R) (fun r b=>⟨(a.rl r b).bn.1,(a.rl r b).bn.2.1⟩) 7 ⟨0,0⟩ 0 (2^R.length-1) [] (by simp) (by simp) (PP R)).1
theorem xh {rts R}(p a)(d:Y5 p=true)(c)(e:c=Zy p.pan):
  TR rts R p a=U3 rts ((match YF (Zv R) (YX R p c) R.length with|none=>J|some i=>(R[i]?).map Ze.name).getD O) (Qj R (YF (Zv R) (YX R p c) R.length)) a p.am:=by
 subst e;unfold TR;rw[if_pos d]
 cases g:YF (Zv R) (YX R p (Zy p.pan)) R.length with
 |none=>rfl
 |some i=>
  cases b:R[i]? with
  |none=>simp[Qj,b,U3]
  |some r=>
   simp only[Qj,b,Option.map_some,Option.getD_some];unfold A7 UG
   cases h:r.decline with
   |true=>simp[U3]
   |false=>
    cases f:r.cheapest with
    |true=>
     simp only[z5,if_false,if_true,U3];simp only[show¬(5:Nat)=3 from by decide,show¬(5:Nat)=4 from by decide,if_false]
     cases YK true (XO rts p.am) a r.routes J<;>rfl
    |false=>
     simp only[z5,if_false,U3];simp only[show¬(4:Nat)=3 from by decide,if_false,if_true]
     cases YK false (XO rts p.am) a r.routes J<;>rfl
theorem PN.of {w b Q base c d rts}(f:w.cell? ⟨b,0,J⟩=I (G d rts.length c))(h:w.ownsRow base 148 3 (G d rts.length c) rts.length (Yh rts))(k:w.heap.size<=Q)(j:∀t,t∈rts->Lz t):PN w b Q rts d c:=by
 have l:b<w.heap.size:=bL w _ f;refine⟨f,by omega,fun i t hi=>?_,j⟩;have m:=(iG.1 hi).1;obtain⟨g,cap,e,_,n,a⟩:=UV h (by omega);injection e with e _ _;exact⟨g,e,by omega,a i t hi⟩
theorem Ms.of {p base w Q q d l}(h:Z2 p w base (G d l.length q) l)(z:w.heap.size<=Q):Ms w Q d l:=by
 intro k s f;obtain⟨A,i,r⟩:=h;have B:=(iG.1 f).1;obtain⟨g,cap,e,_,C⟩:=i.form (by omega);injection e with e _ _;subst e;obtain⟨c,⟨D,rfl,b⟩,t⟩:=r.get f;obtain⟨j,m,u⟩:=oL b;subst u
 have a:∀o v,[Value.int z7 s.sort,G j s.nums.length m,V Y s.rule,V Y s.skip][o]?=I v->w.cell? ⟨g,k*4+o,J⟩=I v:=fun o v x=>by
  have n:=i.cells (g:=g) rfl _ _ (t o v x);rw[Yc,q7]at n;exact n
 refine⟨g,j,m,rfl,by omega,a 0 _ rfl,a 1 _ rfl,a 2 _ rfl,a 3 _ rfl,Zu.of b,fun y e=>?_⟩;subst e;have:=(b.lt y rfl).2;omega
