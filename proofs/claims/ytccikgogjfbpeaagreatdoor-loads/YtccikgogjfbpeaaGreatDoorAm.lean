import Derived.Test.YtccikgogjfbpeaaGreatDoorAj
import Derived.Test.YtccikgogjfbpeaaGreatDoorAg
import Derived.Test.YtccikgogjfbpeaaGreatDoorShelf
import Derived.Lib.ItoaMem
import Derived.Lib.AppendIntMem
import Derived.Lib.ItoaLen
open Option renaming some->I,none->Y
open Go.Value renaming string->J,int->S,slice->z8,pointer->x5,bool->x7,oneCell'->v5
open List renaming length_cons->P,length_map->U,length_nil->O,append_assoc->E,flatMap_cons->H,length_append->D,getElem?_map->M,replicate->N,getElem?_append_left->z0,mem_append->z7,take_of_length_le->z9,take_add_one->y8,mem_map->x0,length_eq_zero_iff->x6,mem_of_getElem?->x9,map_cons->q5,flatMap_append->q6,cons_append->j0,map_append->v0,map_map->v6,length->v7
open Go.IntKind renaming i64->V,i64->v8
open Go.Proofs.Tryz renaming prog->Z
open Go.Ending renaming returned->K,returned->v4
open Nat renaming strongRecOn->G,zero_le->F,le_trans->y7,lt_or_ge->y9,mul_le_mul->x8,zero_add->q7,le_refl->q8,add_mul->q9
open Go.RowKit renaming Hid->L
open UInt8 renaming ofNat->A
open Go renaming Calls->C,World->q0
open Go.Obj renaming cells->y0
namespace Go.Proofs.YtccikgogjfbpeaaGreatDoor
set_option maxRecDepth 30000
set_option maxHeartbeats 8000000
structure wW (body:List Tk)(i:Nat)(l:List Tk):Prop where
 it:∀j t,l[j]?=I t->body[i+1+2*j]?=I t
 cm:∀j,0<j->j<l.length->∃t,body[i+2*j]?=I t/\(t.text.toList==[44])=true
 en:∃t,body[i+2*l.length]?=I t/\(t.text.toList==[44])=false
 ps:0<l.length
def sI (t:Tk)(l:List UInt8):Prop:=(t.text.toList==l)=true
def wX (body:List Tk)(i:Nat)(kw:List UInt8)(l:List Tk):Prop:=
 ∃t,body[i]?=I t/\(((t.text.toList==kw)=true/\wW body i l)\/((t.text.toList==kw)=false/\l=[]))
def uf (body:List Tk)(i:Nat)(kw:List UInt8)(o:Option (Tk×Tk)):Prop:=
 ∃t,body[i]?=I t/\match o with
  |some a=>(t.text.toList==kw)=true/\body[i+1]?=I a.1/\body[i+3]?=I a.2
  |none=>(t.text.toList==kw)=false
def St (o:Option (Tk×Tk)):Nat:=match o with|some _=>4|none=>0
def xY (body:List Tk)(c:Nat)(a:D0)(j:Nat):Prop:=
  ∃ t,body[c+1]?=I t/\
    ((a=⟨true,false,[]⟩/\(t.text.toList==[100,101,99,108,105,110,101])=true/\j=c+2)\/
     (a.decline=false/\(t.text.toList==[100,101,99,108,105,110,101])=false/\(t.text.toList==[99,104,101,97,112,101,115,116])=a.cheapest/\
       ∃b,(c+1=if a.cheapest then b else b+1)/\wW body b a.routes/\j=b+2*a.routes.length))
structure Jw (body:List Tk)(i:Nat)(r:Qz)(j:Nat):Prop where
 nm:body[i+1]?=I r.name
 rk:body[i+2]?=I r.rank
 b1:body[i+5]?=I r.bin.1
 b2:body[i+7]?=I r.bin.2
 mc:wX body (i+8) [109,99,99] r.mcc
 am:uf body (i+8+2*r.mcc.length) [97,109,111,117,110,116] r.amount
 cu:wX body (i+8+2*r.mcc.length+St r.amount) [99,117,114] r.cur
 ac:xY body (i+8+2*r.mcc.length+St r.amount+2*r.cur.length) r.act j
 dg:Dg r.rank.text/\Dg r.bin.1.text/\Dg r.bin.2.text/\(∀t,t∈r.mcc->Dg t.text)/\(∀t,t∈r.cur->Dg t.text)/\(∀ab,r.amount=I ab->Dg ab.1.text/\Dg ab.2.text)
theorem NO {ts k n}(h:k<n):Yo ts k (n-k)=Xc ts k::Yo ts (k+1) (n-(k+1)):=by
 rw[show n-k=(n-(k+1))+1 from by omega];rfl
theorem Vn {ts k t}(h:ts[k]?=I t):Zo ts k=t:=by
 unfold Zo;rw[gD,h];rfl
section
variable {body:List Tk} {en:Tk}
theorem O4 (a:en.sort=3){i}(h:(Zo (body++[en]) i).sort≠3):body[i]?=I (Zo (body++[en]) i):=by
 unfold Zo at h ⊢;rw[gD]at h ⊢;by_cases hi:i<body.length
 ·rw[z0 hi,gE hi]
  rfl
 exfalso
 apply h;rw[aR (by omega)];by_cases b:i-body.length=0
 ·rw[b];exact a
 rw[List.getElem?_eq_none (by simp;omega)];rfl
theorem ZT (c:en.sort=3){i a t k}(d:a≠3)(h:Z8 (body++[en]) i a=.ok (t,k)):body[i]?=I t/\t.sort=a/\k=i+1:=by
 obtain⟨rfl,b,e⟩:=Ys h;exact⟨O4 c (by rw[b];exact d),b,e⟩
theorem Ug (a:en.sort=3){i m}(h:Zn (Zo (body++[en]) i) m=true):∃t,body[i]?=I t/\(t.text.toList==m.data.toList)=true/\t.sort=2:=by
 simp only[Zn,Bool.and_eq_true,decide_eq_true_eq]at h;exact⟨_,O4 a (by rw[h.1];decide),by rw[<-ByteArray.toList_eq m];exact h.2,h.1⟩
theorem YE (a:en.sort=3){i m u k}(h:ZE (body++[en]) i m=.ok (u,k)):(∃t,body[i]?=I t/\(t.text.toList==m.data.toList)=true/\t.sort=2)/\k=i+1:=by
 refine⟨?_,Yt h⟩;unfold ZE at h
 split at h
 ·rename_i b;exact Ug a b
 cases h
theorem U0 (b:en.sort=3)(c:∀t,t∈body->VC t){i m}(d:m∈X5)(e:(Zo (body++[en]) i).sort≠3)(h:¬Zn (Zo (body++[en]) i) m=true):∃t,body[i]?=I t/\(t.text.toList==m.data.toList)=false:=by
 have a:=O4 b e;refine⟨_,a,?_⟩;have f:=c _ (mG a) m d;rw[<-ByteArray.toList_eq m,<-f]
 simpa using h
theorem Wn (a:∀t,t∈body->t.sort≠3){i t}(h:body[i]?=I t):(Zo (body++[en]) i).sort≠3:=by
 have hi:=(iG.1 h).1
 have e:Zo (body++[en]) i=t:=by
  unfold Zo;rw[gD,z0 hi,h];rfl
 rw[e];exact a t (mG h)
theorem E5 (g:en.sort=3){want}(n:want≠3):∀m i c l k,(body++[en]).length-i=m->XT (body++[en]) i want c=.ok (l,k)->
  ∃r,l=c++r/\(∀j t,r[j]?=I t->body[i+1+2*j]?=I t)/\(∀j,j<r.length->∃t,body[i+2*j]?=I t/\(t.text.toList==[44])=true)/\k=i+2*r.length/\¬Zn (Zo (body++[en]) k) Y1=true:=by
 intro m
 induction m using G with
 |ind m o=>
  intro i c l k A b;rw[XT]at b
  split at b
  ·rename_i d
   have p:=Um d
   split at b
   ·cases b
   rename_i t e q
   obtain⟨f,h,B⟩:=ZT g n q;obtain⟨r,s,v,w,C,x⟩:=o ((body++[en]).length-e) (by omega) e _ l k rfl b;obtain⟨y,c1,z,_⟩:=Ug g d;refine⟨t::r,by rw[s,E];rfl,fun j u a=>?_,fun j a=>?_,by simp only[P];omega,x⟩
   ·cases j with
    |zero=>simp at a;subst a;exact f
    |succ j=>
     have:=v j u (by simpa using a);rw[show i+1+2*(j+1)=e+1+2*j from by omega];exact this
   cases j with
   |zero=>exact⟨y,c1,z⟩
   |succ j=>
    obtain⟨u,u1,u2⟩:=w j (by simpa using a);rw[show i+2*(j+1)=e+2*j from by omega];exact⟨u,u1,u2⟩
  rename_i d
  injection b with b;injection b with f h;subst f h;exact⟨[],by simp,fun j t a=>by simp at a,fun j a=>by simp at a,by simp,d⟩
theorem Fz:Y1∈X5:=by simp[X5]
theorem Jy (b:en.sort=3)(m:∀t,t∈body->VC t){i a}(f:a≠3){l k}(h:Xk (body++[en]) (i+1) a=.ok (l,k))(n:(Zo (body++[en]) k).sort≠3):wW body i l/\k=i+2*l.length:=by
 unfold Xk at h
 split at h
 ·cases h
 rename_i t c o
 obtain⟨p,z,A⟩:=ZT b f o;obtain⟨r,q,s,v,B,w⟩:=E5 b f _ c [t] l k rfl h;have x:l=t::r:=q;subst x
 have g:k=i+2*(t::r).length:=by simp only[P];omega
 refine⟨⟨fun j u d=>?_,fun j y e=>?_,?_,by simp⟩,g⟩
 ·cases j with
  |zero=>simp at d;subst d;exact p
  |succ j=>
   have:=s j u (by simpa using d);rw[show i+1+2*(j+1)=c+1+2*j from by omega];exact this
 ·cases j with
  |zero=>omega
  |succ j=>
   obtain⟨u,u1,u2⟩:=v j (by simpa using e);rw[show i+2*(j+1)=c+2*j from by omega];exact⟨u,u1,u2⟩
 rw[<-g]
 exact U0 b m Fz n w
theorem NP (e:en.sort=3)(m:∀t,t∈body->VC t)(n:∀t,t∈body->t.sort≠3){i kw}(f:kw∈X5){l k}(h:Xg (body++[en]) i kw=.ok (l,k))(g:(Zo (body++[en]) k).sort≠3):wX body i kw.data.toList l/\k=i+2*l.length/\(Zo (body++[en]) i).sort≠3:=by
 unfold Xg at h
 split at h
 ·rename_i j
  obtain⟨t,c,d,_⟩:=Ug e j;obtain⟨a,b⟩:=Jy e m (by decide) h g;exact⟨⟨t,c,Or.inl ⟨d,a⟩⟩,b,Wn n c⟩
 rename_i j
 injection h with h;injection h with c d;subst c d;obtain⟨t,c,d⟩:=U0 e m f g j;exact⟨⟨t,c,Or.inr ⟨d,rfl⟩⟩,by simp,g⟩
theorem FA (f:en.sort=3)(q:∀t,t∈body->VC t)(r:∀t,t∈body->t.sort≠3){i o k}(h:Wp (body++[en]) i Z6=.ok (o,k))(p:(Zo (body++[en]) k).sort≠3):uf body i [97,109,111,117,110,116] o/\k=i+St o/\(Zo (body++[en]) i).sort≠3:=by
 unfold Wp at h
 split at h
 ·rename_i l
  obtain⟨t,d,g,_⟩:=Ug f l;obtain⟨z,j,c,e⟩:=bI h;injection e with e;injection e with s u;subst s u;rw[WH]at c;obtain⟨a,A,g1,c⟩:=bI c;obtain⟨_,v,g2,c⟩:=bI c;obtain⟨b,B,g3,c⟩:=bI c;injection c with c;injection c with n w;obtain⟨x,C,D⟩:=ZT f (by decide) g1;have E:=(YE f g2).2;obtain⟨y,F,G⟩:=ZT f (by decide) g3;subst n;refine⟨⟨t,d,g,x,?_⟩,by simp only[St];omega,Wn r d⟩;rw[show i+3=v from by omega];exact y
 rename_i l
 injection h with h;injection h with d g;subst d g;obtain⟨t,d,g⟩:=U0 f q (m:=Z6) (by simp[X5]) p l;exact⟨⟨t,d,g⟩,rfl,p⟩
theorem Cn (b:en.sort=3)(n:∀t,t∈body->VC t)(v:∀t,t∈body->t.sort≠3){o a k}(h:Xh (body++[en]) (o+1)=.ok (a,k))(w:(Zo (body++[en]) k).sort≠3):xY body o a k:=by
 unfold Xh at h
 split at h
 ·rename_i s
  obtain⟨t,f,u,_⟩:=Ug b s;injection h with h;injection h with p q;subst p q;exact⟨t,f,Or.inl ⟨rfl,u,rfl⟩⟩
 rename_i s
 split at h
 ·rename_i i
  obtain⟨t,f,u,_⟩:=Ug b i;obtain⟨l,j,g,e⟩:=bI h;injection e with e;injection e with p q;subst p q;obtain⟨c,d⟩:=Jy b n (by decide) g w;obtain⟨x,u1,u2⟩:=U0 b n (m:=YL) (by simp[X5]) (Wn v f) s;rw[f]at u1;injection u1 with u1;subst u1;exact⟨t,f,Or.inr ⟨rfl,u2,u,o+1,rfl,c,d⟩⟩
 rename_i i
 obtain⟨l,j,g,e⟩:=bI h;injection e with e;injection e with p q;subst p q
 have r:(Zo (body++[en]) (o+1)).sort≠3:=by
  unfold Xk at g
  split at g
  ·cases g
  rename_i t z y
  exact Wn v (ZT b (by decide) y).1
 obtain⟨c,d⟩:=Jy b n (by decide) g w;obtain⟨t,f,u2⟩:=U0 b n (m:=YL) (by simp[X5]) r s;obtain⟨x,u3,u4⟩:=U0 b n (m:=Yi) (by simp[X5]) r i;rw[f]at u3;injection u3 with u3;subst u3;exact⟨t,f,Or.inr ⟨rfl,u2,u4,o,rfl,c,d⟩⟩
theorem yN (a:en.sort=3)(f:∀t,t∈body->VC t)(d:∀t,t∈body->t.sort≠3){i r k}(h:Wg (body++[en]) (i+1)=.ok (r,k))(m:(Zo (body++[en]) k).sort≠3)(c:VA (.rule r)):Jw body i r k:=by
 unfold Wg at h;obtain⟨S,n,g1,h⟩:=bI h;obtain⟨rk,T,g2,h⟩:=bI h;obtain⟨_,U,g3,h⟩:=bI h;obtain⟨_,o,p,h⟩:=bI h;obtain⟨V,q,b,h⟩:=bI h;obtain⟨g,W,s,h⟩:=bI h;obtain⟨j,u,v,h⟩:=bI h;obtain⟨w,x,y,h⟩:=bI h;obtain⟨_,X,z,h⟩:=bI h;obtain⟨Y,A,e,h⟩:=bI h;injection h with h;injection h with B C;subst B C;obtain⟨D,Z,a3⟩:=ZT a (by decide) g1;obtain⟨E,b2,b3⟩:=ZT a (by decide) g2;obtain⟨_,c3⟩:=YE a g3;obtain⟨_,c4⟩:=YE a p;rw[WH]at b;obtain⟨p1,q1,F,b⟩:=bI b;obtain⟨_,G,H,b⟩:=bI b;obtain⟨p2,q3,I,b⟩:=bI b;injection b with b;injection b with J f2;subst J;obtain⟨K,x2,x3⟩:=ZT a (by decide) F;have x4:=(YE a H).2;obtain⟨L,y2,y3⟩:=ZT a (by decide) I;obtain⟨⟨ta,M,_,_⟩,N⟩:=YE a z;obtain⟨u1,u2,u3⟩:=NP a f d (kw:=Vw) (by simp[X5]) y (Wn d M);obtain⟨v1,v2,v3⟩:=FA a f d v u3;obtain⟨O,w2,w3⟩:=NP a f d (kw:=W7) (by simp[X5]) s v3
 have P:q=i+8:=by omega
 subst P;rw[N]at e;have l:=Cn a f d e m;rw[w2]at v1
 have Q:u=i+8+2*g.length+St j:=by omega
 rw[Q]at u1
 have R:x=i+8+2*g.length+St j+2*w.length:=by omega
 rw[R]at l;refine⟨D,?_,?_,?_,O,v1,u1,l,c.2.1,c.2.2.1,c.2.2.2.1,c.2.2.2.2.1,c.2.2.2.2.2.1,c.2.2.2.2.2.2.1⟩
 ·rw[show i+2=n from by omega];exact E
 ·rw[show i+5=o from by omega];exact K
 rw[show i+7=G from by omega];exact L
end
abbrev Bs:=List UInt8
def Vd (t:Tk):Bs:=Lib.decDigits (Zd t)
def Yy (t:Tk):Bs:=t.text.data.toList
def Tl (a:Tk->Bs)(l:List Tk):List Bs:=l.flatMap fun t=>[[44],a t]
def QV (a:Tk->Bs):List Tk->List Bs
 |[]=>[]
 |t::r=>a t::Tl a r
def YS (kw:Bs)(l:List Tk):List Bs:=if l=[]then[]else kw::QV Vd l
def AB:Option (Tk×Tk)->List Bs
 |none=>[]
 |some a=>[[97,109,111,117,110,116],Vd a.1,[46,46],Vd a.2]
def OK (a:D0):List Bs:=if a.decline then[[100,101,99,108,105,110,101]]else(if a.cheapest then[[99,104,101,97,112,101,115,116]]else[])++QV Yy a.routes
def NQ:Vr->List Bs
 | .route r=>[[114,111,117,116,101],Yy r.name,Vd r.base,Vd r.rate,[59]]
 | .rule r=>[[114,117,108,101],Yy r.name,Vd r.rank,[58],[98,105,110],Yy r.bin.1,[46,46],Yy r.bin.2]++YS [109,99,99] r.mcc++AB r.amount++YS [99,117,114] r.cur++[[45,62]]++OK r.act++[[59]]
def Vo (body:List Tk)(i:Nat)(a:List Bs):Prop:=Yo body i a.length=a
theorem RJ (ts:List Tk):∀(a k b:Nat),Yo ts k (a+b)=Yo ts k a++Yo ts (k+a) b
 |0,k,b=>by rw[q7];rfl
 |a+1,k,b=>by
  rw[show a+1+b=(a+b)+1 from by omega]
  show Xc ts k::Yo ts (k+1) (a+b)=Xc ts k::Yo ts (k+1) a++_
  rw[RJ ts a (k+1) b,show k+1+a=k+(a+1)from by omega];rfl
theorem Vo.nil (body i):Vo body i []:=rfl
theorem Vo.append {body i a b}(c:Vo body i a)(d:Vo body (i+a.length) b):Vo body i (a++b):=by
 unfold Vo at*;rw[lA,RJ,c,d]
theorem Vo.one {body i s}(h:Xc body i=s):Vo body i [s]:=by
 unfold Vo
 show Xc body i::Yo body (i+1) 0=[s]
 rw[h];rfl
theorem Vo.cons {body i s r}(h:Xc body i=s)(a:Vo body (i+1) r):Vo body i (s::r):=Vo.append (Vo.one h) a
theorem VD {t a b}(h:(t.text.toList==a)=true)(c:(a==b)=false):Ll t b=false:=by
 unfold Ll
 have e:t.text.toList=a:=by simpa using h
 rw[e];exact c
theorem NR {t a}(h:(t.text.toList==a)=true):Ll t a=true:=h
section
variable {body:List Tk}
theorem PB {t}(a:VC t)(b:t.sort≠2){m}(c:m∈X5):Ll t m.data.toList=false:=by
 unfold Ll;have h:=a m c;rw[ByteArray.toList_eq m]at h;rw[<-h];simp[Zn,b]
theorem UL {i a}(h:body[i]?=I a)(b:Ll a [98,105,110]=false)(c:Ll a [46,46]=false):SD body (i+1)=false:=by
 unfold SD;rw[show i+1-1=i from by omega,Vn h,b,c];simp
theorem Cp {i a b}(h:body[i+2]?=I a)(c:body[i]?=I b)(d:Ll a [98,105,110]=false)(e:Ll b [98,105,110]=false):SD body (i+3)=false:=by
 unfold SD;rw[show i+3-1=i+2 from by omega,show i+3-3=i from by omega,Vn h,Vn c,d,e];simp
theorem AC {i a}(h:body[i]?=I a)(b:Ll a [98,105,110]=true):SD body (i+1)=true:=by
 unfold SD;rw[show i+1-1=i from by omega,Vn h,b];simp
theorem Cq {i a b}(h:body[i+2]?=I a)(c:body[i]?=I b)(d:Ll a [46,46]=true)(e:Ll b [98,105,110]=true):SD body (i+3)=true:=by
 unfold SD;rw[show i+3-1=i+2 from by omega,show i+3-3=i from by omega,Vn h,Vn c,d,e];simp
theorem VE {i t}(h:body[i]?=I t)(a:t.sort≠1):Xc body i=Yy t:=by
 unfold Xc;rw[Vn h,show decide (t.sort=1)=false from by simpa using a];rfl
theorem XJ {i t a}(h:body[i]?=I t)(c:t.sort=2)(b:(t.text.toList==a)=true):Xc body i=a:=by
 rw[VE h (by omega)]
 have e:t.text.toList=a:=by simpa using b
 rw[ByteArray.toList_eq]at e;exact e
theorem Cr {i t}(h:body[i]?=I t)(a:t.sort=1)(b:Dg t.text)(c:1<=t.text.size)(d:SD body i=false):Xc body i=Vd t:=by
 unfold Xc;rw[Vn h,d,show decide (t.sort=1)=true from by simpa using a];exact L7 t b c
theorem Kb {i t}(h:body[i]?=I t)(a:SD body i=true):Xc body i=Yy t:=by
 unfold Xc;rw[Vn h,a];simp[Yy]
end
/-! ### Blanks -/
def TN (s:Bs):Prop:=Uv s=false
theorem E6 {s}(h:TN s):(s==[59])=false/\(s==[46,46])=false:=by
 unfold TN Uv at h;simp only[Bool.or_eq_false_iff]at h;exact⟨h.1.1.1,h.2⟩
theorem Z5 {s}(h:TN s)(r):ZS false false (s::r)=32::(s++ZS false false r)/\ZS true false (s::r)=s++ZS false false r/\ZS false true (s::r)=s++ZS false false r:=by
 have a:=(E6 h).1;have b:=(E6 h).2;have c:Uv s=false:=h
 refine⟨?_,?_,?_⟩<;>simp[ZS,a,b,c]
theorem FB (f g r):ZS f g ([44]::r)=44::ZS false false r:=by simp[ZS,Uv]
theorem FC (f g r):ZS f g ([58]::r)=58::ZS false false r:=by simp[ZS,Uv]
theorem Kc (f g r):ZS f g ([46,46]::r)=46::46::ZS false true r:=by simp[ZS,Uv]
theorem Kd (f g r):ZS f g ([59]::r)=59::10::ZS true false r:=by simp[ZS,Uv]
structure GT (body:List Tk):Prop where
 lit:∀t,t∈body->VC t
 ns:∀t,t∈body->t.sort≠3
 dg:∀t,t∈body->t.sort=1->Dg t.text/\1<=t.text.size
section
variable {body:List Tk} {en:Tk}
theorem Jz (a l):(Tl a l).length=2*l.length:=by
 induction l with
 |nil=>rfl
 |cons t r b=>
  have e:Tl a (t::r)=[[44],a t]++Tl a r:=by simp[Tl]
  rw[e,lA,b];simp;omega
theorem Uh (c:GT body){i t}(h:body[i]?=I t)(a:t.sort=1)(d:SD body i=false):Xc body i=Vd t:=by
 have b:=c.dg t (mG h) a;exact Cr h a b.1 b.2 d
theorem AD (j:en.sort=3){want}(s:want≠3)(c)(f:∀i t d,body[i]?=I d->(d.text.toList==[44])=true->body[i+1]?=I t->t.sort=want->Xc body (i+1)=c t):
  ∀m i b l k,(body++[en]).length-i=m->XT (body++[en]) i want b=.ok (l,k)->∃r,l=b++r/\Vo body i (Tl c r)/\k=i+2*r.length:=by
 intro m
 induction m using G with
 |ind m u=>
  intro i b l k A a;rw[XT]at a
  split at a
  ·rename_i n
   have v:=Um n
   split at a
   ·cases a
   rename_i t o w
   obtain⟨g,h,x⟩:=ZT j s w;obtain⟨r,y,p,B⟩:=u ((body++[en]).length-o) (by omega) o _ l k rfl a;obtain⟨d,c1,q,z⟩:=Ug j n;refine⟨t::r,by rw[y,E];rfl,?_,by simp only[P];omega⟩
   have e:Tl c (t::r)=[44]::c t::Tl c r:=by simp[Tl]
   rw[e];refine Vo.cons (XJ c1 z q) (Vo.cons (f i t d c1 q g h) ?_);rw[x]at p;exact p
  injection a with a
  injection a with g h;subst g h;exact⟨[],by simp,Vo.nil _ _,by simp⟩
theorem wY (c:GT body):∀i t a,body[i]?=I a->(a.text.toList==[44])=true->body[i+1]?=I t->t.sort=1->Xc body (i+1)=Vd t:=fun _ _ _ d b e f=>Uh c e f (UL d (VD b (by decide)) (VD b (by decide)))
theorem E7:∀i t a,body[i]?=I a->(a.text.toList==[44])=true->body[i+1]?=I t->t.sort=0->Xc body (i+1)=Yy t:=fun _ _ _ _ _ b c=>VE b (by omega)
theorem NS (c:en.sort=3){want}(d:want≠3)(a)(b:∀i t e,body[i]?=I e->(e.text.toList==[44])=true->body[i+1]?=I t->t.sort=want->Xc body (i+1)=a t){i l k}(g:∀t,body[i]?=I t->t.sort=want->Xc body i=a t)(h:Xk (body++[en]) i want=.ok (l,k)):Vo body i (QV a l)/\k=i+(QV a l).length/\l≠[]:=by
 unfold Xk at h
 split at h
 ·cases h
 rename_i t j m
 obtain⟨n,o,p⟩:=ZT c d m;obtain⟨r,q,f,u⟩:=AD c d a b _ j [t] l k rfl h;have s:l=t::r:=q;subst s;rw[p]at f;refine⟨Vo.cons (g t n o) f,?_,by simp⟩;simp only[QV,P,Jz];omega
theorem Oi (d:en.sort=3)(f:GT body){i kw}(a:(kw.data.toList==[98,105,110])=false)(b:(kw.data.toList==[46,46])=false){l k}(h:Xg (body++[en]) i kw=.ok (l,k)):Vo body i (YS kw.data.toList l)/\k=i+(YS kw.data.toList l).length:=by
 unfold Xg at h
 split at h
 ·rename_i j
  obtain⟨t,g,c,m⟩:=Ug d j;obtain⟨n,r,o⟩:=NS d (by decide) Vd (wY f) (i:=i+1) (fun s p q=>Uh f p q (UL g (VD c a) (VD c b))) h
  have e:YS kw.data.toList l=kw.data.toList::QV Vd l:=by simp[YS,o]
  rw[e];exact⟨Vo.cons (XJ g m c) n,by simp only[P];omega⟩
 injection h with h
 injection h with a b;subst a b;exact⟨Vo.nil _ _,by simp[YS]⟩
theorem IOq (f:en.sort=3)(n:GT body){i o k}(h:Wp (body++[en]) i Z6=.ok (o,k)):Vo body i (AB o)/\k=i+(AB o).length:=by
 unfold Wp at h
 split at h
 ·rename_i s
  obtain⟨t,l,g,u⟩:=Ug f s;obtain⟨H,j,c,e⟩:=bI h;injection e with e;injection e with v w;subst v w;rw[WH]at c;obtain⟨a,I,g1,c⟩:=bI c;obtain⟨_,x,g2,c⟩:=bI c;obtain⟨b,J,g3,c⟩:=bI c;injection c with c;injection c with m y;obtain⟨z,A,B⟩:=ZT f (by decide) g1;obtain⟨⟨K,p,q,C⟩,L⟩:=YE f g2;obtain⟨r,D,M⟩:=ZT f (by decide) g3;subst m;rw[B]at p
  have E:x=i+3:=by omega
  rw[E]at r;have d:=p;refine⟨Vo.cons (XJ l u g) (Vo.cons (Uh n z A (UL l (VD g (by decide)) (VD g (by decide)))) (Vo.cons (XJ d C q) (Vo.one (Uh n r D (Cp d l (VD q (by decide)) (VD g (by decide))))))),by simp only[AB,P,O];omega⟩
 injection h with h
 injection h with F G;subst F G;exact⟨Vo.nil _ _,by simp[AB]⟩
theorem FD (d:en.sort=3){i a k}(h:Xh (body++[en]) i=.ok (a,k)):Vo body i (OK a)/\k=i+(OK a).length:=by
 unfold Xh at h
 split at h
 ·rename_i f
  obtain⟨t,m,n,o⟩:=Ug d f;injection h with h;injection h with b c;subst b c;exact⟨Vo.one (XJ m o n),rfl⟩
 split at h
 ·rename_i f
  obtain⟨t,m,n,o⟩:=Ug d f;obtain⟨l,j,g,e⟩:=bI h;injection e with e;injection e with b c;subst b c;obtain⟨p,r,_⟩:=NS d (by decide) Yy E7 (i:=i+1) (fun s q u=>VE q (by omega)) g;exact⟨Vo.cons (XJ m o n) p,by simp[OK];omega⟩
 obtain⟨l,j,g,e⟩:=bI h
 injection e with e;injection e with b c;subst b c;obtain⟨p,r,_⟩:=NS d (by decide) Yy E7 (i:=i) (fun s q u=>VE q (by omega)) g;exact⟨p,by simpa[OK]using r⟩
theorem NT (a:GT body){i:Nat}{t}(h:body[i]?=I t)(b:t.sort≠2):Ll t [98,105,110]=false/\Ll t [46,46]=false:=
 ⟨PB (a.lit t (x9 h)) b (m:=RD) (by simp[X5]),PB (a.lit t (x9 h)) b (m:=V8) (by simp[X5])⟩
theorem Ct (e:en.sort=3)(d:GT body){i r k}(h:WG (body++[en]) i=.ok (r,k)):Vo body i [Yy r.name,Vd r.base,Vd r.rate]/\k=i+3:=by
 unfold WG at h;obtain⟨a,t,g1,h⟩:=bI h;obtain⟨b,u,g2,h⟩:=bI h;obtain⟨c,v,g3,h⟩:=bI h;injection h with h;injection h with n o;subst n o;obtain⟨f,j,p⟩:=ZT e (by decide) g1;obtain⟨g,l,q⟩:=ZT e (by decide) g2;obtain⟨c1,s,w⟩:=ZT e (by decide) g3;subst p;subst q;have m:=NT d f (by rw[j];decide);have n2:=NT d g (by rw[l];decide);exact⟨Vo.cons (VE f (by rw[j];decide)) (Vo.cons (Uh d g l (UL f m.1 m.2)) (Vo.one (Uh d c1 s (UL g n2.1 n2.2)))),by omega⟩
theorem AE (a:en.sort=3)(c:GT body){i r k}(h:Wg (body++[en]) i=.ok (r,k)):
  Vo body i ([Yy r.name,Vd r.rank,[58],[98,105,110],Yy r.bin.1,[46,46],Yy r.bin.2]++(YS [109,99,99] r.mcc++(AB r.amount++(YS [99,117,114] r.cur++([45,62]::OK r.act)))))/\
   k=i+([Yy r.name,Vd r.rank,[58],[98,105,110],Yy r.bin.1,[46,46],Yy r.bin.2]++(YS [109,99,99] r.mcc++(AB r.amount++(YS [99,117,114] r.cur++([45,62]::OK r.act))))).length:=by
 unfold Wg at h;obtain⟨nm,j1,g1,h⟩:=bI h;obtain⟨rk,j2,g2,h⟩:=bI h;obtain⟨_,j3,g3,h⟩:=bI h;obtain⟨_,j4,A,h⟩:=bI h;obtain⟨bn,j5,b,h⟩:=bI h;obtain⟨e,p,B,h⟩:=bI h;obtain⟨am,f,C,h⟩:=bI h;obtain⟨g,q,E,h⟩:=bI h;obtain⟨_,j9,F,h⟩:=bI h;obtain⟨ac,G,j,h⟩:=bI h;injection h with h;injection h with H I;subst H I;obtain⟨l,s,J⟩:=ZT a (by decide) g1;obtain⟨K,L,M⟩:=ZT a (by decide) g2;obtain⟨⟨tc,c1,N,Q⟩,R⟩:=YE a g3;obtain⟨⟨tb,m,n,S⟩,T⟩:=YE a A;rw[WH]at b;obtain⟨p1,q1,U,b⟩:=bI b;obtain⟨_,q2,V,b⟩:=bI b;obtain⟨W,q3,X,b⟩:=bI b;injection b with b;injection b with Y Z;obtain⟨y1,y2,y3⟩:=ZT a (by decide) U;obtain⟨⟨td,t,u,z4⟩,z3⟩:=YE a V;obtain⟨u1,u2,u3⟩:=ZT a (by decide) X;obtain⟨s6,v⟩:=Oi a c (kw:=W7) (by decide) (by decide) B;obtain⟨s7,l7⟩:=IOq a c C;obtain⟨s8,w⟩:=Oi a c (kw:=Vw) (by decide) (by decide) E;obtain⟨⟨ta,t1,t2,t4⟩,t3⟩:=YE a F;obtain⟨d,a0⟩:=FD a j;subst Y;subst J M R T y3 z3 u3 Z;have x:=NT c l (by rw[s];decide);have o:=t
 have hd:Xc body (i+6)=Yy W:=by
  refine Kb u1 ?_;exact Cq (i:=i+3) o m (NR u) (NR n)
 rw[t3]at d;refine⟨Vo.append ?_ (Vo.append s6 ?_),?_⟩
 ·exact Vo.cons (VE l (by rw[s];decide)) (Vo.cons (Uh c K L (UL l x.1 x.2)) (Vo.cons (XJ c1 Q N) (Vo.cons (XJ m S n) (Vo.cons (Kb y1 (AC m (NR n))) (Vo.cons (XJ t z4 u) (Vo.one hd))))))
 ·have y:i+1+1+1+1+1+1+1+(YS W7.data.toList e).length=p:=v.symm
  show Vo body (i+1+1+1+1+1+1+1+(YS W7.data.toList e).length) _
  rw[y];refine Vo.append s7 ?_;rw[<-l7];refine Vo.append s8 ?_;have z:f+(YS [99,117,114] g).length=q:=w.symm
  show Vo body (f+(YS [99,117,114] g).length) _
  rw[z];exact Vo.cons (XJ t1 t4 t2) d
 simp only[D,P,O]
 have y:p=i+1+1+1+1+1+1+1+(YS [109,99,99] e).length:=v;have z:q=f+(YS [99,117,114] g).length:=w;omega
end
section
variable {body:List Tk} {en:Tk}
theorem Ke (r):NQ (.rule r)=[114,117,108,101]::(([Yy r.name,Vd r.rank,[58],[98,105,110],Yy r.bin.1,[46,46],Yy r.bin.2]++(YS [109,99,99] r.mcc++(AB r.amount++(YS [99,117,114] r.cur++([45,62]::OK r.act)))))++[[59]]):=by
 simp[NQ]
theorem Kf (b:en.sort=3)(q:GT body){i e j k u}(h:ZU (body++[en]) i=.ok (e,j))(w:ZE (body++[en]) j Va=.ok (u,k)):Vo body i (NQ e)/\k=i+(NQ e).length/\k<=body.length:=by
 obtain⟨⟨B,s,x,y⟩,C⟩:=YE b w
 have v:k<=body.length:=by have:=(iG.1 s).1;omega
 have a:Xc body j=[59]:=XJ s y x;unfold ZU at h
 split at h
 ·rename_i z
  obtain⟨t,d,f,l⟩:=Ug b z;obtain⟨r,E,g,m⟩:=bI h;injection m with m;injection m with n o;subst n o;obtain⟨p,c⟩:=Ct b q g;refine⟨?_,by simp only[NQ,P,O];omega,v⟩
  show Vo body i ([114,111,117,116,101]::([Yy r.name,Vd r.base,Vd r.rate]++[[59]]))
  refine Vo.cons (XJ d l f) (Vo.append p (Vo.one ?_))
  show Xc body (i+1+3)=_
  rw[<-c];exact a
 obtain⟨_,F,g1,h⟩:=bI h
 obtain⟨r,G,g2,h⟩:=bI h;injection h with h;injection h with n o;subst n o;obtain⟨⟨t,d,f,l⟩,A⟩:=YE b g1;subst A;obtain⟨p,c⟩:=AE b q g2;rw[Ke];refine⟨Vo.cons (XJ d l f) (Vo.append p (Vo.one ?_)),?_,v⟩
 ·rw[<-c];exact a
 simp only[P,D,O]at c ⊢
 omega
theorem Cu (t:en.sort=3)(o:GT body):∀m i c g k,(body++[en]).length-i=m->i<=body.length->Zr (body++[en]) i c=.ok (g,k)->∃d,g=c++d/\Vo body i (d.flatMap NQ)/\k=i+(d.flatMap NQ).length/\k=body.length:=by
 intro m
 induction m using G with
 |ind m v=>
  intro i c g k w hi b;by_cases f:(Zo (body++[en]) i).sort=3
  ·rw[XA f]at b
   injection b with b;injection b with p q;subst p q;refine⟨[],by simp,Vo.nil _ _,by simp,?_⟩;rcases y9 i body.length with h|h
   ·exfalso
    exact Wn o.ns (gE h) f
   omega
  cases a:ZU (body++[en]) i with
  |error l=>rw[YJ f a]at b;cases b
  |ok r=>
   obtain⟨e,j⟩:=r
   cases n:ZE (body++[en]) j Va with
   |error l=>rw[Y8 f a n]at b;cases b
   |ok r=>
    obtain⟨u,s⟩:=r;rw[X3 f a n]at b;have p:=WV a;have q:=Yt n;obtain⟨x,y,z⟩:=Kf t o a n;obtain⟨d,A,B,F,C⟩:=v ((body++[en]).length-s) (by simp only[D,P,O]at w ⊢;omega) s _ g k rfl z b;refine⟨e::d,by rw[A,E];rfl,?_,?_,C⟩
    ·rw[H]
     exact Vo.append x (by rw[<-y];exact B)
    rw[H,lA]
    omega
theorem JA (c:en.sort=3)(d:GT body){a k}(e:Zr (body++[en]) 0 []=.ok (a,k)):VQ body body.length=ZS true false (a.flatMap NQ):=by
 obtain⟨f,g,b,i,j⟩:=Cu c d _ 0 [] a k rfl (F _) e;have h:a=f:=g;subst h;unfold Vo at b;unfold VQ;rw[show body.length=(a.flatMap NQ).length from by omega,b]
end
/-! ### Blanks -/
theorem IP (u):TN (Lib.decDigits u):=by
 unfold TN Uv;by_cases h:u<10
 ·rw[UK h]
  have b:∀v:Nat,v<10->(([A (48+v)]==[59]||[A (48+v)]==[44]||[A (48+v)]==[58]||[A (48+v)]==[46,46])=false):=by decide
  exact b u h
 rw[O2 h]
 have i:1<=(Lib.decDigits (u/10)).length:=by
  rcases Nat.eq_zero_or_pos (Lib.decDigits (u/10)).length with d|d
  ·exact absurd (x6.1 d) (Jn _)
  exact d
 have a:∀c:UInt8,(Lib.decDigits (u/10)++[A (48+u % 10)]==[c])=false:=fun c=>by
  rw[Bool.eq_false_iff];intro e
  have f:Lib.decDigits (u/10)++[A (48+u % 10)]=[c]:=by simpa using e
  have:=congrArg v7 f;simp at this;exact Jn _ this
 rw[a,a,a];rw[Bool.false_or,Bool.false_or,Bool.false_or,Bool.eq_false_iff];intro e
 have f:Lib.decDigits (u/10)++[A (48+u % 10)]=[46]++[46]:=by simpa using e
 have g:=(List.append_inj_right' f rfl)
 have b:∀v:Nat,v<10->[A (48+v)]≠[46]:=by decide
 exact b (u % 10) (by omega) g
theorem TO (t):TN (Vd t):=IP _
theorem AF {t}(a:VC t)(b:t.sort≠2):TN (Yy t):=by
 have h:∀m,m∈X5->(Yy t==m.data.toList)=false:=fun m c=>by
  have:=PB a b c;unfold Ll at this;rw[ByteArray.toList_eq]at this;exact this
 unfold TN Uv;have d:=h Va (by simp[X5]);have e:=h Y1 (by simp[X5]);have f:=h Tv (by simp[X5]);have g:=h V8 (by simp[X5]);have i:(Yy t==[59])=false:=d;have j:(Yy t==[44])=false:=e;have k:(Yy t==[58])=false:=f;have l:(Yy t==[46,46])=false:=g;rw[i,j,k,l];rfl
def PC (a:Tk->Bs):List Tk->Bs
 |[]=>[]
 |t::r=>a t++r.flatMap fun u=>44::32::a u
theorem Kg (a:Tk->Bs):∀(r:List Tk)(R:List Bs),(∀t,t∈r->TN (a t))->ZS false false (Tl a r++R)=(r.flatMap fun u=>44::32::a u)++ZS false false R
 |[],R,_=>rfl
 |t::r,R,h=>by
  have e:Tl a (t::r)++R=[44]::a t::(Tl a r++R):=by simp[Tl]
  rw[e,FB,(Z5 (h t (by simp)) _).1,Kg a r R (fun u b=>h u (by simp[b]))];simp
theorem PD (a l R)(b:l≠[])(h:∀t,t∈l->TN (a t)):ZS false false (QV a l++R)=32::(PC a l++ZS false false R):=by
 cases l with
 |nil=>exact absurd rfl b
 |cons t r=>
  show ZS false false (a t::(Tl a r++R))=_
  rw[(Z5 (h t (by simp)) _).1,Kg a r R (fun u c=>h u (by simp[c]))];simp[PC]
def PE (kw:Bs)(l:List Tk):Bs:=if l=[]then[]else 32::(kw++32::PC Vd l)
theorem NU (kw)(a:TN kw)(l R):ZS false false (YS kw l++R)=PE kw l++ZS false false R:=by
 unfold YS PE;by_cases h:l=[]
 ·simp[h]
 rw[if_neg h,if_neg h,j0,(Z5 a _).1,PD Vd l R h (fun t _=>IP _)]
 simp
def uI:Option (Tk×Tk)->Bs
 |none=>[]
 |some a=>[32,97,109,111,117,110,116,32]++(Vd a.1++(46::46::Vd a.2))
theorem yO (o R):ZS false false (AB o++R)=uI o++ZS false false R:=by
 cases o with
 |none=>rfl
 |some a=>
  show ZS false false ([97,109,111,117,110,116]::Vd a.1::[46,46]::Vd a.2::R)=_
  rw[(Z5 (s:=[97,109,111,117,110,116]) rfl _).1,(Z5 (TO a.1) _).1,Kc,(Z5 (TO a.2) _).2.2];simp[uI]
def AG (a:D0):Bs:=if a.decline then[32,100,101,99,108,105,110,101]else(if a.cheapest then[32,99,104,101,97,112,101,115,116]else[])++32::PC Yy a.routes
theorem AH (a R)(h:a.decline=false->a.routes≠[])(b:∀t,t∈a.routes->TN (Yy t)):ZS false false (OK a++R)=AG a++ZS false false R:=by
 unfold OK AG
 cases c:a.decline with
 |true=>
  show ZS false false ([100,101,99,108,105,110,101]::R)=_
  rw[(Z5 (s:=[100,101,99,108,105,110,101]) rfl _).1];rfl
 |false=>
  cases d:a.cheapest with
  |true=>
   show ZS false false ([99,104,101,97,112,101,115,116]::(QV Yy a.routes++R))=_
   rw[(Z5 (s:=[99,104,101,97,112,101,115,116]) rfl _).1,PD Yy a.routes R (h c) b];simp
  |false=>
   show ZS false false (QV Yy a.routes++R)=_
   rw[PD Yy a.routes R (h c) b];simp
def IQ:Vr->Bs
 | .route r=>[114,111,117,116,101,32]++(Yy r.name++(32::(Vd r.base++(32::(Vd r.rate++[59,10])))))
 | .rule r=>[114,117,108,101,32]++(Yy r.name++(32::(Vd r.rank++(58::([32,98,105,110,32]++(Yy r.bin.1++(46::46::(Yy r.bin.2++(PE [109,99,99] r.mcc++(uI r.amount++(PE [99,117,114] r.cur++([32,45,62]++(AG r.act++[59,10])))))))))))))
def AI:Vr->Prop
 | .route r=>TN (Yy r.name)
 | .rule r=>TN (Yy r.name)/\TN (Yy r.bin.1)/\TN (Yy r.bin.2)/\(r.act.decline=false->r.act.routes≠[])/\∀t,t∈r.act.routes->TN (Yy t)
theorem AJ (e R)(h:AI e):ZS true false (NQ e++R)=IQ e++ZS true false R:=by
 cases e with
 |route r=>
  show ZS true false ([114,111,117,116,101]::Yy r.name::Vd r.base::Vd r.rate::[59]::R)=_
  rw[(Z5 (s:=[114,111,117,116,101]) rfl _).2.1,(Z5 h _).1,(Z5 (TO r.base) _).1,(Z5 (TO r.rate) _).1,Kd];simp[IQ]
 |rule r=>
  obtain⟨a,b,c,d,f⟩:=h;rw[Ke];have e:([114,117,108,101]::(([Yy r.name,Vd r.rank,[58],[98,105,110],Yy r.bin.1,[46,46],Yy r.bin.2]++(YS [109,99,99] r.mcc++(AB r.amount++(YS [99,117,114] r.cur++([45,62]::OK r.act)))))++[[59]]))++R=
    [114,117,108,101]::Yy r.name::Vd r.rank::[58]::[98,105,110]::Yy r.bin.1::[46,46]::Yy r.bin.2::(YS [109,99,99] r.mcc++(AB r.amount++(YS [99,117,114] r.cur++([45,62]::(OK r.act++([59]::R)))))):=by simp
  rw[e,(Z5 (s:=[114,117,108,101]) rfl _).2.1,(Z5 a _).1,(Z5 (TO r.rank) _).1,FC,(Z5 (s:=[98,105,110]) rfl _).1,(Z5 b _).1,Kc,(Z5 c _).2.2,
   NU [109,99,99] rfl,yO,NU [99,117,114] rfl,(Z5 (s:=[45,62]) rfl _).1,AH _ _ d f,Kd]
  simp[IQ]
theorem Kh:∀(a:List Vr),(∀e,e∈a->AI e)->ZS true false (a.flatMap NQ)=a.flatMap IQ
 |[],_=>rfl
 |e::a,h=>by
  rw[H,AJ e _ (h e (by simp)),Kh a (fun x b=>h x (by simp[b]))];rfl
def Ya (n:Nat):Bs:=Lib.decDigits n
def TP (n a:Nat):Bs:=N (a-(Ya n).length) 48++Ya n
def Xe:List Bs->Bs
 |[]=>[]
 |x::r=>x++r.flatMap fun u=>44::32::u
def gJ (kw:Bs)(l:List Nat):Bs:=if l=[]then[]else 32::(kw++32::Xe (l.map Ya))
def aJ:Option (Nat×Nat)->Bs
 |none=>[]
 |some a=>[32,97,109,111,117,110,116,32]++(Ya a.1++(46::46::Ya a.2))
def Z0 (rts:List Zf)(p:Nat):Bs:=((rts[p]?).map fun x=>x.name.data.toList).getD []
def vW (rts:List Zf)(r:Ze):Bs:=if r.decline then[32,100,101,99,108,105,110,101]else(if r.cheapest then[32,99,104,101,97,112,101,115,116]else[])++32::Xe (r.routes.map (Z0 rts))
def Ux (r:Zf):Bs:=[114,111,117,116,101,32]++(r.name.data.toList++(32::(Ya r.base++(32::(Ya r.rate++[59,10])))))
def PF (rts:List Zf)(r:Ze):Bs:=[114,117,108,101,32]++(r.name.data.toList++(32::(Ya r.rank++(58::([32,98,105,110,32]++(TP r.lo r.digits++(46::46::(TP r.hi r.digits++(gJ [109,99,99] r.mcc++(aJ r.am++(gJ [99,117,114] r.cur++([32,45,62]++(vW rts r++[59,10])))))))))))))
def Wi (rts:List Zf)(a:Nat):List Ze->Bs
 |[]=>(rts.drop a).flatMap Ux
 |r::rs=>((rts.take r.ahead).drop a).flatMap Ux++(PF rts r++Wi rts r.ahead rs)
def VF (rts:List Zf)(a:List Ze):Bs:=Wi rts 0 a
theorem NV (a l):Xe (l.map a)=PC a l:=by
 cases l with
 |nil=>rfl
 |cons t r=>simp[Xe,PC,List.flatMap_map]
theorem xZ (kw l):gJ kw (l.map Zd)=PE kw l:=by
 unfold gJ PE
 have e:(l.map Zd).map Ya=l.map Vd:=by rw[v6];rfl
 rw[e,NV]
 cases l<;>simp
theorem Ki (a:ByteArray):∀(l:List Zf)(i:Nat),0<=Zk a i l->∃x,l[(Zk a i l).toNat-i]?=I x/\x.name.data.toList=a.data.toList/\i<=(Zk a i l).toNat/\(Zk a i l).toNat<i+l.length
 |[],i,h=>by simp[Zk]at h
 |y::r,i,h=>by
  simp only[Zk]at h ⊢;by_cases b:(y.name.toList==a.toList)=true
  ·rw[if_pos b]
   have e:y.name.toList=a.toList:=by simpa using b
   rw[ByteArray.toList_eq,ByteArray.toList_eq]at e;exact⟨y,by simp,e,by simp,by simp⟩
  rw[if_neg b]at h ⊢
  obtain⟨x,c,d,f,g⟩:=Ki a r (i+1) h;refine⟨x,?_,d,by omega,by simp only[P];omega⟩;rw[show(Zk a (i+1) r).toNat-i=((Zk a (i+1) r).toNat-(i+1))+1 from by omega]
  simpa using c
theorem PG (rts:List Zf):∀(l:List Tk)(i:Nat)(a:List Nat),Zw rts i l=.ok a->a.map (Z0 rts)=l.map Yy/\∀p,p∈a->p<rts.length
 |[],i,a,h=>by simp[Zw]at h;subst h;simp
 |t::r,i,a,h=>by
  simp only[Zw]at h;by_cases d:i=4
  ·rw[if_pos d]at h;cases h
  rw[if_neg d]at h;by_cases e:Zk t.text 0 rts<0
  ·rw[if_pos e]at h;cases h
  rw[if_neg e]at h
  cases c:Zw rts (i+1) r with
  |error f=>rw[c]at h;cases h
  |ok j=>
   rw[c]at h;injection h with h;subst h;obtain⟨k,m⟩:=PG rts r (i+1) j c;obtain⟨x,g,n,_,o⟩:=Ki t.text rts 0 (by omega);rw[Nat.sub_zero]at g;refine⟨?_,fun p b=>?_⟩
   ·rw[q5,q5,k]
    congr 1
    unfold Z0;rw[g];exact n
   rcases List.mem_cons.1 b with b|b
   ·rw[b];omega
   exact m p b
theorem yP {rts g e r}(h:Z7 rts g e=.ok r)(m:Dg e.bin.1.text)(n:Dg e.bin.2.text)(o:1<=e.bin.1.text.size)(q:1<=e.bin.2.text.size):PF rts r=IQ (.rule e)/\r.ahead=rts.length/\∀p,p∈r.routes->p<rts.length:=by
 unfold Z7 at h
 split at h
 ·cases h
 split at h
 ·cases h
 split at h
 ·cases h
 split at h
 ·cases h
 split at h
 ·cases h
 rename_i s
 split at h
 ·cases h
 cases i:Zp 9999 0 e.mcc with
 |error f=>rw[i]at h;cases h
 |ok a=>
  rw[i]at h
  dsimp only at h
  split at h
  ·cases h
  cases j:Zp 999 0 e.cur with
  |error f=>rw[j]at h;cases h
  |ok b=>
   rw[j]at h
   dsimp only at h
   cases k:Zw rts 0 e.act.routes with
   |error f=>rw[k]at h;cases h
   |ok l=>
    rw[k]at h;injection h with h;subst h;have t:=(WL 9999 e.mcc 0 (by omega)).2 a i;have u:=(WL 999 e.cur 0 (by omega)).2 b j;obtain⟨v,w⟩:=PG rts e.act.routes 0 l k;refine⟨?_,rfl,w⟩
    have c:e.bin.2.text.size=e.bin.1.text.size:=by omega
    have x:TP (Zd e.bin.1) e.bin.1.text.size=Yy e.bin.1:=(QJ e.bin.1 m o).1
    have y:TP (Zd e.bin.2) e.bin.1.text.size=Yy e.bin.2:=by rw[<-c];exact(QJ e.bin.2 n q).1
    have z:aJ (e.amount.map fun d=>(Zd d.1,Zd d.2))=uI e.amount:=by cases e.amount<;>rfl
    have A:vW rts ⟨e.name.text,Zd e.rank,e.bin.1.text.size,Zd e.bin.1,Zd e.bin.2,a,e.amount.map (fun d=>(Zd d.1,Zd d.2)),b,e.act.decline,e.act.cheapest,l,rts.length⟩=AG e.act:=by
     unfold vW AG
     dsimp only
     rw[v,NV]
    unfold PF IQ
    dsimp only
    rw[x,y,z,A,t,u,xZ,xZ];rfl
theorem yQ {rts e t}(h:ZD rts e=.ok t)(a:rts.length<=6):Ux t=IQ (.route e):=by
 have b:=(Ti rts e a).2 t h;subst b;rfl
/-! ### The book grows -/
def yR (rts:List Zf)(a:List Ze):Prop:=∀r,r∈a->r.ahead<=rts.length/\∀p,p∈r.routes->p<rts.length
theorem IR {rts t p}(h:p<rts.length):Z0 (rts++[t]) p=Z0 rts p:=by
 unfold Z0;rw[z0 h]
theorem Cv {rts t r}(h:∀p,p∈r.routes->p<rts.length):PF (rts++[t]) r=PF rts r:=by
 have e:r.routes.map (Z0 (rts++[t]))=r.routes.map (Z0 rts):=List.map_congr_left fun p a=>IR (h p a)
 unfold PF vW;rw[e]
theorem NW (rts:List Zf)(t:Zf):∀(b:List Ze)(a:Nat),a<=rts.length->yR rts b->Wi (rts++[t]) a b=Wi rts a b++Ux t
 |[],a,h,_=>by
  simp only[Wi];rw[List.drop_append_of_le_length h,q6];simp
 |r::rs,a,h,hk=>by
  have c:=hk r (by simp);simp only[Wi];rw[List.take_append_of_le_length c.1,Cv c.2,NW rts t rs r.ahead c.1 (fun x d=>hk x (by simp[d]))];simp
theorem Kj (rts:List Zf)(r:Ze)(c:r.ahead=rts.length):∀(b:List Ze)(a:Nat),Wi rts a (b++[r])=Wi rts a b++PF rts r
 |[],a=>by
  simp only[Wi,List.nil_append];rw[c,List.take_length,List.drop_length];simp
 |x::rs,a=>by
  simp only[Wi,j0];rw[Kj rts r c rs x.ahead];simp
def Cw:Vr->Prop
 | .route _=>True
 | .rule r=>1<=r.bin.1.text.size/\1<=r.bin.2.text.size
theorem Qf:∀(d:List Vr)(rts:List Zf)(a:List Ze)(p:List Zf×List Ze),rts.length<=6->YV (rts.map Zf.name)->yR rts a->(∀x,x∈d->VA x/\Cw x)->ZR rts a d=.ok p->VF p.1 p.2=VF rts a++d.flatMap IQ
 |[],rts,a,p,_,_,_,_,h=>by
  simp only[ZR]at h;injection h with h;subst h;simp
 | .route e::d,rts,a,p,h6,hd,hk,ho,h=>by
  cases b:ZD rts e with
  |error f=>rw[YR (f:=f) (by simp only[Vs,b])]at h;cases h
  |ok t=>
   rw[Xm (p:=(rts++[t],a)) (by simp only[Vs,b])]at h;have i:=VP h6 hd b
   have g:yR (rts++[t]) a:=fun r c=>⟨by have:=(hk r c).1;simp;omega,fun q b=>by have:=(hk r c).2 q b;simp;omega⟩
   have:=Qf d (rts++[t]) a p i.2 i.1 g (fun x l=>ho x (by simp[l])) h;rw[this];unfold VF;rw[NW rts t a 0 (F _) hk,yQ b h6,H,E]
 | .rule e::d,rts,a,p,h6,hd,hk,ho,h=>by
  have m:=ho (.rule e) (by simp)
  cases b:Z7 rts a e with
  |error f=>rw[YR (f:=f) (by simp only[Vs,b])]at h;cases h
  |ok t=>
   rw[Xm (p:=(rts,a++[t])) (by simp only[Vs,b])]at h;have j:=m.1;have k:=m.2;obtain⟨n,o,s⟩:=yP b j.2.2.1 j.2.2.2.1 k.1 k.2
   have g:yR rts (a++[t]):=fun r c=>by
    rcases z7.1 c with c|c
    ·exact hk r c
    simp at c
    subst c;exact⟨by omega,s⟩
   have:=Qf d rts (a++[t]) p h6 hd g (fun x l=>ho x (by simp[l])) h;rw[this];unfold VF;rw[Kj rts t o a 0,n,H,E]
section
variable {body:List Tk} {en:Tk}
theorem AK (h:en.sort=3){want}(j:want≠3){Q:Tk->Prop}(n:∀t,t∈body->t.sort=want->Q t):∀m i b l k,(body++[en]).length-i=m->(∀t,t∈b->Q t)->XT (body++[en]) i want b=.ok (l,k)->∀t,t∈l->Q t:=by
 intro m
 induction m using G with
 |ind m o=>
  intro i b l k s e a;rw[XT]at a
  split at a
  ·rename_i p
   have q:=Um p
   split at a
   ·cases a
   rename_i t f r
   obtain⟨d,g,v⟩:=ZT h j r;refine o ((body++[en]).length-f) (by omega) f _ l k rfl (fun u c=>?_) a;rcases z7.1 c with c|c
   ·exact e u c
   simp at c;subst c;exact n u (mG d) g
  injection a with a
  injection a with d g;subst d;exact e
theorem IS (a:en.sort=3){want}(b:want≠3){Q:Tk->Prop}(c:∀t,t∈body->t.sort=want->Q t){i l k}(h:Xk (body++[en]) i want=.ok (l,k)):(∀t,t∈l->Q t)/\l≠[]:=by
 unfold Xk at h
 split at h
 ·cases h
 rename_i t d f
 obtain⟨g,j,_⟩:=ZT a b f;refine⟨AK a b c _ d [t] l k rfl (fun u e=>by simp at e;subst e;exact c u (mG g) j) h,?_⟩;obtain⟨r,m,_⟩:=E5 a b _ d [t] l k rfl h;rw[m];simp
theorem yS (m:en.sort=3)(q:GT body){i e k}(h:ZU (body++[en]) i=.ok (e,k)):AI e/\Cw e:=by
 have n:∀t,t∈body->t.sort≠2->TN (Yy t):=fun t o s=>AF (q.lit t o) s
 unfold ZU at h
 split at h
 ·obtain⟨r,j,g,u⟩:=bI h
  injection u with u;injection u with v _;subst v;unfold WG at g;obtain⟨a,I,g1,g⟩:=bI g;obtain⟨b,J,g2,g⟩:=bI g;obtain⟨c,R,g3,g⟩:=bI g;injection g with g;injection g with g _;subst g;obtain⟨w,A,_⟩:=ZT m (by decide) g1;exact⟨n a (mG w) (by rw[A];decide),trivial⟩
 obtain⟨_,I,g1,h⟩:=bI h
 obtain⟨r,J,g2,h⟩:=bI h;injection h with h;injection h with v _;subst v;unfold Wg at g2;obtain⟨K,S,w,g2⟩:=bI g2;obtain⟨rk,T,A,g2⟩:=bI g2;obtain⟨_,U,V,g2⟩:=bI g2;obtain⟨_,W,X,g2⟩:=bI g2;obtain⟨Y,Z,f,g2⟩:=bI g2;obtain⟨mc,k6,a6,g2⟩:=bI g2;obtain⟨am,k7,a7,g2⟩:=bI g2;obtain⟨cu,k8,a8,g2⟩:=bI g2;obtain⟨_,k9,a9,g2⟩:=bI g2;obtain⟨x,L,d,g2⟩:=bI g2;injection g2 with g2;injection g2 with g2 _;subst g2;obtain⟨M,n2,_⟩:=ZT m (by decide) w;rw[WH]at f;obtain⟨B,q1,N,f⟩:=bI f;obtain⟨_,q2,x2,f⟩:=bI f;obtain⟨C,q3,O,f⟩:=bI f;injection f with f;injection f with f _;subst f;obtain⟨P,D,_⟩:=ZT m (by decide) N;obtain⟨Q,E,_⟩:=ZT m (by decide) O
 have p:(x.decline=false->x.routes≠[])/\∀t,t∈x.routes->TN (Yy t):=by
  have F:∀t,t∈body->t.sort=0->TN (Yy t):=fun t o s=>n t o (by rw[s];decide)
  unfold Xh at d
  split at d
  ·injection d with d
   injection d with d _;subst d;exact⟨fun h=>by simp at h,fun t o=>by simp at o⟩
  split at d
  ·obtain⟨l,j,g,e⟩:=bI d
   injection e with e;injection e with e _;subst e;obtain⟨y,z⟩:=IS m (by decide) F g;exact⟨fun _=>z,y⟩
  obtain⟨l,j,g,e⟩:=bI d
  injection e with e;injection e with e _;subst e;obtain⟨y,z⟩:=IS m (by decide) F g;exact⟨fun _=>z,y⟩
 have G:=mG P;have H:=mG Q;exact⟨⟨n K (mG M) (by rw[n2];decide),n B G (by rw[D];decide),n C H (by rw[E];decide),p.1,p.2⟩,(q.dg B G D).2,(q.dg C H E).2⟩
theorem E8 (h:en.sort=3)(n:GT body):∀m i d f k,(body++[en]).length-i=m->(∀x,x∈d->AI x/\Cw x)->Zr (body++[en]) i d=.ok (f,k)->∀x,x∈f->AI x/\Cw x:=by
 intro m
 induction m using G with
 |ind m q=>
  intro i d f k s o b;by_cases g:(Zo (body++[en]) i).sort=3
  ·rw[XA g]at b
   injection b with b;injection b with b _;subst b;exact o
  cases a:ZU (body++[en]) i with
  |error l=>rw[YJ g a]at b;cases b
  |ok r=>
   obtain⟨e,j⟩:=r
   cases c:ZE (body++[en]) j Va with
   |error l=>rw[Y8 g a c]at b;cases b
   |ok r=>
    obtain⟨u,p⟩:=r;rw[X3 g a c]at b;have t:=WV a;have v:=Yt c;obtain⟨_,_,w⟩:=Kf h n a c;refine q ((body++[en]).length-p) (by simp only[D,P,O]at s ⊢;omega) p _ f k rfl (fun x c=>?_) b;rcases z7.1 c with c|c
    ·exact o x c
    simp at c;subst c;exact yS h n a
end
theorem IT {s ts}(h:ZK s 0 1 []=.ok ts):∃body,ts=body++[⟨3,ByteArray.empty,1+Pq s.data.toList⟩]/\GT body/\(∀t,t∈body->Iz t/\TH s.size t):=by
 obtain⟨body,e,b⟩:=IC _ 0 1 [] ts rfl (fun t a=>by simp at a) h;have c:=(SN _ 0 1 [] ts rfl (fun t a=>by simp at a) h).1;rw[List.drop_zero]at e;refine⟨body,e,⟨fun t a=>(b t a).1,fun t a=>(b t a).2.2.1,fun t a d=>⟨(c t (by rw[e];simp[a])).1 d,(b t a).2.1 d⟩⟩,fun t a=>⟨b t a,c t (by rw[e];simp[a])⟩⟩
theorem AL {body l a k p}(c:GT body)(d:Zr (body++[⟨3,ByteArray.empty,l⟩]) 0 []=.ok (a,k))(g:∀x,x∈a->VA x)(h:ZR [] [] a=.ok p):VF p.1 p.2=VQ body body.length:=by
 have f:=E8 rfl c _ 0 [] a k rfl (fun x b=>by simp at b) d;rw[JA rfl c d,Kh a (fun e i=>(f e i).1)];have:=Qf a [] [] p (by simp) trivial (fun r j=>by simp at j) (fun x b=>⟨g x b,(f x b).2⟩) h;rw[this];rfl
def wg (body:List Tk)(i:Nat)(e:Vr)(j:Nat):Prop:=
 j<body.length/\i<j/\match e with
 | .route r=>(∃t,body[i]?=I t/\(t.text.toList==[114,111,117,116,101])=true)/\body[i+1]?=I r.name/\body[i+2]?=I r.base/\body[i+3]?=I r.rate/\Dg r.base.text/\Dg r.rate.text/\j=i+4
 | .rule r=>(∃t,body[i]?=I t/\(t.text.toList==[114,111,117,116,101])=false)/\Jw body i r j
def PH (body:List Tk):Nat->List Vr->Prop
 |i,[]=>i=body.length
 |i,e::ys=>∃j,wg body i e j/\PH body (j+1) ys
section
variable {body:List Tk} {en:Tk}
theorem wZ (b:∀t,t∈body->t.sort≠3){i}(hi:i<=body.length)(h:(Zo (body++[en]) i).sort=3):i=body.length:=by
 rcases y9 i body.length with a|a
 ·exfalso
  have:=Wn (en:=en) b (gE a);exact this h
 omega
theorem vd (b:en.sort=3)(c:GT body){i j k e u}(h:ZU (body++[en]) i=.ok (e,j))(w:ZE (body++[en]) j Va=.ok (u,k))(l:VA e):wg body i e j:=by
 obtain⟨⟨D,s,_,_⟩,_⟩:=YE b w;have d:=WV h;have f:j<body.length:=(iG.1 s).1;unfold ZU at h
 split at h
 ·rename_i n
  obtain⟨r,x,g,a⟩:=bI h;injection a with a;injection a with a o;subst a o;obtain⟨t,p,q,_⟩:=Ug b n;unfold WG at g;obtain⟨E,v,g1,g⟩:=bI g;obtain⟨bs,y,g2,g⟩:=bI g;obtain⟨rt,F,g3,g⟩:=bI g;injection g with g;injection g with z G;subst z;obtain⟨A,H,I⟩:=ZT b (by decide) g1;obtain⟨B,J,K⟩:=ZT b (by decide) g2;obtain⟨c1,L,M⟩:=ZT b (by decide) g3;refine⟨f,d,⟨t,p,q⟩,A,?_,?_,l.2.1,l.2.2,by omega⟩
  ·rw[show i+2=v from by omega];exact B
  rw[show i+3=y from by omega];exact c1
 rename_i n
 obtain⟨_,v,g1,h⟩:=bI h;obtain⟨r,x,g,a⟩:=bI h;injection a with a;injection a with a o;subst a o;obtain⟨⟨t,p,_,_⟩,q⟩:=YE b g1;subst q;obtain⟨C,u1,u2⟩:=U0 b c.lit (m:=WU) (by simp[X5]) (Wn c.ns p) n;exact⟨f,d,⟨C,u1,u2⟩,yN b c.lit c.ns g (Wn c.ns s) l⟩
theorem FE (n:en.sort=3)(o:GT body):∀m i c d k,body.length-i=m->i<=body.length->(∀x,x∈d->VA x)->Zr (body++[en]) i c=.ok (d,k)->∃h,d=c++h/\PH body i h:=by
 intro m
 induction m using G with
 |ind m t=>
  intro i c d k A hi p a;by_cases f:(Zo (body++[en]) i).sort=3
  ·rw[XA f]at a
   injection a with a;injection a with a _;subst a;exact⟨[],by simp,wZ o.ns hi f⟩
  cases b:ZU (body++[en]) i with
  |error l=>rw[YJ f b]at a;cases a
  |ok r=>
   obtain⟨e,j⟩:=r
   cases g:ZE (body++[en]) j Va with
   |error l=>rw[Y8 f b g]at a;cases a
   |ok r=>
    obtain⟨u,q⟩:=r;rw[X3 f b g]at a;have B:=WV b;have v:=Yt g;obtain⟨⟨C,w,_,_⟩,_⟩:=YE n g;have y:j<body.length:=(iG.1 w).1;obtain⟨h,s,z⟩:=t (body.length-q) (by omega) q _ d k rfl (by omega) p a;refine⟨e::h,by rw[s,E];rfl,j,vd n o b g (p e (by rw[s];simp)),?_⟩;rw[<-v];exact z
end
theorem Ly {rts a r}(h:Xr rts a Y r=Y):a.length<8:=by
 rcases y9 a.length 8 with b|b
 ·exact b
 exfalso
 unfold Xr at h;rw[show decide (8<=a.length)=true from by simpa using b,Yw,Vf,ZL,ZL,ZL,ZP]at h
 cases c:r.amount<;>rw[c]at h<;>simp only[Xb,ZL]at h<;>rw[ZP,X4]at h<;>cases h
theorem NX {rts r}(h:Wm rts Y r=Y):rts.length<6:=by
 rcases y9 rts.length 6 with a|a
 ·exact a
 exfalso
 unfold Wm at h;rw[show decide (6<=rts.length)=true from by simpa using a,Yw,Vf,ZL,ZL]at h
 cases h
theorem Oj {s}:∀n k a b ts,s.size-k=n->k<=s.size->ZK s k a b=.ok ts->ts.length<=b.length+(s.size-k)+1:=by
 intro n
 induction n using G with
 |ind n e=>
  intro k a b ts g f h;by_cases c:k<s.size
  ·cases d:Zs s k a with
   |skip k' l'=>
    rw[YH c d]at h;have:=X1 c d;have:=e (s.size-k') (by omega) k' l' b ts rfl (by omega) h;omega
   |tok t k'=>
    rw[WE c d]at h;have:=WD c d;have:=e (s.size-k') (by omega) k' a (b++[t]) ts rfl (by omega) h;simp only[D,P,O]at this;omega
   |bad=>rw[Xp c d]at h;cases h
  rw[WF c]at h
  injection h with h;subst h;simp
def Lz (t:Zf):Prop:=t.name.size<=3000/\t.base<1000000000/\t.rate<1000000000
structure Tc (n:Nat)(r:Ze):Prop where
 nm:r.name.size<=3000
 rk:r.rank<1000000000
 dg:r.digits<=9
 lo:r.lo<1000000000/\(Ya r.lo).length<=r.digits
 hi:r.hi<1000000000/\(Ya r.hi).length<=r.digits
 mc:r.mcc.length<=4000/\∀x,x∈r.mcc->x<1000000000
 cu:r.cur.length<=4000/\∀x,x∈r.cur->x<1000000000
 am:∀ab,r.am=I ab->ab.1<1000000000/\ab.2<1000000000
 pl:r.routes.length<=4000/\∀x,x∈r.routes->x<n
 ah:r.ahead<=n
 bn:r.digits<=6/\r.hi<10^r.digits/\r.lo<=r.hi
def Cx:Nat->List Ze->Prop
 |_,[]=>True
 |told,r::rs=>told<=r.ahead/\Cx r.ahead rs
structure Yx (rts:List Zf)(rls:List Ze):Prop where
 rt:∀t,t∈rts->Lz t
 rl:∀r,r∈rls->Tc rts.length r
 ah:Cx 0 rls
 r6:rts.length<=6
 l8:rls.length<=8
theorem Kk {r:Ze}{n:Nat}(c:r.ahead=n):∀(b:List Ze)(a:Nat),a<=n->(∀x,x∈b->x.ahead<=n)->Cx a b->Cx a (b++[r])
 |[],a,h,_,_=>⟨by omega,trivial⟩
 |x::xs,a,_,ha,h=>⟨h.1,Kk c xs x.ahead (ha x (by simp)) (fun y d=>ha y (by simp[d])) h.2⟩
theorem Tc.more {n r}(h:Tc n r){m}(a:n<=m):Tc m r:=
 ⟨h.nm,h.rk,h.dg,h.lo,h.hi,h.mc,h.cu,h.am,⟨h.pl.1,fun x b=>nL (h.pl.2 x b) a⟩,y7 h.ah a,h.bn⟩
theorem Cy (t)(d:Dg t.text):Zd t<10^t.text.size:=by
 have h:=O1 t.text.data.toList 0 (fun c f=>by
  obtain⟨k,b,e⟩:=List.getElem_of_mem f;have a:=(d.2 k (by simpa using b)).2;unfold ZC at a;rw[gD,gE b,e]at a;simp at a
  omega)
 have e:t.text.data.toList.length=t.text.size:=by simp
 rw[e]at h;unfold Zd Yu;omega
theorem FF {rts j e r}(h:Z7 rts j e=.ok r)(w:VA (.rule e))(g:Cw (.rule e)):Tc rts.length r/\r.ahead=rts.length:=by
 obtain⟨y,z,k,l,A,B,s,C,D,E⟩:=w;have g:1<=e.bin.1.text.size/\1<=e.bin.2.text.size:=g;unfold Z7 at h
 split at h
 ·cases h
 split at h
 ·cases h
 split at h
 ·cases h
 split at h
 ·cases h
 split at h
 ·cases h
 rename_i L F
 split at h
 ·cases h
 rename_i G
 cases m:Zp 9999 0 e.mcc with
 |error f=>rw[m]at h;cases h
 |ok c=>
  rw[m]at h
  dsimp only at h
  split at h
  ·cases h
  cases n:Zp 999 0 e.cur with
  |error f=>rw[n]at h;cases h
  |ok d=>
   rw[n]at h
   dsimp only at h
   cases o:Zw rts 0 e.act.routes with
   |error f=>rw[o]at h;cases h
   |ok u=>
    rw[o]at h;injection h with h;subst h;have H:=(WL 9999 e.mcc 0 (by omega)).2 c m;have I:=(WL 999 e.cur 0 (by omega)).2 d n;obtain⟨J,K⟩:=PG rts e.act.routes 0 u o
    have b:e.bin.2.text.size=e.bin.1.text.size:=by omega
    have M:u.length=e.act.routes.length:=by have:=congrArg v7 J;simpa using this
    refine⟨⟨y,Wh _ z,k.1,⟨Wh _ k,(QJ _ k g.1).2⟩,⟨Wh _ l,by dsimp only;rw[<-b];exact(QJ _ l g.2).2⟩,?_,?_,?_,⟨by dsimp only;omega,K⟩,q8 _,by dsimp only;omega,by dsimp only;rw[<-b];exact Cy _ l,by dsimp only;omega⟩,rfl⟩
    ·dsimp only
     rw[H];refine⟨by simpa using C,fun x p=>?_⟩;obtain⟨t,q,rfl⟩:=x0.1 p;exact Wh _ (A t q)
    ·dsimp only
     rw[I];refine⟨by simpa using D,fun x p=>?_⟩;obtain⟨t,q,rfl⟩:=x0.1 p;exact Wh _ (B t q)
    intro N a
    dsimp only at a
    cases i:e.amount with
    |none=>rw[i]at a;cases a
    |some v=>
     rw[i]at a;simp only[Option.map_some,Option.some.injEq]at a;subst a;exact⟨Wh _ (s v i).1,Wh _ (s v i).2⟩
theorem NY:∀(d:List Vr)(rts:List Zf)(a:List Ze)(p:List Zf×List Ze),Yx rts a->YV (rts.map Zf.name)->(∀x,x∈d->VA x/\Cw x)->ZR rts a d=.ok p->Yx p.1 p.2
 |[],rts,a,p,hB,_,_,h=>by
  simp only[ZR]at h;injection h with h;subst h;exact hB
 | .route e::d,rts,a,p,hB,hd,ho,h=>by
  have g:VA (.route e):=(ho (.route e) (by simp)).1
  cases b:ZD rts e with
  |error f=>rw[YR (f:=f) (by simp only[Vs,b])]at h;cases h
  |ok t=>
   rw[Xm (p:=(rts++[t],a)) (by simp only[Vs,b])]at h;have j:=VP hB.r6 hd b;have l:=(Ti rts e hB.r6).2 t b;refine NY d (rts++[t]) a p ⟨fun u i=>?_,fun r c=>(hB.rl r c).more (by simp),hB.ah,j.2,hB.l8⟩ j.1 (fun x k=>ho x (by simp[k])) h;rcases z7.1 i with i|i
   ·exact hB.rt u i
   simp at i
   subst i;rw[l];exact⟨g.1,Wh _ g.2.1,Wh _ g.2.2⟩
 | .rule e::d,rts,a,p,hB,hd,ho,h=>by
  have g:=ho (.rule e) (by simp)
  cases b:Z7 rts a e with
  |error f=>rw[YR (f:=f) (by simp only[Vs,b])]at h;cases h
  |ok t=>
   rw[Xm (p:=(rts,a++[t])) (by simp only[Vs,b])]at h;obtain⟨m,n⟩:=FF b g.1 g.2;refine NY d rts (a++[t]) p ⟨hB.rt,fun r c=>?_,Kk n a 0 (F _) (fun x k=>(hB.rl x k).ah) hB.ah,hB.r6,Od hB.l8 b⟩ hd (fun x k=>ho x (by simp[k])) h;rcases z7.1 c with c|c
   ·exact hB.rl r c
   simp at c
   subst c;exact m
theorem NZ {s p}(h:XE s=.ok p):Yx p.1 p.2:=by
 unfold XE at h
 split at h
 ·cases h
 rename_i o
 cases a:ZK s 0 1 []with
 |error l=>rw[a]at h;cases h
 |ok ts=>
  rw[a]at h
  dsimp only at h
  cases b:Zr ts 0 []with
  |error l=>rw[b]at h;cases h
  |ok r=>
   obtain⟨e,k⟩:=r;rw[b]at h
   dsimp only at h
   obtain⟨body,f,i,g⟩:=IT a;have c:=Oj _ 0 1 [] ts rfl (F _) a;simp only[O]at c;have j:=ND (ts:=ts) (n:=s.size) (SN _ 0 1 [] ts rfl (by simp) a).1 (by omega) (by omega) _ 0 [] e k rfl (by simp) b;rw[f]at b;have m:=E8 rfl i _ 0 [] e k rfl (fun x d=>by simp at d) b;exact NY e [] [] p ⟨by simp,by simp,trivial,by simp,by simp⟩ trivial (fun x d=>⟨j x d,(m x d).2⟩) h
open Go.RowKit
def QW (w:q0):Prop:=Lib.TabIs Z w "internal/strconv.uint64pow10" .u64 Lib.pow10Tab
theorem QW.fr {w w'}(h:QW w)(a:F0 w w'):QW w':=Lib.tabBelow_of_tabIs h w' (a.below (q8 _))
theorem QW.below {w w'}(h:QW w){B}(b:w.heap.size<=B)(a:Below B w w'):QW w':=Lib.tabBelow_of_tabIs h w' ⟨a.os,a.tape,a.output,a.size,fun k c=>a.block k (nL c b)⟩
def ZQ (l:List UInt8):ByteArray:=⟨l.toArray⟩
theorem XK (l):(ZQ l).size=l.length:=rfl
theorem QX (n:Nat)(w)(d:n<=9223372036854775807)(b:QW w):C Z 106 #[S V (n:Int)] w fun e w'=>e=K (J (ZQ (Ya n)))/\F0 w w':=
 (Tryz.strconv_Itoa (n:Int) (by omega) (by omega) w b).mono fun e w' ⟨a,k,os,c⟩=>by
  rw[Lib.itoa_nonneg]at a;refine⟨a,?_⟩;subst c;refine⟨rfl,rfl,rfl,?_,fun i hi _=>?_⟩
  ·show w.heap.size<=(w.heap++os).size
   simp
  show(w.heap++os)[i]?=w.heap[i]?
  exact Array.getElem?_append_left hi
theorem Xs (n)(h:n<1000000000):(Ya n).length<=21:=by
 have:=Lib.itoa_length_le (n:Int) (by omega) (by omega);rw[Lib.itoa_nonneg]at this;exact this
def Bd (w:q0)(B b:Nat)(l:List UInt8):Prop:=Lib.IsBuilderF 116 5 B b (Lib.byteCells l) w
theorem E9 {T e B b p bs w w'}(h:Lib.BuilderAtF T e B b p bs w)(i:F0 w w'):Lib.BuilderAtF T e B b p bs w':=by
 obtain⟨j,v,k,⟨a,c⟩,d⟩:=h;refine⟨j,v,i.whole k,⟨a,?_⟩,d⟩;rcases c with l|⟨g,cap,f,m,n,o,q,r⟩
 ·exact .inl l
 exact .inr ⟨g,cap,f,m,n,o,i.whole q,r⟩
theorem Bd.fr {w w' B b l}(h:Bd w B b l)(a:F0 w w'):Bd w' B b l:=
 h.elim (fun x=>.inl (E9 x a)) (fun x=>.inr (E9 x a))
theorem Bd.lt {w B b l}(h:Bd w B b l):B<=b/\b<w.heap.size:=
 h.elim (fun x=>⟨x.1,x.lt⟩) (fun x=>⟨x.1,x.lt⟩)
theorem Cz (B b l s w)(h:Bd w B b l)(a:l.length+s.size<=140737488355328)(c:B<=w.heap.size):
  C Z 105 #[x5 (I ⟨b,0,Y⟩),J s] w fun e w'=>e=K (.tuple #[S V s.size,.nilIface])/\Bd w' B b (l++s.data.toList)/\Below B w w'/\Lib.OthersKept 5 (I b) w w':=
 (Any.Builder_WriteString_k (ρ:=Tryz.lays156_ren) {Tryz.lays156 with} Tryz.Builder_Extra_156 B b (Lib.byteCells l) s w h (by rw[Lib.byteCells_length];exact a) c).mono fun e w' ⟨f,d,g,i⟩=>by
  refine⟨f,?_,g,i⟩;rw[Lib.strCells_eq]at d
  have j:Lib.byteCells (l++s.data.toList)=Lib.byteCells l++Lib.byteCells s.data.toList:=by unfold Lib.byteCells;rw[v0]
  unfold Bd;rw[j];exact .inr d
theorem IU (B b l w)(h:Bd w B b l)(a:B<=w.heap.size):
  C Z 61 #[x5 (I ⟨b,0,Y⟩)] w fun e w'=>e=K (J (ZQ l))/\Below B w w':=
 (Tryz.Builder_String_any_k B b l w h a).mono fun _ _ ⟨c,_,d,_⟩=>⟨c,d⟩
theorem IV (c):Lib.repeatL [48] c=N c 48:=by
 induction c with
 |zero=>rfl
 |succ c a=>rw[Lib.repeatL,a];rfl
theorem FG (c:Nat)(w)(d:c<=9):C Z 162 #[J ⟨#[48]⟩,S V (c:Int)] w fun e w'=>e=K (J (ZQ (N c 48)))/\F0 w w':=
 (Tryz.strings_Repeat ⟨#[48]⟩ c w (by omega) (by show 1*c<=_;omega)).mono fun e w' ⟨a,b⟩=>⟨by rw[a];show _=v4 (J ⟨(N c 48).toArray⟩);rw[<-IV],Fr.of_below b⟩
theorem FH (n d w)(i:QW w)(z:n<1000000000)(A:d<=9)(p:(Ya n).length<=d):
  C Z 107 #[S V (n:Int),S V (d:Int)] w fun e w'=>e=K (J (ZQ (TP n d)))/\F0 w w':=by
 have j:=Za (QX n w (by omega) i);obtain⟨t,b⟩:∃t,t=ZQ (Ya n):=⟨_,rfl⟩;rw[<-b]at j
 have c:t.size=(Ya n).length:=by rw[b];rfl
 obtain⟨k,l⟩:∃k,k=t.size:=⟨_,rfl⟩
 have q:k<=d:=by omega
 have r:t.size=k:=l.symm
 have B:v8.wrap ((d:Int)-(k:Int))=((d-k:Nat):Int):=by rw[IntWalk.i64_in _ (by omega)];omega
 have s:=Za b
 have v:L (k=(Ya n).length):=by show _=_;omega
 have m:L (∀W,C Z 162 #[J ⟨#[48]⟩,S V ((d-k:Nat):Int)] W fun e w'=>e=K (J (ZQ (N (d-k) 48)))/\F0 W w'):=fun W=>FG (d-k) W (by omega)
 have x:(ZQ (N (d-k) 48)).size<=9:=by rw[XK,List.length_replicate];omega
 obtain⟨u,f⟩:∃u,u=ZQ (N (d-k) 48):=⟨_,rfl⟩;rw[<-f]at m x;have y:=Za f;clear b c l f p i;go_enter Tryz.func107,Tryz.ntmps107;go_wp2_with fail;refine j.o.mono ?_;rintro e D ⟨rfl,a⟩;have g:=Za a;clear a;go_wp2_with fail;refine(m.o _).mono ?_;rintro e w2 ⟨rfl,a⟩;have h:=Za (g.o.trans a);clear a;go_wp2_with fail;go_ret;refine⟨?_,h.o⟩
 have e:u++t=ZQ (TP n d):=by
  apply ByteArray.ext;apply Array.ext';rw[y.o,s.o];simp[ZQ,TP,v.o]
 rw[<-e];rfl
theorem Kl (g o k):(⟨g,o,Y⟩:Addr).add k=⟨g,o+k,Y⟩:=by unfold Addr.add;split<;>simp_all
theorem RK:(Z.info? 9).map (fun i=>(i.zero,i.size,i.bytes))=I (I (J ByteArray.empty),1,16):=by kernel_rfl
def Se (l:List Bs):List Value:=l.map fun x=>Value.string (ZQ x)
theorem Ol (l x):Se (l++[x])=Se l++[J (ZQ x)]:=by unfold Se;rw[v0];rfl
theorem FI (r:List Bs):(r.map ([44,32]++·)).flatten=r.flatMap fun u=>44::32::u:=by
 induction r with
 |nil=>rfl
 |cons y r a=>rw[q5,List.flatten_cons,a];rfl
theorem N0 (l):Lib.join l [44,32]=Xe l:=by
 cases l with
 |nil=>rfl
 |cons x r=>rw[Lib.join_cons,Lib.joinTail,FI];rfl
theorem Ui (l m)(h:∀x,x∈l->x.length<=m):(Xe l).length<=l.length*(m+2):=by
 have c:∀r:List Bs,(∀x,x∈r->x.length<=m)->(r.flatMap fun u=>44::32::u).length<=r.length*(m+2):=by
  intro r
  induction r with
  |nil=>intro _;simp
  |cons y r d=>
   intro b;have e:=d (fun x a=>b x (by simp[a]));have f:=b y (by simp);rw[H,lA];simp only[P];rw[q9];omega
 cases l with
 |nil=>simp[Xe]
 |cons x r=>
  have e:=c r (fun x a=>h x (by simp[a]));have f:=h x (by simp);simp only[Xe];rw[lA,P,q9];omega
theorem Uq {w:q0}{base e a v n b}(h:w.ownsRow base e a v n b)(k:0<n):∃g cap,v=z8 (I ⟨g,0,Y⟩) n cap/\base<=g/\g<w.heap.size/\n<=cap:=by
 rcases h.2 with⟨_,e⟩|⟨g,cap,c,d,f,i,j,_⟩
 ·omega
 exact⟨g,cap,d,f,(iA.1 i).1,j⟩
theorem IW (w base v l m)(h:w.ownsRow base 9 1 v l.length (Se l))(o:l.length<=4000)(p:∀x,x∈l->x.length<=m)(q:m<=3000):
  C Z 163 #[v,J ⟨#[44,32]⟩] w fun e w'=>e=K (J (ZQ (Xe l)))/\F0 w w':=by
 by_cases r:0<l.length
 ·obtain⟨g,cap,e,B,s,t⟩:=Uq h r
  subst e
  have k:((l.map ZQ).map (·.data.toList))=l:=by rw[v6];exact List.map_id' l
  have n:=Ui l m p;have d:l.length*(m+2)<=4000*3002:=x8 o (by omega)
  have:=Tryz.strings_Join g 0 cap (l.map ZQ) ⟨#[44,32]⟩ w (fun j x b=>by
   rw[M]at b
   cases f:l[j]? with
   |none=>rw[f]at b;cases b
   |some y=>
    rw[f]at b;simp only[Option.map_some,Option.some.injEq]at b;have:=h.cells (g:=g) rfl j (J (ZQ y)) (by unfold Se;rw[M,f];rfl);rw[Kl]at this;rw[<-b]
    exact this) s (by rw[U];omega) (by rw[U];exact t) (by rw[k];show(Lib.join l [44,32]).length<=_;rw[N0];omega)
  rw[U]at this
  refine this.mono fun e w' ⟨i,u⟩=>⟨?_,Fr.of_below u⟩
  rw[i,k]
  show _=v4 (J ⟨(Xe l).toArray⟩)
  rw[<-N0]
 have z:l=[]:=x6.1 (by omega)
 subst z;obtain⟨a,c,e⟩:=oL h;subst e
 exact(Tryz.strings_Join_none a c ⟨#[44,32]⟩ w).mono fun e w' ⟨i,hw⟩=>⟨i,by rw[hw];exact Zt⟩
theorem PI (w base v l)(h:w.ownsRow base 3 1 v l.length (Zg l))(h0:0<l.length)(hl:l.length<=4000)(z:∀x,x∈l->x<1000000000)(ht:QW w):
  C Z 108 #[v] w fun e w'=>e=K (J (ZQ (Xe (l.map Ya))))/\F0 w w':=by
 obtain⟨ii,hi,D,E,G⟩:=info_parts RK;obtain⟨g,cap,rfl,hb,q,r⟩:=Uq h h0
 have f:L (∀j x,l[j]?=I x->w.cell? ⟨g,j,Y⟩=I (S V (x:Nat))):=by
  intro j x hj;have:=h.cells (g:=g) rfl j (S V x) (by unfold Zg;rw[M,hj];rfl)
  rwa [Kl,q7]at this
 have HT:=Za ht;have HX:=Za z;have HG:=Za q;obtain⟨n,H⟩:∃n,l.length=n:=⟨_,rfl⟩;have N:=Za H;rw[H]at hl h0 r ⊢;clear h z ht H hb q;go_enter Tryz.func108,Tryz.ntmps108;go_wp2_with fail
 go_loopg [3,5,8] n (fun m o _ ix wr=>∃k,k<=n/\m=n-k/\ix=S V (k:Nat)/\L (wr.ownsRow w.heap.size 9 1 o k (Se ((l.map Ya).take k)))/\L (F0 w wr))
 case atStart=>exact⟨0,F _,rfl,rfl,oZ _ _ _ _,Zt⟩
 obtain⟨k,A,rfl,rfl,HO,B⟩:=hrel;by_cases b0:k<n
 ·obtain⟨x,b⟩:∃x,l[k]?=I x:=⟨_,gE (by have:=N.o;omega)⟩
  have c0:wr.cell? ⟨g,k,Y⟩=I (S V (x:Nat)):=(B.o.cell (p:=⟨g,k,Y⟩) HG.o).trans (f.o k x b)
  have O:L ((l.map Ya).take (k+1)=(l.map Ya).take k++[Ya x]):=by show _=_;rw[y8,M,b];rfl
  have HI:=Za (QX x wr (by have:=HX.o x (mG b);omega) (HT.o.fr B.o))
  have P:(k:Int)<(n:Int):=by omega
  clear b;go_wp2_with fail;refine HI.o.mono ?_;rintro e w1 ⟨rfl,i⟩;have s:=Za (B.o.trans i);have u:=Za (oF HO.o i);have d0:=s.o.size;obtain⟨t,Q⟩:∃t,t=ZQ (Ya x):=⟨_,rfl⟩;rw[<-Q];have R:=Za Q;clear i c0 Q
  go_wp2_with (at_builtin;refine wpList_append_lies _ rfl (.tmp 12) (.tmp 15) 28 rfl w.heap.size 9 ii _ 1 16 Tryz.underlying28 hi D E G rfl (by decide) u3 k (Se ((l.map Ya).take k)) rfl ?h1 ⟨w1.heap.size,0,Y⟩ 1 1 [J t] rfl rfl ?h2 ?h3 (by decide) ?h4 ?h5 ?h6 _ rfl ?_)
  case h1=>exact u.o.alloc _
  case h2=>exact World.news_of_block (aN w1 _)
  case h3=>simp[v5]
  case h4=>unfold maxLen;omega
  case h5=>omega
  case h6=>first|omega|(simp;omega)
  intro g2 a0 w5 c a _ _
  have d:∀k,u3.ownBlock=I k->w.heap.size<=k:=fun k A=>(u.o.lt k A).1
  have T:=Za c;have W:=Za ((s.o.alloc _).grown a (fun k A=>Or.inr (d k A)));clear a c d;go_wp2;go_roundg (n-(k+1))
  case measure=>omega
  refine⟨k+1,by omega,rfl,by go_num,?_,W⟩
  show World.ownsRow _ _ _ _ _ _ _
  rw[O.o,Ol,<-R.o];exact T.o
 have P:¬(k:Int)<(n:Int):=by omega
 have ek:k=n:=by omega
 subst ek
 have HJ:L (C Z 163 #[u3,J ⟨#[44,32]⟩] wr fun e w'=>e=K (J (ZQ (Xe (l.map Ya))))/\F0 wr w'):=by
  have ho:=HO.o;rw[z9 (by rw[U];have:=N.o;omega)]at ho;have e:=N.o;refine IW wr w.heap.size u3 (l.map Ya) 21 (by rw[U,e];exact ho) (by rw[U,e];exact hl) (fun x z=>?_) (by omega);obtain⟨y,hy,rfl⟩:=x0.1 z;exact Xs y (HX.o y hy)
 go_wp2_with fail;refine HJ.o.mono ?_;rintro e w2 ⟨rfl,i⟩;have X:=Za (B.o.trans i);clear i;go_wp2;go_ret;exact⟨rfl,X.o⟩
def N7 (a b:Bool)(l:List Bs):Bs:=if a then[100,101,99,108,105,110,101]else(if b then[99,104,101,97,112,101,115,116,32]else[])++Xe l
theorem yT (rts r):32::N7 r.decline r.cheapest (r.routes.map (Z0 rts))=vW rts r:=by
 unfold N7 vW
 cases r.decline<;>cases r.cheapest<;>rfl
def Km (c:ByteArray)(d e f g:Int)(h:Option Addr)(i j:Nat)(a:Bool)(k l:Int)(m:Option Addr)(n o:Nat)(p q:Bool)(r:Option Addr)(s t:Nat)(b:Int):Value:=
 .agg #[J c,S V d,S V e,S V f,S V g,z8 h i j,x7 a,S V k,S V l,z8 m n o,x7 p,x7 q,z8 r s t,S V b]
theorem OL (w Bb vr rts base a nm i1 i2 i3 i4 ma mn mc l i7 i8 ca cn cc dc z A T q)(hb:w.cell? ⟨Bb,0,Y⟩=I vr)(hr:w.ownsRow base 148 3 vr rts.length (Yh rts))(W:w.ownsRow base 3 1 (z8 A a.length T) a.length (Zg a))(hl:a.length<=4000)(B:∀p,p∈a->p<rts.length)(D:∀t,t∈rts->t.name.size<=3000)(h6:rts.length<=6):
  C Z 109 #[x5 (I ⟨Bb,0,Y⟩),Km nm i1 i2 i3 i4 ma mn mc l i7 i8 ca cn cc dc z A a.length T q] w fun e w'=>e=K (J (ZQ (N7 dc z (a.map (Z0 rts)))))/\F0 w w':=by
 unfold Km;obtain⟨ii,hi,a0,d0,e0⟩:=info_parts RK;obtain⟨va,vc,hv⟩:=oL hr;subst hv;have f0:=Za (bL w _ hb)
 have g0:L (∀j p,a[j]?=I p->∃g,A=I ⟨g,0,Y⟩/\g<w.heap.size/\w.cell? ⟨g,j,Y⟩=I (S V (p:Nat))):=by
  intro j p c;obtain⟨g,cap,e,_,E,_⟩:=Uq W (by have:=(iG.1 c).1;omega);injection e with e1 e2 e3;subst e1;refine⟨g,rfl,E,?_⟩;have:=W.cells (g:=g) rfl j (S V p) (by unfold Zg;rw[M,c];rfl)
  rwa [Kl,q7]at this
 have h0:L (∀j t,rts[j]?=I t->∃g,va=I ⟨g,0,Y⟩/\g<w.heap.size/\w.cell? ⟨g,j*3,Y⟩=I (J t.name)):=by
  intro j t c;obtain⟨g,cap,e,_,E,hc⟩:=UV hr (by have:=(iG.1 c).1;omega);injection e with e1 e2 e3;exact⟨g,e1,E,(hc j t c).1⟩
 have i0:=Za B;have j0:=Za D;have G:=Za hb;obtain⟨n,hn⟩:∃n,a.length=n:=⟨_,rfl⟩;have HN:=Za hn;obtain⟨nr,r⟩:∃nr,rts.length=nr:=⟨_,rfl⟩;have H:=Za r;rw[r]at G h6;rw[hn]at hl ⊢;clear hb hr W B D hn r;go_enter Tryz.func109,Tryz.ntmps109
 cases dc with
 |true=>
  go_wp2_with fail;go_ret;exact⟨rfl,Zt.alloc _⟩
 |false=>
  go_wp2_with fail;have N:=aN w (y0 #[J nm,S V i1,S V i2,S V i3,S V i4,z8 ma mn mc,x7 l,S V i7,S V i8,z8 ca cn cc,x7 false,x7 z,z8 A n T,S V q] 120);have s:=Za (Zc N 11);have k0:=(Vx w (y0 #[J nm,S V i1,S V i2,S V i3,S V i4,z8 ma mn mc,x7 l,S V i7,S V i8,z8 ca cn cc,x7 false,x7 z,z8 A n T,S V q] 120)).1;clear N;generalize w.alloc _=y at*;obtain⟨X,hX⟩:∃X,w.heap.size=X:=⟨_,rfl⟩;rw[hX]at s ⊢;clear hX
  go_loopg [5,7,14] n (fun m o _ ix wr=>∃k,k<=n/\m=n-k/\ix=S V (k:Nat)/\L (wr.ownsRow y.heap.size 9 1 o k (Se ((a.map (Z0 rts)).take k)))/\L (F0 y wr))
  case atStart=>exact⟨0,F _,rfl,rfl,oZ _ _ _ _,Zt⟩
  obtain⟨k,hk,rfl,rfl,HO,HF⟩:=hrel;have d:=Za (k0.o.trans HF.o);by_cases w0:k<n
  ·obtain⟨p,f⟩:∃p,a[k]?=I p:=⟨_,gE (by have:=HN.o;omega)⟩
   obtain⟨g,l0,E,c0⟩:=g0.o k p f;rw[<-d.o.cell (p:=⟨g,k,Y⟩) E (by simp)]at c0
   have z0:p<nr:=by have:=i0.o p (mG f);have:=H.o;omega
   obtain⟨t,u⟩:∃t,rts[p]?=I t:=⟨_,gE (by have:=H.o;omega)⟩;obtain⟨gr,O,m0,r0⟩:=h0.o p t u;rw[<-d.o.cell (p:=⟨gr,p*3,Y⟩) m0 (by simp)]at r0;have b0:=(d.o.cell (p:=⟨Bb,0,Y⟩) f0.o).trans G.o;rw[O]at b0;subst l0
   have n0:L ((a.map (Z0 rts)).take (k+1)=(a.map (Z0 rts)).take k++[t.name.data.toList]):=by show _=_;rw[y8,M,f];simp[Z0,u]
   have o0:(k:Int)<(n:Int):=by omega
   have A0:(p:Int)<(nr:Int):=by omega
   have B0:=HF.o.size;clear f u O
   go_wp2_with (at_builtin;refine wpList_append_lies _ rfl (.tmp 18) (.tmp 27) 28 rfl y.heap.size 9 ii _ 1 16 Tryz.underlying28 hi a0 d0 e0 rfl (by decide) u5 k (Se ((a.map (Z0 rts)).take k)) rfl ?h1 ⟨wr.heap.size,0,Y⟩ 1 1 [J t.name] rfl rfl ?h2 ?h3 (by decide) ?h4 ?h5 ?h6 _ rfl ?_)
   case h1=>exact HO.o.alloc _
   case h2=>exact World.news_of_block (aN wr _)
   case h3=>simp[v5]
   case h4=>unfold maxLen;omega
   case h5=>omega
   case h6=>first|omega|(simp;omega)
   intro g2 t0 w5 h b _ _
   have i:∀k,u5.ownBlock=I k->y.heap.size<=k:=fun k hk=>(HO.o.lt k hk).1
   have p0:=Za h;have q0:=Za ((HF.o.alloc _).grown b (fun k hk=>Or.inr (i k hk)));clear b h i;go_wp2;go_roundg (n-(k+1))
   case measure=>omega
   refine⟨k+1,by omega,rfl,by go_num,?_,q0⟩
   show World.ownsRow _ _ _ _ _ _ _
   rw[n0.o,Ol];exact p0.o
  have o0:¬(k:Int)<(n:Int):=by omega
  have ek:k=n:=by omega
  subst ek;have v:=(HF.o.cell (p:=⟨X,11,Y⟩) (bL y _ s.o)).trans s.o
  have P:L (∀x,x∈a.map (Z0 rts)->x.length<=3000):=fun x hx=>by
   obtain⟨p,W,rfl⟩:=x0.1 hx;unfold Z0
   cases hq:rts[p]? with
   |none=>simp
   |some t=>
    have:=j0.o t (mG hq)
    simpa using this
  have HJ:L (C Z 163 #[u5,J ⟨#[44,32]⟩] wr fun e w'=>e=K (J (ZQ (Xe (a.map (Z0 rts)))))/\F0 wr w'):=by
   have ho:=HO.o;rw[z9 (by rw[U];have:=HN.o;omega)]at ho;have e:=HN.o;exact IW wr y.heap.size u5 (a.map (Z0 rts)) 3000 (by rw[U,e];exact ho) (by rw[U,e];exact hl) P.o (by omega)
  have s0:(ZQ (Xe (a.map (Z0 rts)))).size<=4000*3002:=by
   have h1:=Ui (a.map (Z0 rts)) 3000 P.o;rw[U,HN.o]at h1;have h2:k*(3000+2)<=4000*3002:=x8 hl (by omega);rw[XK];omega
  obtain⟨j,c⟩:∃j,j=ZQ (Xe (a.map (Z0 rts))):=⟨_,rfl⟩;rw[<-c]at HJ s0;have Q:=Za c;clear c;go_wp2_with fail;refine HJ.o.mono ?_;rintro e w2 ⟨rfl,hf⟩;have R:=Za (d.o.trans hf);have v0:=(hf.cell (p:=⟨X,11,Y⟩) (bL wr _ v)).trans v;clear hf v
  cases z with
  |true=>
   go_wp2;go_ret;refine⟨?_,R.o⟩
   have e:(⟨#[99,104,101,97,112,101,115,116,32]⟩:ByteArray)++j=ZQ (N7 false true (a.map (Z0 rts))):=by
    apply ByteArray.ext;apply Array.ext';rw[Q.o];simp[ZQ,N7]
   rw[<-e];rfl
  |false=>
   go_wp2;go_ret;refine⟨?_,R.o⟩;rw[Q.o];rfl
theorem XL (a b m n)(c:a.size<=m)(d:b.size<=n)(h:m+n<=80000000):∃y,L (y=a++b)/\y.size<=m+n/\∀W,(Op.stringOp .add a b).run Z W=.ok (J y) W:=
 ⟨a++b,rfl,by rw[ByteArray.size_append];omega,fun W=>run_string_add_sum W a b (by omega)⟩
structure Wr (w0:q0)(B b:Nat)(l:List UInt8)(X:Nat)(o:Obj)(W:q0):Prop where
 bd:Bd W B b l
 be:Below B w0 W
 le:B<=W.heap.size
 ob:W.heap[X]?=I o
 ok:Lib.OthersKept 5 (I b) w0 W
theorem AM {b w0 W a}(h:Lib.OthersKept 5 b w0 W)(c:F0 W a):Lib.OthersKept 5 b w0 a:=fun k o d e f=>c.whole (h k o d e f)
theorem IY {b w W}(h:Below w.heap.size w W):Lib.OthersKept 5 b w W:=fun k o a _ _=>by
 rw[h.block k (iA.1 a).1];exact a
theorem Wr.fr {w0 B b l X o W c}(h:Wr w0 B b l X o W)(a:F0 W c):Wr w0 B b l X o c:=
 ⟨h.bd.fr a,h.be.trans (a.below h.le),y7 h.le a.size,a.whole h.ob,AM h.ok a⟩
theorem Wr.write {w0 B b l X a T W}(h:Wr w0 B b l X (y0 a T) W)(s)(g:l.length+s.size<=140737488355328)(i:X≠b)(j:T≠5):
  C Z 105 #[x5 (I ⟨b,0,Y⟩),J s] W fun e w'=>e=K (.tuple #[S V s.size,.nilIface])/\Wr w0 B b (l++s.data.toList) X (y0 a T) w':=
 (Cz B b l s W h.bd g h.le).mono fun e w' ⟨k,m,d,f⟩=>⟨k,m,h.be.trans d,y7 h.le d.size,f X _ h.ob (by simpa using i) (fun c o e=>by injection e with _ n;exact j n),h.ok.trans f⟩
theorem Wr.itoa {w0 B b l X o W}(h:Wr w0 B b l X o W)(a:∀w',Below B w0 w'->QW w')(m:Nat)(f:m<1000000000):
  C Z 106 #[S V (m:Int)] W fun e w'=>e=K (J (ZQ (Ya m)))/\Wr w0 B b l X o w':=
 (QX m W (by omega) (a W h.be)).mono fun e w' ⟨c,d⟩=>⟨c,h.fr d⟩
def CA (w:q0)(B:Nat)(a:Option Addr)(rts:List Zf):Prop:=
 ∀j t,rts[j]?=I t->∃g o,a=I ⟨g,o,Y⟩/\g<B/\w.cell? ⟨g,o+j*3,Y⟩=I (J t.name)/\w.cell? ⟨g,o+j*3+1,Y⟩=I (S V t.base)/\w.cell? ⟨g,o+j*3+2,Y⟩=I (S V t.rate)
theorem AN (t)(h:Lz t):(Ux t).length<=3060:=by
 have a:=Xs _ h.2.1;have b:=Xs _ h.2.2
 have c:t.name.data.toList.length=t.name.size:=by simp
 have d:=h.1;unfold Ux;simp only[D,P,O];omega
theorem Da (l:List Zf)(h:∀t,t∈l->Lz t):(l.flatMap Ux).length<=l.length*3060:=by
 induction l with
 |nil=>simp
 |cons x r a=>
  have c:=a (fun t b=>h t (by simp[b]));have d:=AN x (h x (by simp));rw[H,lA,P,q9];omega
theorem Su (w B b f a c rts)(hB:B<=w.heap.size)(hd:Bd w B b f)(N:∀w',Below B w w'->QW w')(hr:CA w B a rts)(d:∀t,t∈rts->Lz t)(O:rts.length<=6)(m0:f.length<=100000000):
  C Z 59 #[x5 (I ⟨b,0,Y⟩),z8 a rts.length c] w fun e w'=>e=K (.tuple #[])/\Bd w' B b (f++rts.flatMap Ux)/\Below B w w'/\Lib.OthersKept 5 (I b) w w':=by
 have HD:=Za hd;have P:=Za N;have HR:=Za hr;have y:=Za d;obtain⟨n,hn⟩:∃n,rts.length=n:=⟨_,rfl⟩;have HN:=Za hn;rw[hn]at O ⊢;go_enter Tryz.func59,Tryz.ntmps59;go_wp2_with fail
 go_loopg [5,8] n (fun m _ ix wr=>∃k,k<=n/\m=n-k/\ix=S V (k:Nat)/\L (Bd wr B b (f++(rts.take k).flatMap Ux))/\L (Below B w wr)/\L (Lib.OthersKept 5 (I b) w wr))
 case atStart=>exact⟨0,F _,rfl,rfl,by show Bd _ _ _ _;simpa using HD.o,Below.refl _ _,Lib.OthersKept.refl _ _ _⟩
 obtain⟨k,hk,rfl,rfl,i,M,z⟩:=hrel;by_cases n0:k<n
 ·obtain⟨t,UP⟩:∃t,rts[k]?=I t:=⟨_,gE (by have:=HN.o;omega)⟩
  obtain⟨g,o,ha,hg,c0,c1,c2⟩:=HR.o k t UP
  have o0:g<w.heap.size:=by omega
  have q:∀j v,w.cell? ⟨g,j,Y⟩=I v->wr.cell? ⟨g,j,Y⟩=I v:=fun j v hv=>by
   rw[show wr.cell? ⟨g,j,Y⟩=w.cell? ⟨g,j,Y⟩from by simp only[World.cell?,M.o.block g hg]];exact hv
  replace c0:=q _ _ c0;replace c1:=q _ _ c1;replace c2:=q _ _ c2;subst ha
  have Q:(k:Int)<(n:Int):=by omega
  have A:L (f++(rts.take (k+1)).flatMap Ux=(f++(rts.take k).flatMap Ux)++Ux t):=by show _=_;rw[y8,UP,q6,E];simp
  have d:=y.o t (mG UP);have R:=d.1;have T:(ZQ (Ya t.base)).size<=21:=Xs _ d.2.1;have U:(ZQ (Ya t.rate)).size<=21:=Xs _ d.2.2;have p:=Za d;have D:=Za (y7 hB M.o.size)
  have G:(f++(rts.take k).flatMap Ux).length<=100100000:=by
   have h1:=Da (rts.take k) (fun t ht=>y.o t (List.mem_of_mem_take ht))
   have h2:(rts.take k).length<=6:=by rw[List.length_take];omega
   have h3:(rts.take k).length*3060<=6*3060:=x8 h2 (q8 _);rw[lA];omega
  obtain⟨r,a0⟩:∃r,r=f++(rts.take k).flatMap Ux:=⟨_,rfl⟩;rw[<-a0]at i A G;go_upto_region 3 with fail
  have HZ:L (Wr w B b r wr.heap.size (y0 #[J t.name,S V t.base,S V t.rate] 148) (wr.alloc (y0 #[J t.name,S V t.base,S V t.rate] 148))):=
   ⟨i.o.fr (Zt.alloc _),M.o.trans (((Fr.refl (fun _=>False) wr).alloc _).below D.o),y7 D.o (by simp),aN wr _,AM z.o (Zt.alloc _)⟩
  have b0:L (wr.heap.size≠b):=by have:=i.o.lt.2;show _≠_;omega
  generalize wr.alloc _=W1 at*;generalize wr.heap.size=X at*
  have u:L (∀l W,Wr w B b l X (y0 #[J t.name,S V t.base,S V t.rate] 148) W->W.cell? ⟨X,0,Y⟩=I (J t.name)/\W.cell? ⟨X,1,Y⟩=I (S V t.base)/\W.cell? ⟨X,2,Y⟩=I (S V t.rate)):=fun l W h=>⟨Zc h.ob 0,Zc h.ob 1,Zc h.ob 2⟩
  have HI:L (∀(m:Nat)(W:q0),L (m<1000000000)->L (Wr w B b r X (y0 #[J t.name,S V t.base,S V t.rate] 148) W)->C Z 106 #[S V (m:Int)] W fun e w'=>e=K (J (ZQ (Ya m)))/\L (Wr w B b r X (y0 #[J t.name,S V t.base,S V t.rate] 148) w')/\w'.cell? ⟨X,0,Y⟩=I (J t.name)/\w'.cell? ⟨X,1,Y⟩=I (S V t.base)/\w'.cell? ⟨X,2,Y⟩=I (S V t.rate)):=
   fun m W hm hZ=>(hZ.o.itoa P.o m hm.o).mono fun e w' ⟨he,hz⟩=>⟨he,hz,u.o _ _ hz⟩
  have HW:L (∀(s:ByteArray)(W:q0),s.size<=4000->L (Wr w B b r X (y0 #[J t.name,S V t.base,S V t.rate] 148) W)->C Z 105 #[x5 (I ⟨b,0,Y⟩),J s] W fun e w'=>e=K (.tuple #[S V s.size,.nilIface])/\L (Wr w B b (r++s.data.toList) X (y0 #[J t.name,S V t.base,S V t.rate] 148) w')/\w'.cell? ⟨X,0,Y⟩=I (J t.name)/\w'.cell? ⟨X,1,Y⟩=I (S V t.base)/\w'.cell? ⟨X,2,Y⟩=I (S V t.rate)):=
   fun s W hs hZ=>(hZ.o.write s (by omega) b0.o (by decide)).mono fun e w' ⟨he,hz⟩=>⟨he,hz,u.o _ _ hz⟩
  have p0:=Za p.o.2.1;have r0:=Za p.o.2.2;obtain⟨s0,s1,s2⟩:=u.o _ _ HZ.o;have t0:=Za (HZ.o.fr Zt.drew);obtain⟨y1,d0,z1,k1⟩:=XL ⟨#[114,111,117,116,101,32]⟩ t.name 6 3000 (by decide) R (by omega);obtain⟨y2,e0,z2,k2⟩:=XL y1 ⟨#[32]⟩ _ 1 z1 (by decide) (by omega);obtain⟨y3,f0,z3,k3⟩:=XL y2 (ZQ (Ya t.base)) _ 21 z2 T (by omega);obtain⟨y4,g0,z4,k4⟩:=XL y3 ⟨#[32]⟩ _ 1 z3 (by decide) (by omega);obtain⟨y5,h0,z5,k5⟩:=XL y4 (ZQ (Ya t.rate)) _ 21 z4 U (by omega);obtain⟨y6,i0,z6,k6⟩:=XL y5 ⟨#[59,10]⟩ _ 2 z5 (by decide) (by omega)
  go_region_held3 (fun W=>W.cell? ⟨X,0,Y⟩=I (J t.name)/\W.cell? ⟨X,1,Y⟩=I (S V t.base)/\W.cell? ⟨X,2,Y⟩=I (S V t.rate)) (first|assumption|go_keep) (first
   |(go_at_call 106;refine(HI.o _ _ (by assumption) (by assumption)).mono ?_;rintro e w7 ⟨rfl,v0,j0⟩)
   |(go_at_call 105;refine(HW.o _ _ (by omega) (by assumption)).mono ?_;rintro e w7 ⟨rfl,x,j0⟩))
  have HY:L (y6.data.toList=Ux t):=by
   show _=_
   rw[i0.o,h0.o,g0.o,f0.o,e0.o,d0.o];simp[Ux,ZQ]
  go_wp2;go_roundg (n-(k+1))
  case measure=>omega
  refine⟨k+1,by omega,rfl,by go_num,?_,x.o.be,x.o.ok⟩
  show Bd _ _ _ _
  have e:=x.o.bd;rw[HY.o]at e;rw[A.o];exact e
 have Q:¬(k:Int)<(n:Int):=by omega
 have ek:k=n:=by omega
 subst ek
 have k0:L (Bd wr B b (f++rts.flatMap Ux)):=by
  have e:=i.o;rw[z9 (by have:=HN.o;omega)]at e;exact e
 go_wp2_with fail
 go_end0
 exact⟨rfl,k0.o,M.o,z.o⟩
