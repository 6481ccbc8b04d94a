import Derived.Test.YtccikgogjfbpeaaGreatDoorQw
open List renaming length_cons->I,length_nil->S,length_append->V,flatMap_cons->Y,mem_of_getElem?->Z,append_assoc->K
open Option renaming some->J
open UInt8 renaming ofNat->P
open Bool renaming false_or->U,eq_false_iff->O
namespace Go.Proofs.YtccikgogjfbpeaaGreatDoor
set_option maxRecDepth 30000
set_option maxHeartbeats 8000000
abbrev Bs:=List UInt8
def WF (t:Tk):Bs:=Lib.decDigits (Ze t)
def Yy (t:Tk):Bs:=t.text.data.toList
def UR (a:Tk->Bs)(l:List Tk):List Bs:=l.flatMap fun t=>[[44],a t]
def RN (a:Tk->Bs):List Tk->List Bs
 |[]=>[]
 |t::r=>a t::UR a r
def YP (kw:Bs)(l:List Tk):List Bs:=if l=[]then[]else kw::RN WF l
def EA:Option (Tk×Tk)->List Bs
 |none=>[]
 |some a=>[[97,109,111,117,110,116],WF a.1,[46,46],WF a.2]
def Po (a:Rv):List Bs:=if a.decline then[[100,101,99,108,105,110,101]]else(if a.cheapest then[[99,104,101,97,112,101,115,116]]else[])++RN Yy a.routes
def Of:Yk->List Bs
 | .route r=>[[114,111,117,116,101],Yy r.name,WF r.base,WF r.rate,[59]]
 | .rule r=>[[114,117,108,101],Yy r.name,WF r.rank,[58],[98,105,110],Yy r.bin.1,[46,46],Yy r.bin.2]++YP [109,99,99] r.mcc++EA r.amount++YP [99,117,114] r.cur++[[45,62]]++Po r.act++[[59]]
def WV (body:List Tk)(i:Nat)(a:List Bs):Prop:=Yo body i a.length=a
theorem SH (ts:List Tk):∀(a k b:Nat),Yo ts k (a+b)=Yo ts k a++Yo ts (k+a) b
 |0,k,b=>by rw[Nat.zero_add];rfl
 |a+1,k,b=>by
  rw[show a+1+b=(a+b)+1 from by omega]
  show Y4 ts k::Yo ts (k+1) (a+b)=Y4 ts k::Yo ts (k+1) a++_
  rw[SH ts a (k+1) b,show k+1+a=k+(a+1)from by omega];rfl
theorem WV.nil (body:List Tk)(i:Nat):WV body i []:=rfl
theorem WV.append {body:List Tk}{i:Nat}{a b:List Bs}(c:WV body i a)(d:WV body (i+a.length) b):WV body i (a++b):=by
 unfold WV at*;rw[lA,SH,c,d]
theorem WV.one {body:List Tk}{i:Nat}{s:Bs}(h:Y4 body i=s):WV body i [s]:=by
 unfold WV
 show Y4 body i::Yo body (i+1) 0=[s]
 rw[h];rfl
theorem WV.cons {body:List Tk}{i:Nat}{s:Bs}{r:List Bs}(h:Y4 body i=s)(a:WV body (i+1) r):WV body i (s::r):=WV.append (WV.one h) a
theorem Vk {t:Tk}{a b:Bs}(h:(t.text.toList==a)=true)(c:(a==b)=false):No t b=false:=by
 unfold No
 have e:t.text.toList=a:=by simpa using h
 rw[e];exact c
theorem Og {t:Tk}{a:Bs}(h:(t.text.toList==a)=true):No t a=true:=h
section
variable {body:List Tk}
theorem Qm {t:Tk}(a:Vh t)(b:t.sort≠2){m:ByteArray}(c:m∈YO):No t m.data.toList=false:=by
 unfold No;have h:=a m c;rw[ByteArray.toList_eq m]at h;rw[<-h];simp[Zq,b]
theorem Us {i:Nat}{a:Tk}(h:body[i]?=J a)(b:No a [98,105,110]=false)(c:No a [46,46]=false):TK body (i+1)=false:=by
 unfold TK;rw[show i+1-1=i from by omega,WS h,b,c];simp
theorem GN {i:Nat}{a b:Tk}(h:body[i+2]?=J a)(c:body[i]?=J b)(d:No a [98,105,110]=false)(e:No b [98,105,110]=false):TK body (i+3)=false:=by
 unfold TK;rw[show i+3-1=i+2 from by omega,show i+3-3=i from by omega,WS h,WS c,d,e];simp
theorem EB {i:Nat}{a:Tk}(h:body[i]?=J a)(b:No a [98,105,110]=true):TK body (i+1)=true:=by
 unfold TK;rw[show i+1-1=i from by omega,WS h,b];simp
theorem GO {i:Nat}{a b:Tk}(h:body[i+2]?=J a)(c:body[i]?=J b)(d:No a [46,46]=true)(e:No b [98,105,110]=true):TK body (i+3)=true:=by
 unfold TK;rw[show i+3-1=i+2 from by omega,show i+3-3=i from by omega,WS h,WS c,d,e];simp
theorem Vl {i:Nat}{t:Tk}(h:body[i]?=J t)(a:t.sort≠1):Y4 body i=Yy t:=by
 unfold Y4;rw[WS h,show decide (t.sort=1)=false from by simpa using a];rfl
theorem XC {i:Nat}{t:Tk}{a:Bs}(h:body[i]?=J t)(c:t.sort=2)(b:(t.text.toList==a)=true):Y4 body i=a:=by
 rw[Vl h (by omega)]
 have e:t.text.toList=a:=by simpa using b
 rw[ByteArray.toList_eq]at e;exact e
theorem GP {i:Nat}{t:Tk}(h:body[i]?=J t)(a:t.sort=1)(b:Dg t.text)(c:1<=t.text.size)(d:TK body i=false):Y4 body i=WF t:=by
 unfold Y4;rw[WS h,d,show decide (t.sort=1)=true from by simpa using a];exact NS t b c
theorem NT {i:Nat}{t:Tk}(h:body[i]?=J t)(a:TK body i=true):Y4 body i=Yy t:=by
 unfold Y4;rw[WS h,a];simp[Yy]
end
/-! ### Blanks -/
def Td (s:Bs):Prop:=Ug s=false
theorem I6 {s:Bs}(h:Td s):(s==[59])=false/\(s==[46,46])=false:=by
 unfold Td Ug at h;simp only[Bool.or_eq_false_iff]at h;exact⟨h.1.1.1,h.2⟩
theorem Z3 {s:Bs}(h:Td s)(r:List Bs):ZT false false (s::r)=32::(s++ZT false false r)/\ZT true false (s::r)=s++ZT false false r/\ZT false true (s::r)=s++ZT false false r:=by
 have a:=(I6 h).1;have b:=(I6 h).2;have c:Ug s=false:=h
 refine⟨?_,?_,?_⟩<;>simp[ZT,a,b,c]
theorem JT (f g:Bool)(r:List Bs):ZT f g ([44]::r)=44::ZT false false r:=by simp[ZT,Ug]
theorem JU (f g:Bool)(r:List Bs):ZT f g ([58]::r)=58::ZT false false r:=by simp[ZT,Ug]
theorem NU (f g:Bool)(r:List Bs):ZT f g ([46,46]::r)=46::46::ZT false true r:=by simp[ZT,Ug]
theorem NV (f g:Bool)(r:List Bs):ZT f g ([59]::r)=59::10::ZT true false r:=by simp[ZT,Ug]
structure Jf (body:List Tk):Prop where
 lit:∀t,t∈body->Vh t
 ns:∀t,t∈body->t.sort≠3
 dg:∀t,t∈body->t.sort=1->Dg t.text/\1<=t.text.size
section
variable {body:List Tk} {en:Tk}
theorem M6 (a:Tk->Bs)(l:List Tk):(UR a l).length=2*l.length:=by
 induction l with
 |nil=>rfl
 |cons t r b=>
  have e:UR a (t::r)=[[44],a t]++UR a r:=by simp[UR]
  rw[e,lA,b];simp;omega
theorem VW (c:Jf body){i:Nat}{t:Tk}(h:body[i]?=J t)(a:t.sort=1)(d:TK body i=false):Y4 body i=WF t:=by
 have b:=c.dg t (mG h) a;exact GP h a b.1 b.2 d
theorem EC (n:en.sort=3){a:Nat}(u:a≠3)(d:Tk->Bs)(g:∀i t f,body[i]?=J f->(f.text.toList==[44])=true->body[i+1]?=J t->t.sort=a->Y4 body (i+1)=d t):
  ∀(m i:Nat)(c l:List Tk)(k:Nat),(body++[en]).length-i=m->We (body++[en]) i a c=.ok (l,k)->∃r,l=c++r/\WV body i (UR d r)/\k=i+2*r.length:=by
 intro m
 induction m using Nat.strongRecOn with
 |ind m v=>
  intro i c l k B b;rw[We]at b
  split at b
  ·rename_i o
   have w:=Uv o
   split at b
   ·cases b
   ·rename_i t p x
    obtain⟨h,j,y⟩:=ZU n u x;obtain⟨r,z,q,C⟩:=v ((body++[en]).length-p) (by omega) p _ l k rfl b;obtain⟨f,c1,s,A⟩:=VV n o;refine⟨t::r,by rw[z,K];rfl,?_,by simp only[I];omega⟩
    have e:UR d (t::r)=[44]::d t::UR d r:=by simp[UR]
    rw[e];refine WV.cons (XC c1 A s) (WV.cons (g i t f c1 s h j) ?_);rw[y]at q;exact q
  ·injection b with b
   injection b with h j;subst h j;exact⟨[],by simp,WV.nil _ _,by simp⟩
theorem C6 (c:Jf body):∀i t a,body[i]?=J a->(a.text.toList==[44])=true->body[i+1]?=J t->t.sort=1->Y4 body (i+1)=WF t:=fun _ _ _ d b e f=>VW c e f (Us d (Vk b (by decide)) (Vk b (by decide)))
theorem I7:∀i t a,body[i]?=J a->(a.text.toList==[44])=true->body[i+1]?=J t->t.sort=0->Y4 body (i+1)=Yy t:=fun _ _ _ _ _ b c=>Vl b (by omega)
theorem Oh (d:en.sort=3){a:Nat}(e:a≠3)(b:Tk->Bs)(c:∀i t f,body[i]?=J f->(f.text.toList==[44])=true->body[i+1]?=J t->t.sort=a->Y4 body (i+1)=b t){i:Nat}{l:List Tk}{k:Nat}
  (j:∀t,body[i]?=J t->t.sort=a->Y4 body i=b t)(h:Xi (body++[en]) i a=.ok (l,k)):WV body i (RN b l)/\k=i+(RN b l).length/\l≠[]:=by
 unfold Xi at h
 split at h
 ·cases h
 ·rename_i t m n
  obtain⟨o,p,q⟩:=ZU d e n;obtain⟨r,s,g,v⟩:=EC d e b c _ m [t] l k rfl h;have u:l=t::r:=s;subst u;rw[q]at g;refine⟨WV.cons (j t o p) g,?_,by simp⟩;simp only[RN,I,M6];omega
theorem QU (d:en.sort=3)(f:Jf body){i:Nat}{kw:ByteArray}(a:(kw.data.toList==[98,105,110])=false)(b:(kw.data.toList==[46,46])=false){l:List Tk}{k:Nat}(h:YM (body++[en]) i kw=.ok (l,k)):WV body i (YP kw.data.toList l)/\k=i+(YP kw.data.toList l).length:=by
 unfold YM at h
 split at h
 ·rename_i j
  obtain⟨t,g,c,m⟩:=VV d j;obtain⟨n,r,o⟩:=Oh d (by decide) WF (C6 f) (i:=i+1) (fun s p q=>VW f p q (Us g (Vk c a) (Vk c b))) h
  have e:YP kw.data.toList l=kw.data.toList::RN WF l:=by simp[YP,o]
  rw[e];exact⟨WV.cons (XC g m c) n,by simp only[I];omega⟩
 ·injection h with h
  injection h with a b;subst a b;exact⟨WV.nil _ _,by simp[YP]⟩
theorem L6 (f:en.sort=3)(n:Jf body){i:Nat}{o:Option (Tk×Tk)}{k:Nat}(h:XR (body++[en]) i ZS=.ok (o,k)):WV body i (EA o)/\k=i+(EA o).length:=by
 unfold XR at h
 split at h
 ·rename_i s
  obtain⟨t,l,g,u⟩:=VV f s;obtain⟨N,j,c,e⟩:=bI h;injection e with e;injection e with v w;subst v w;rw[Wk]at c;obtain⟨a,O,x,c⟩:=bI c;obtain⟨_,y,z,c⟩:=bI c;obtain⟨b,P,A,c⟩:=bI c;injection c with c;injection c with m B;obtain⟨C,D,E⟩:=ZU f (by decide) x;obtain⟨⟨F,p,q,G⟩,Q⟩:=YD f z;obtain⟨r,H,R⟩:=ZU f (by decide) A;subst m;rw[E]at p
  have K:y=i+3:=by omega
  rw[K]at r;have d:body[i+2]?=J F:=p;refine⟨WV.cons (XC l u g) (WV.cons (VW n C D (Us l (Vk g (by decide)) (Vk g (by decide)))) (WV.cons (XC d G q) (WV.one (VW n r H (GN d l (Vk q (by decide)) (Vk g (by decide))))))),by simp only[EA,I,S];omega⟩
 ·injection h with h
  injection h with L M;subst L M;exact⟨WV.nil _ _,by simp[EA]⟩
theorem JV (d:en.sort=3){i:Nat}{a:Rv}{k:Nat}(h:Xj (body++[en]) i=.ok (a,k)):WV body i (Po a)/\k=i+(Po a).length:=by
 unfold Xj at h
 split at h
 ·rename_i f
  obtain⟨t,m,n,o⟩:=VV d f;injection h with h;injection h with b c;subst b c;exact⟨WV.one (XC m o n),rfl⟩
 ·split at h
  ·rename_i f
   obtain⟨t,m,n,o⟩:=VV d f;obtain⟨l,j,g,e⟩:=bI h;injection e with e;injection e with b c;subst b c;obtain⟨p,r,_⟩:=Oh d (by decide) Yy I7 (i:=i+1) (fun s q u=>Vl q (by omega)) g;exact⟨WV.cons (XC m o n) p,by simp[Po];omega⟩
  ·obtain⟨l,j,g,e⟩:=bI h
   injection e with e;injection e with b c;subst b c;obtain⟨p,r,_⟩:=Oh d (by decide) Yy I7 (i:=i) (fun s q u=>Vl q (by omega)) g;exact⟨p,by simpa[Po]using r⟩
theorem Oi (a:Jf body){i:Nat}{t:Tk}(h:body[i]?=J t)(b:t.sort≠2):No t [98,105,110]=false/\No t [46,46]=false:=
 ⟨Qm (a.lit t (Z h)) b (m:=SA) (by simp[YO]),Qm (a.lit t (Z h)) b (m:=Vb) (by simp[YO])⟩
theorem GQ (e:en.sort=3)(d:Jf body){i:Nat}{r:Vp}{k:Nat}(h:WE (body++[en]) i=.ok (r,k)):WV body i [Yy r.name,WF r.base,WF r.rate]/\k=i+3:=by
 unfold WE at h;obtain⟨a,w,n,h⟩:=bI h;obtain⟨b,x,o,h⟩:=bI h;obtain⟨c,y,p,h⟩:=bI h;injection h with h;injection h with q s;subst q s;obtain⟨f,j,t⟩:=ZU e (by decide) n;obtain⟨g,l,u⟩:=ZU e (by decide) o;obtain⟨c1,v,z⟩:=ZU e (by decide) p;subst t;subst u;have m:=Oi d f (by rw[j];decide);have n2:=Oi d g (by rw[l];decide);exact⟨WV.cons (Vl f (by rw[j];decide)) (WV.cons (VW d g l (Us f m.1 m.2)) (WV.one (VW d c1 v (Us g n2.1 n2.2)))),by omega⟩
theorem ED (a:en.sort=3)(c:Jf body){i:Nat}{r:XX}{k:Nat}(h:Wf (body++[en]) i=.ok (r,k)):
  WV body i ([Yy r.name,WF r.rank,[58],[98,105,110],Yy r.bin.1,[46,46],Yy r.bin.2]++(YP [109,99,99] r.mcc++(EA r.amount++(YP [99,117,114] r.cur++([45,62]::Po r.act)))))/\
   k=i+([Yy r.name,WF r.rank,[58],[98,105,110],Yy r.bin.1,[46,46],Yy r.bin.2]++(YP [109,99,99] r.mcc++(EA r.amount++(YP [99,117,114] r.cur++([45,62]::Po r.act))))).length:=by
 unfold Wf at h;obtain⟨nm,j1,A,h⟩:=bI h;obtain⟨rk,j2,B,h⟩:=bI h;obtain⟨_,j3,C,h⟩:=bI h;obtain⟨_,j4,D,h⟩:=bI h;obtain⟨bn,j5,b,h⟩:=bI h;obtain⟨e,p,E,h⟩:=bI h;obtain⟨am,f,F,h⟩:=bI h;obtain⟨g,q,G,h⟩:=bI h;obtain⟨_,j9,H,h⟩:=bI h;obtain⟨ac,K,j,h⟩:=bI h;injection h with h;injection h with L M;subst L M;obtain⟨l,s,N⟩:=ZU a (by decide) A;obtain⟨O,P,Q⟩:=ZU a (by decide) B;obtain⟨⟨tc,c1,R,T⟩,U⟩:=YD a C;obtain⟨⟨tb,m,n,W⟩,X⟩:=YD a D;rw[Wk]at b;obtain⟨p1,q1,Y,b⟩:=bI b;obtain⟨_,q2,Z,b⟩:=bI b;obtain⟨p2,q3,x3,b⟩:=bI b;injection b with b;injection b with f1 f2;obtain⟨y1,y2,y3⟩:=ZU a (by decide) Y;obtain⟨⟨td,t,u,z4⟩,z3⟩:=YD a Z;obtain⟨u1,u2,u3⟩:=ZU a (by decide) x3;obtain⟨s6,v⟩:=QU a c (kw:=Wc) (by decide) (by decide) E;obtain⟨s7,l7⟩:=L6 a c F;obtain⟨s8,w⟩:=QU a c (kw:=WD) (by decide) (by decide) G;obtain⟨⟨ta,t1,t2,t4⟩,t3⟩:=YD a H;obtain⟨d,a0⟩:=JV a j;subst f1;subst N Q U X y3 z3 u3 f2;have x:=Oi c l (by rw[s];decide);have o:body[i+5]?=J td:=t
 have hd:Y4 body (i+6)=Yy p2:=by
  refine NT u1 ?_;exact GO (i:=i+3) o m (Og u) (Og n)
 rw[t3]at d;refine⟨WV.append ?_ (WV.append s6 ?_),?_⟩
 ·exact WV.cons (Vl l (by rw[s];decide)) (WV.cons (VW c O P (Us l x.1 x.2)) (WV.cons (XC c1 T R) (WV.cons (XC m W n) (WV.cons (NT y1 (EB m (Og n))) (WV.cons (XC t z4 u) (WV.one hd))))))
 ·have y:i+1+1+1+1+1+1+1+(YP Wc.data.toList e).length=p:=v.symm
  show WV body (i+1+1+1+1+1+1+1+(YP Wc.data.toList e).length) _
  rw[y];refine WV.append s7 ?_;rw[<-l7];refine WV.append s8 ?_;have z:f+(YP [99,117,114] g).length=q:=w.symm
  show WV body (f+(YP [99,117,114] g).length) _
  rw[z];exact WV.cons (XC t1 t4 t2) d
 ·simp only[V,I,S]
  have y:p=i+1+1+1+1+1+1+1+(YP [109,99,99] e).length:=v;have z:q=f+(YP [99,117,114] g).length:=w;omega
end
section
variable {body:List Tk} {en:Tk}
theorem NW (r:XX):Of (.rule r)=[114,117,108,101]::(([Yy r.name,WF r.rank,[58],[98,105,110],Yy r.bin.1,[46,46],Yy r.bin.2]++(YP [109,99,99] r.mcc++(EA r.amount++(YP [99,117,114] r.cur++([45,62]::Po r.act)))))++[[59]]):=by
 simp[Of]
theorem NX (b:en.sort=3)(q:Jf body){i:Nat}{e:Yk}{j k:Nat}{u:Unit}(h:Z5 (body++[en]) i=.ok (e,j))(w:ZG (body++[en]) j WK=.ok (u,k)):WV body i (Of e)/\k=i+(Of e).length/\k<=body.length:=by
 obtain⟨⟨D,s,x,y⟩,E⟩:=YD b w
 have v:k<=body.length:=by have:=(iG.1 s).1;omega
 have a:Y4 body j=[59]:=XC s y x;unfold Z5 at h
 split at h
 ·rename_i z
  obtain⟨t,d,f,l⟩:=VV b z;obtain⟨r,F,g,m⟩:=bI h;injection m with m;injection m with n o;subst n o;obtain⟨p,c⟩:=GQ b q g;refine⟨?_,by simp only[Of,I,S];omega,v⟩
  show WV body i ([114,111,117,116,101]::([Yy r.name,WF r.base,WF r.rate]++[[59]]))
  refine WV.cons (XC d l f) (WV.append p (WV.one ?_))
  show Y4 body (i+1+3)=_
  rw[<-c];exact a
 ·obtain⟨_,G,A,h⟩:=bI h
  obtain⟨r,H,B,h⟩:=bI h;injection h with h;injection h with n o;subst n o;obtain⟨⟨t,d,f,l⟩,C⟩:=YD b A;subst C;obtain⟨p,c⟩:=ED b q B;rw[NW];refine⟨WV.cons (XC d l f) (WV.append p (WV.one ?_)),?_,v⟩
  ·rw[<-c];exact a
  ·simp only[I,V,S]at c ⊢
   omega
theorem GR (t:en.sort=3)(o:Jf body):∀(m i:Nat)(c g:List Yk)(k:Nat),(body++[en]).length-i=m->i<=body.length->Zu (body++[en]) i c=.ok (g,k)->∃d,g=c++d/\WV body i (d.flatMap Of)/\k=i+(d.flatMap Of).length/\k=body.length:=by
 intro m
 induction m using Nat.strongRecOn with
 |ind m v=>
  intro i c g k w D b;by_cases f:(Zs (body++[en]) i).sort=3
  ·rw[X1 f]at b
   injection b with b;injection b with p q;subst p q;refine⟨[],by simp,WV.nil _ _,by simp,?_⟩;rcases Nat.lt_or_ge i body.length with h|h
   ·exfalso
    exact X7 o.ns (gE h) f
   ·omega
  ·cases a:Z5 (body++[en]) i with
   |error l=>rw[Y2 f a]at b;cases b
   |ok r=>
    obtain⟨e,j⟩:=r
    cases n:ZG (body++[en]) j WK with
    |error l=>rw[Xx f a n]at b;cases b
    |ok r=>
     obtain⟨u,s⟩:=r;rw[Wx f a n]at b;have p:=Vc a;have q:=YB n;obtain⟨x,y,z⟩:=NX t o a n;obtain⟨d,A,B,E,C⟩:=v ((body++[en]).length-s) (by simp only[V,I,S]at w ⊢;omega) s _ g k rfl z b;refine⟨e::d,by rw[A,K];rfl,?_,?_,C⟩
     ·rw[Y]
      exact WV.append x (by rw[<-y];exact B)
     ·rw[Y,lA]
      omega
theorem M7 (c:en.sort=3)(d:Jf body){a:List Yk}{k:Nat}(e:Zu (body++[en]) 0 []=.ok (a,k)):Vz body body.length=ZT true false (a.flatMap Of):=by
 obtain⟨f,g,b,i,j⟩:=GR c d _ 0 [] a k rfl (Nat.zero_le _) e;have h:a=f:=g;subst h;unfold WV at b;unfold Vz;rw[show body.length=(a.flatMap Of).length from by omega,b]
end
/-! ### Blanks -/
theorem L7 (u:Nat):Td (Lib.decDigits u):=by
 unfold Td Ug;by_cases h:u<10
 ·rw[Ur h]
  have b:∀v:Nat,v<10->(([P (48+v)]==[59]||[P (48+v)]==[44]||[P (48+v)]==[58]||[P (48+v)]==[46,46])=false):=by decide
  exact b u h
 ·rw[Py h]
  have i:1<=(Lib.decDigits (u/10)).length:=by
   rcases Nat.eq_zero_or_pos (Lib.decDigits (u/10)).length with d|d
   ·exact absurd (List.length_eq_zero_iff.1 d) (MX _)
   ·exact d
  have a:∀c:UInt8,(Lib.decDigits (u/10)++[P (48+u % 10)]==[c])=false:=fun c=>by
   rw[O];intro e
   have f:Lib.decDigits (u/10)++[P (48+u % 10)]=[c]:=by simpa using e
   have:=congrArg List.length f;simp at this;exact MX _ this
  rw[a,a,a];rw[U,U,U,O];intro e
  have f:Lib.decDigits (u/10)++[P (48+u % 10)]=[46]++[46]:=by simpa using e
  have g:=(List.append_inj_right' f rfl)
  have b:∀v:Nat,v<10->[P (48+v)]≠[46]:=by decide
  exact b (u % 10) (by omega) g
theorem Te (t:Tk):Td (WF t):=L7 _
theorem EE {t:Tk}(a:Vh t)(b:t.sort≠2):Td (Yy t):=by
 have h:∀m,m∈YO->(Yy t==m.data.toList)=false:=fun m c=>by
  have:=Qm a b c;unfold No at this;rw[ByteArray.toList_eq]at this;exact this
 unfold Td Ug;have d:=h WK (by simp[YO]);have e:=h Yq (by simp[YO]);have f:=h UZ (by simp[YO]);have g:=h Vb (by simp[YO]);have i:(Yy t==[59])=false:=d;have j:(Yy t==[44])=false:=e;have k:(Yy t==[58])=false:=f;have l:(Yy t==[46,46])=false:=g;rw[i,j,k,l];rfl
def Qn (a:Tk->Bs):List Tk->Bs
 |[]=>[]
 |t::r=>a t++r.flatMap fun u=>44::32::a u
theorem NY (a:Tk->Bs):∀(r:List Tk)(R:List Bs),(∀t,t∈r->Td (a t))->ZT false false (UR a r++R)=(r.flatMap fun u=>44::32::a u)++ZT false false R
 |[],R,_=>rfl
 |t::r,R,h=>by
  have e:UR a (t::r)++R=[44]::a t::(UR a r++R):=by simp[UR]
  rw[e,JT,(Z3 (h t (by simp)) _).1,NY a r R (fun u b=>h u (by simp[b]))];simp
theorem Qo (a:Tk->Bs)(l:List Tk)(R:List Bs)(b:l≠[])(h:∀t,t∈l->Td (a t)):ZT false false (RN a l++R)=32::(Qn a l++ZT false false R):=by
 cases l with
 |nil=>exact absurd rfl b
 |cons t r=>
  show ZT false false (a t::(UR a r++R))=_
  rw[(Z3 (h t (by simp)) _).1,NY a r R (fun u c=>h u (by simp[c]))];simp[Qn]
def Qp (kw:Bs)(l:List Tk):Bs:=if l=[]then[]else 32::(kw++32::Qn WF l)
theorem Oj (kw:Bs)(a:Td kw)(l:List Tk)(R:List Bs):ZT false false (YP kw l++R)=Qp kw l++ZT false false R:=by
 unfold YP Qp;by_cases h:l=[]
 ·simp[h]
 ·rw[if_neg h,if_neg h,List.cons_append,(Z3 a _).1,Qo WF l R h (fun t _=>L7 _)]
  simp
def Aa:Option (Tk×Tk)->Bs
 |none=>[]
 |some a=>[32,97,109,111,117,110,116,32]++(WF a.1++(46::46::WF a.2))
theorem D2 (o:Option (Tk×Tk))(R:List Bs):ZT false false (EA o++R)=Aa o++ZT false false R:=by
 cases o with
 |none=>rfl
 |some a=>
  show ZT false false ([97,109,111,117,110,116]::WF a.1::[46,46]::WF a.2::R)=_
  rw[(Z3 (s:=[97,109,111,117,110,116]) rfl _).1,(Z3 (Te a.1) _).1,NU,(Z3 (Te a.2) _).2.2];simp[Aa]
def EF (a:Rv):Bs:=if a.decline then[32,100,101,99,108,105,110,101]else(if a.cheapest then[32,99,104,101,97,112,101,115,116]else[])++32::Qn Yy a.routes
theorem EG (a:Rv)(R:List Bs)(h:a.decline=false->a.routes≠[])(b:∀t,t∈a.routes->Td (Yy t)):ZT false false (Po a++R)=EF a++ZT false false R:=by
 unfold Po EF
 cases c:a.decline with
 |true=>
  show ZT false false ([100,101,99,108,105,110,101]::R)=_
  rw[(Z3 (s:=[100,101,99,108,105,110,101]) rfl _).1];rfl
 |false=>
  cases d:a.cheapest with
  |true=>
   show ZT false false ([99,104,101,97,112,101,115,116]::(RN Yy a.routes++R))=_
   rw[(Z3 (s:=[99,104,101,97,112,101,115,116]) rfl _).1,Qo Yy a.routes R (h c) b];simp
  |false=>
   show ZT false false (RN Yy a.routes++R)=_
   rw[Qo Yy a.routes R (h c) b];simp
def L8:Yk->Bs
 | .route r=>[114,111,117,116,101,32]++(Yy r.name++(32::(WF r.base++(32::(WF r.rate++[59,10])))))
 | .rule r=>[114,117,108,101,32]++(Yy r.name++(32::(WF r.rank++(58::([32,98,105,110,32]++(Yy r.bin.1++(46::46::(Yy r.bin.2++(Qp [109,99,99] r.mcc++(Aa r.amount++(Qp [99,117,114] r.cur++([32,45,62]++(EF r.act++[59,10])))))))))))))
def EH:Yk->Prop
 | .route r=>Td (Yy r.name)
 | .rule r=>Td (Yy r.name)/\Td (Yy r.bin.1)/\Td (Yy r.bin.2)/\(r.act.decline=false->r.act.routes≠[])/\∀t,t∈r.act.routes->Td (Yy t)
theorem EI (e:Yk)(R:List Bs)(h:EH e):ZT true false (Of e++R)=L8 e++ZT true false R:=by
 cases e with
 |route r=>
  show ZT true false ([114,111,117,116,101]::Yy r.name::WF r.base::WF r.rate::[59]::R)=_
  rw[(Z3 (s:=[114,111,117,116,101]) rfl _).2.1,(Z3 h _).1,(Z3 (Te r.base) _).1,(Z3 (Te r.rate) _).1,NV];simp[L8]
 |rule r=>
  obtain⟨a,b,c,d,f⟩:=h;rw[NW];have e:([114,117,108,101]::(([Yy r.name,WF r.rank,[58],[98,105,110],Yy r.bin.1,[46,46],Yy r.bin.2]++(YP [109,99,99] r.mcc++(EA r.amount++(YP [99,117,114] r.cur++([45,62]::Po r.act)))))++[[59]]))++R=
    [114,117,108,101]::Yy r.name::WF r.rank::[58]::[98,105,110]::Yy r.bin.1::[46,46]::Yy r.bin.2::(YP [109,99,99] r.mcc++(EA r.amount++(YP [99,117,114] r.cur++([45,62]::(Po r.act++([59]::R)))))):=by simp
  rw[e,(Z3 (s:=[114,117,108,101]) rfl _).2.1,(Z3 a _).1,(Z3 (Te r.rank) _).1,JU,(Z3 (s:=[98,105,110]) rfl _).1,(Z3 b _).1,NU,(Z3 c _).2.2,
   Oj [109,99,99] rfl,D2,Oj [99,117,114] rfl,(Z3 (s:=[45,62]) rfl _).1,EG _ _ d f,NV]
  simp[L8]
theorem NZ:∀(a:List Yk),(∀e,e∈a->EH e)->ZT true false (a.flatMap Of)=a.flatMap L8
 |[],_=>rfl
 |e::a,h=>by
  rw[Y,EI e _ (h e (by simp)),NZ a (fun x b=>h x (by simp[b]))];rfl
