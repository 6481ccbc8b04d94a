import Derived.Test.YtccikgogjfbpeaaGreatDoorQy
open List renaming mem_append->I,append_assoc->S,length_cons->V,length_append->Z,flatMap_cons->U,length_nil->K,map_cons->O
open Nat renaming strongRecOn->J,lt_or_ge->Y,zero_le->E
open Option renaming some->P,none->H
namespace Go.Proofs.YtccikgogjfbpeaaGreatDoor
set_option maxRecDepth 30000
set_option maxHeartbeats 8000000
def Z6 (n:Nat):Bs:=Lib.decDigits n
def Tf (n a:Nat):Bs:=List.replicate (a-(Z6 n).length) 48++Z6 n
def Y6:List Bs->Bs
 |[]=>[]
 |x::r=>x++r.flatMap fun u=>44::32::u
def gJ (kw:Bs)(l:List Nat):Bs:=if l=[]then[]else 32::(kw++32::Y6 (l.map Z6))
def aJ:Option (Nat×Nat)->Bs
 |none=>[]
 |some a=>[32,97,109,111,117,110,116,32]++(Z6 a.1++(46::46::Z6 a.2))
def Z1 (a:List Zd)(p:Nat):Bs:=((a[p]?).map fun x=>x.name.data.toList).getD []
def BK (a:List Zd)(r:Zc):Bs:=if r.decline then[32,100,101,99,108,105,110,101]else(if r.cheapest then[32,99,104,101,97,112,101,115,116]else[])++32::Y6 (r.routes.map (Z1 a))
def Uh (r:Zd):Bs:=[114,111,117,116,101,32]++(r.name.data.toList++(32::(Z6 r.base++(32::(Z6 r.rate++[59,10])))))
def Qq (a:List Zd)(r:Zc):Bs:=[114,117,108,101,32]++(r.name.data.toList++(32::(Z6 r.rank++(58::([32,98,105,110,32]++(Tf r.lo r.digits++(46::46::(Tf r.hi r.digits++(gJ [109,99,99] r.mcc++(aJ r.am++(gJ [99,117,114] r.cur++([32,45,62]++(BK a r++[59,10])))))))))))))
def XZ (a:List Zd)(b:Nat):List Zc->Bs
 |[]=>(a.drop b).flatMap Uh
 |r::rs=>((a.take r.ahead).drop b).flatMap Uh++(Qq a r++XZ a r.ahead rs)
def V8 (a:List Zd)(b:List Zc):Bs:=XZ a 0 b
theorem Ok (a:Tk->Bs)(l:List Tk):Y6 (l.map a)=Qn a l:=by
 cases l with
 |nil=>rfl
 |cons t r=>simp[Y6,Qn,List.flatMap_map]
theorem CN (kw:Bs)(l:List Tk):gJ kw (l.map Ze)=Qp kw l:=by
 unfold gJ Qp
 have e:(l.map Ze).map Z6=l.map WF:=by rw[List.map_map];rfl
 rw[e,Ok]
 cases l<;>simp
theorem N0 (a:ByteArray):∀(l:List Zd)(i:Nat),0<=Zk a i l->∃x,l[(Zk a i l).toNat-i]?=P x/\x.name.data.toList=a.data.toList/\i<=(Zk a i l).toNat/\(Zk a i l).toNat<i+l.length
 |[],i,h=>by simp[Zk]at h
 |y::r,i,h=>by
  simp only[Zk]at h ⊢;by_cases b:(y.name.toList==a.toList)=true
  ·rw[if_pos b]
   have e:y.name.toList=a.toList:=by simpa using b
   rw[ByteArray.toList_eq,ByteArray.toList_eq]at e;exact⟨y,by simp,e,by simp,by simp⟩
  ·rw[if_neg b]at h ⊢
   obtain⟨x,c,d,f,g⟩:=N0 a r (i+1) h;refine⟨x,?_,d,by omega,by simp only[V];omega⟩;rw[show(Zk a (i+1) r).toNat-i=((Zk a (i+1) r).toNat-(i+1))+1 from by omega]
   simpa using c
theorem Qr (a:List Zd):∀(l:List Tk)(i:Nat)(b:List Nat),ZC a i l=.ok b->b.map (Z1 a)=l.map Yy/\∀p,p∈b->p<a.length
 |[],i,b,h=>by simp[ZC]at h;subst h;simp
 |t::r,i,b,h=>by
  simp only[ZC]at h;by_cases e:i=4
  ·rw[if_pos e]at h;cases h
  rw[if_neg e]at h;by_cases g:Zk t.text 0 a<0
  ·rw[if_pos g]at h;cases h
  rw[if_neg g]at h
  cases d:ZC a (i+1) r with
  |error f=>rw[d]at h;cases h
  |ok k=>
   rw[d]at h;injection h with h;subst h;obtain⟨m,n⟩:=Qr a r (i+1) k d;obtain⟨x,j,o,_,q⟩:=N0 t.text a 0 (by omega);rw[Nat.sub_zero]at j;refine⟨?_,fun p c=>?_⟩
   ·rw[O,O,m]
    congr 1
    unfold Z1;rw[j];exact o
   ·rcases List.mem_cons.1 c with c|c
    ·rw[c];omega
    ·exact n p c
theorem D3 {a:List Zd}{i:List Zc}{e:XX}{r:Zc}(h:Ym a i e=.ok r)(n:Dg e.bin.1.text)(o:Dg e.bin.2.text)(q:1<=e.bin.1.text.size)(s:1<=e.bin.2.text.size):Qq a r=L8 (.rule e)/\r.ahead=a.length/\∀p,p∈r.routes->p<a.length:=by
 unfold Ym at h
 split at h
 ·cases h
 split at h
 ·cases h
 split at h
 ·cases h
 split at h
 ·cases h
 split at h
 ·cases h
 rename_i t
 split at h
 ·cases h
 cases j:Zr 9999 0 e.mcc with
 |error f=>rw[j]at h;cases h
 |ok b=>
  rw[j]at h
  dsimp only at h
  split at h
  ·cases h
  cases k:Zr 999 0 e.cur with
  |error f=>rw[k]at h;cases h
  |ok c=>
   rw[k]at h
   dsimp only at h
   cases l:ZC a 0 e.act.routes with
   |error f=>rw[l]at h;cases h
   |ok m=>
    rw[l]at h;injection h with h;subst h;have u:=(Wo 9999 e.mcc 0 (by omega)).2 b j;have v:=(Wo 999 e.cur 0 (by omega)).2 c k;obtain⟨w,x⟩:=Qr a e.act.routes 0 m l;refine⟨?_,rfl,x⟩
    have d:e.bin.2.text.size=e.bin.1.text.size:=by omega
    have y:Tf (Ze e.bin.1) e.bin.1.text.size=Yy e.bin.1:=(RK e.bin.1 n q).1
    have z:Tf (Ze e.bin.2) e.bin.1.text.size=Yy e.bin.2:=by rw[<-d];exact(RK e.bin.2 o s).1
    have A:aJ (e.amount.map fun g=>(Ze g.1,Ze g.2))=Aa e.amount:=by cases e.amount<;>rfl
    have B:BK a ⟨e.name.text,Ze e.rank,e.bin.1.text.size,Ze e.bin.1,Ze e.bin.2,b,e.amount.map (fun g=>(Ze g.1,Ze g.2)),c,e.act.decline,e.act.cheapest,m,a.length⟩=EF e.act:=by
     unfold BK EF
     dsimp only
     rw[w,Ok]
    unfold Qq L8
    dsimp only
    rw[y,z,A,B,u,v,CN,CN];rfl
theorem D4 {a:List Zd}{e:Vp}{t:Zd}(h:ZJ a e=.ok t)(b:a.length<=6):Uh t=L8 (.route e):=by
 have c:=(UQ a e b).2 t h;subst c;rfl
/-! ### The book grows -/
def D5 (a:List Zd)(b:List Zc):Prop:=∀r,r∈b->r.ahead<=a.length/\∀p,p∈r.routes->p<a.length
theorem L9 {a:List Zd}{t:Zd}{p:Nat}(h:p<a.length):Z1 (a++[t]) p=Z1 a p:=by
 unfold Z1;rw[List.getElem?_append_left h]
theorem GS {a:List Zd}{t:Zd}{r:Zc}(h:∀p,p∈r.routes->p<a.length):Qq (a++[t]) r=Qq a r:=by
 have e:r.routes.map (Z1 (a++[t]))=r.routes.map (Z1 a):=List.map_congr_left fun p b=>L9 (h p b)
 unfold Qq BK;rw[e]
theorem Ol (b:List Zd)(t:Zd):∀(c:List Zc)(a:Nat),a<=b.length->D5 b c->XZ (b++[t]) a c=XZ b a c++Uh t
 |[],a,h,_=>by
  simp only[XZ];rw[List.drop_append_of_le_length h,List.flatMap_append];simp
 |r::rs,a,h,hk=>by
  have d:=hk r (by simp);simp only[XZ];rw[List.take_append_of_le_length d.1,GS d.2,Ol b t rs r.ahead d.1 (fun x e=>hk x (by simp[e]))];simp
theorem N7 (b:List Zd)(r:Zc)(d:r.ahead=b.length):∀(c:List Zc)(a:Nat),XZ b a (c++[r])=XZ b a c++Qq b r
 |[],a=>by
  simp only[XZ,List.nil_append];rw[d,List.take_length,List.drop_length];simp
 |x::rs,a=>by
  simp only[XZ,List.cons_append];rw[N7 b r d rs x.ahead];simp
def GT:Yk->Prop
 | .route _=>True
 | .rule r=>1<=r.bin.1.text.size/\1<=r.bin.2.text.size
theorem Rc:∀(g:List Yk)(a:List Zd)(b:List Zc)(p:List Zd×List Zc),a.length<=6->Xz (a.map Zd.name)->D5 a b->(∀x,x∈g->WL x/\GT x)->ZZ a b g=.ok p->V8 p.1 p.2=V8 a b++g.flatMap L8
 |[],a,b,p,_,_,_,_,h=>by
  simp only[ZZ]at h;injection h with h;subst h;simp
 | .route e::g,a,b,p,h6,hd,hk,ho,h=>by
  cases c:ZJ a e with
  |error f=>rw[Xr (f:=f) (by simp only[VT,c])]at h;cases h
  |ok t=>
   rw[X4 (p:=(a++[t],b)) (by simp only[VT,c])]at h;have j:=Vy h6 hd c
   have i:D5 (a++[t]) b:=fun r d=>⟨by have:=(hk r d).1;simp;omega,fun q c=>by have:=(hk r d).2 q c;simp;omega⟩
   have:=Rc g (a++[t]) b p j.2 j.1 i (fun x m=>ho x (by simp[m])) h;rw[this];unfold V8;rw[Ol a t b 0 (E _) hk,D4 c h6,U,S]
 | .rule e::g,a,b,p,h6,hd,hk,ho,h=>by
  have n:=ho (.rule e) (by simp)
  cases c:Ym a b e with
  |error f=>rw[Xr (f:=f) (by simp only[VT,c])]at h;cases h
  |ok t=>
   rw[X4 (p:=(a,b++[t])) (by simp only[VT,c])]at h;have k:WL (.rule e):=n.1;have l:1<=e.bin.1.text.size/\1<=e.bin.2.text.size:=n.2;obtain⟨o,s,u⟩:=D3 c k.2.2.1 k.2.2.2.1 l.1 l.2
   have i:D5 a (b++[t]):=fun r d=>by
    rcases I.1 d with d|d
    ·exact hk r d
    ·simp at d
     subst d;exact⟨by omega,u⟩
   have:=Rc g a (b++[t]) p h6 hd i (fun x m=>ho x (by simp[m])) h;rw[this];unfold V8;rw[N7 a t s b 0,o,U,S]
section
variable {body:List Tk} {en:Tk}
theorem EJ (j:en.sort=3){a:Nat}(n:a≠3){Q:Tk->Prop}(o:∀t,t∈body->t.sort=a->Q t):∀(m i:Nat)(c l:List Tk)(k:Nat),(body++[en]).length-i=m->(∀t,t∈c->Q t)->We (body++[en]) i a c=.ok (l,k)->∀t,t∈l->Q t:=by
 intro m
 induction m using J with
 |ind m p=>
  intro i c l k v f b;rw[We]at b
  split at b
  ·rename_i q
   have r:=Uv q
   split at b
   ·cases b
   ·rename_i t g s
    obtain⟨e,h,w⟩:=ZU j n s;refine p ((body++[en]).length-g) (by omega) g _ l k rfl (fun u d=>?_) b;rcases I.1 d with d|d
    ·exact f u d
    ·simp at d;subst d;exact o u (mG e) h
  ·injection b with b
   injection b with e h;subst e;exact f
theorem Ka (b:en.sort=3){a:Nat}(c:a≠3){Q:Tk->Prop}(d:∀t,t∈body->t.sort=a->Q t){i:Nat}{l:List Tk}{k:Nat}(h:Xi (body++[en]) i a=.ok (l,k)):(∀t,t∈l->Q t)/\l≠[]:=by
 unfold Xi at h
 split at h
 ·cases h
 ·rename_i t e g
  obtain⟨j,m,_⟩:=ZU b c g;refine⟨EJ b c d _ e [t] l k rfl (fun u f=>by simp at f;subst f;exact d u (mG j) m) h,?_⟩;obtain⟨r,n,_⟩:=I5 b c _ e [t] l k rfl h;rw[n];simp
theorem D6 (n:en.sort=3)(s:Jf body){i:Nat}{e:Yk}{k:Nat}(h:Z5 (body++[en]) i=.ok (e,k)):EH e/\GT e:=by
 have o:∀t,t∈body->t.sort≠2->Td (Yy t):=fun t p u=>EE (s.lit t p) u
 unfold Z5 at h
 split at h
 ·obtain⟨r,j,g,v⟩:=bI h
  injection v with v;injection v with w _;subst w;unfold WE at g;obtain⟨a,K,B,g⟩:=bI g;obtain⟨b,L,d,g⟩:=bI g;obtain⟨c,T,U,g⟩:=bI g;injection g with g;injection g with g _;subst g;obtain⟨x,C,_⟩:=ZU n (by decide) B;exact⟨o a (mG x) (by rw[C];decide),trivial⟩
 ·obtain⟨_,K,B,h⟩:=bI h
  obtain⟨r,L,d,h⟩:=bI h;injection h with h;injection h with w _;subst w;unfold Wf at d;obtain⟨M,V,x,d⟩:=bI d;obtain⟨rk,W,C,d⟩:=bI d;obtain⟨_,X,Y,d⟩:=bI d;obtain⟨_,Z,a4,d⟩:=bI d;obtain⟨bn,k5,m,d⟩:=bI d;obtain⟨mc,k6,a6,d⟩:=bI d;obtain⟨am,k7,a7,d⟩:=bI d;obtain⟨cu,k8,a8,d⟩:=bI d;obtain⟨_,k9,a9,d⟩:=bI d;obtain⟨y,N,f,d⟩:=bI d;injection d with d;injection d with d _;subst d;obtain⟨O,n2,_⟩:=ZU n (by decide) x;rw[Wk]at m;obtain⟨D,q1,P,m⟩:=bI m;obtain⟨_,q2,x2,m⟩:=bI m;obtain⟨E,q3,Q,m⟩:=bI m;injection m with m;injection m with m _;subst m;obtain⟨R,F,_⟩:=ZU n (by decide) P;obtain⟨S,G,_⟩:=ZU n (by decide) Q
  have q:(y.decline=false->y.routes≠[])/\∀t,t∈y.routes->Td (Yy t):=by
   have H:∀t,t∈body->t.sort=0->Td (Yy t):=fun t p u=>o t p (by rw[u];decide)
   unfold Xj at f
   split at f
   ·injection f with f
    injection f with f _;subst f;exact⟨fun h=>by simp at h,fun t p=>by simp at p⟩
   ·split at f
    ·obtain⟨l,j,g,e⟩:=bI f
     injection e with e;injection e with e _;subst e;obtain⟨z,A⟩:=Ka n (by decide) H g;exact⟨fun _=>A,z⟩
    ·obtain⟨l,j,g,e⟩:=bI f
     injection e with e;injection e with e _;subst e;obtain⟨z,A⟩:=Ka n (by decide) H g;exact⟨fun _=>A,z⟩
  have I:=mG R;have J:=mG S;exact⟨⟨o M (mG O) (by rw[n2];decide),o D I (by rw[F];decide),o E J (by rw[G];decide),q.1,q.2⟩,(s.dg D I F).2,(s.dg E J G).2⟩
theorem I8 (h:en.sort=3)(n:Jf body):∀(m i:Nat)(d f:List Yk)(k:Nat),(body++[en]).length-i=m->(∀x,x∈d->EH x/\GT x)->Zu (body++[en]) i d=.ok (f,k)->∀x,x∈f->EH x/\GT x:=by
 intro m
 induction m using J with
 |ind m q=>
  intro i d f k s o b;by_cases g:(Zs (body++[en]) i).sort=3
  ·rw[X1 g]at b
   injection b with b;injection b with b _;subst b;exact o
  ·cases a:Z5 (body++[en]) i with
   |error l=>rw[Y2 g a]at b;cases b
   |ok r=>
    obtain⟨e,j⟩:=r
    cases c:ZG (body++[en]) j WK with
    |error l=>rw[Xx g a c]at b;cases b
    |ok r=>
     obtain⟨u,p⟩:=r;rw[Wx g a c]at b;have t:=Vc a;have v:=YB c;obtain⟨_,_,w⟩:=NX h n a c;refine q ((body++[en]).length-p) (by simp only[Z,V,K]at s ⊢;omega) p _ f k rfl (fun x c=>?_) b;rcases I.1 c with c|c
     ·exact o x c
     ·simp at c;subst c;exact D6 h n a
end
theorem Kb {s:ByteArray}{ts:List Tk}(h:ZL s 0 1 []=.ok ts):∃body,ts=body++[⟨3,ByteArray.empty,1+Qe s.data.toList⟩]/\Jf body/\(∀t,t∈body->LS t/\Ta s.size t):=by
 obtain⟨body,e,b⟩:=LV _ 0 1 [] ts rfl (fun t a=>by simp at a) h;have c:=(T2 _ 0 1 [] ts rfl (fun t a=>by simp at a) h).1;rw[List.drop_zero]at e;refine⟨body,e,⟨fun t a=>(b t a).1,fun t a=>(b t a).2.2.1,fun t a d=>⟨(c t (by rw[e];simp[a])).1 d,(b t a).2.1 d⟩⟩,fun t a=>⟨b t a,c t (by rw[e];simp[a])⟩⟩
theorem EK {body:List Tk}{l:Nat}{a:List Yk}{k:Nat}{p:List Zd×List Zc}(c:Jf body)(d:Zu (body++[⟨3,ByteArray.empty,l⟩]) 0 []=.ok (a,k))(g:∀x,x∈a->WL x)(h:ZZ [] [] a=.ok p):V8 p.1 p.2=Vz body body.length:=by
 have f:=I8 rfl c _ 0 [] a k rfl (fun x b=>by simp at b) d;rw[M7 rfl c d,NZ a (fun e i=>(f e i).1)];have:=Rc a [] [] p (by simp) trivial (fun r j=>by simp at j) (fun x b=>⟨g x b,(f x b).2⟩) h;rw[this];rfl
def CO (body:List Tk)(i:Nat)(e:Yk)(j:Nat):Prop:=
 j<body.length/\i<j/\match e with
 | .route r=>(∃t,body[i]?=P t/\(t.text.toList==[114,111,117,116,101])=true)/\body[i+1]?=P r.name/\body[i+2]?=P r.base/\body[i+3]?=P r.rate/\Dg r.base.text/\Dg r.rate.text/\j=i+4
 | .rule r=>(∃t,body[i]?=P t/\(t.text.toList==[114,111,117,116,101])=false)/\MY body i r j
def Qs (body:List Tk):Nat->List Yk->Prop
 |i,[]=>i=body.length
 |i,e::ys=>∃j,CO body i e j/\Qs body (j+1) ys
section
variable {body:List Tk} {en:Tk}
theorem C7 (b:∀t,t∈body->t.sort≠3){i:Nat}(c:i<=body.length)(h:(Zs (body++[en]) i).sort=3):i=body.length:=by
 rcases Y i body.length with a|a
 ·exfalso
  have:=X7 (en:=en) b (gE a);exact this h
 ·omega
theorem C8 (b:en.sort=3)(c:Jf body){i j k:Nat}{e:Yk}{u:Unit}(h:Z5 (body++[en]) i=.ok (e,j))(x:ZG (body++[en]) j WK=.ok (u,k))(l:WL e):CO body i e j:=by
 obtain⟨⟨G,v,_,_⟩,_⟩:=YD b x;have d:=Vc h;have f:j<body.length:=(iG.1 v).1;unfold Z5 at h
 split at h
 ·rename_i n
  obtain⟨r,y,g,a⟩:=bI h;injection a with a;injection a with a o;subst a o;obtain⟨t,p,q,_⟩:=VV b n;unfold WE at g;obtain⟨H,w,s,g⟩:=bI g;obtain⟨bs,z,A,g⟩:=bI g;obtain⟨rt,I,B,g⟩:=bI g;injection g with g;injection g with C J;subst C;obtain⟨D,K,L⟩:=ZU b (by decide) s;obtain⟨E,M,N⟩:=ZU b (by decide) A;obtain⟨c1,O,P⟩:=ZU b (by decide) B;refine⟨f,d,⟨t,p,q⟩,D,?_,?_,l.2.1,l.2.2,by omega⟩
  ·rw[show i+2=w from by omega];exact E
  ·rw[show i+3=z from by omega];exact c1
 ·rename_i n
  obtain⟨_,w,s,h⟩:=bI h;obtain⟨r,y,g,a⟩:=bI h;injection a with a;injection a with a o;subst a o;obtain⟨⟨t,p,_,_⟩,q⟩:=YD b s;subst q;obtain⟨F,u1,u2⟩:=UE b c.lit (m:=Wb) (by simp[YO]) (X7 c.ns p) n;exact⟨f,d,⟨F,u1,u2⟩,D0 b c.lit c.ns g (X7 c.ns v) l⟩
theorem JW (n:en.sort=3)(o:Jf body):∀(m i:Nat)(c d:List Yk)(k:Nat),body.length-i=m->i<=body.length->(∀x,x∈d->WL x)->Zu (body++[en]) i c=.ok (d,k)->∃h,d=c++h/\Qs body i h:=by
 intro m
 induction m using J with
 |ind m t=>
  intro i c d k B v p a;by_cases f:(Zs (body++[en]) i).sort=3
  ·rw[X1 f]at a
   injection a with a;injection a with a _;subst a;exact⟨[],by simp,C7 o.ns v f⟩
  ·cases b:Z5 (body++[en]) i with
   |error l=>rw[Y2 f b]at a;cases a
   |ok r=>
    obtain⟨e,j⟩:=r
    cases g:ZG (body++[en]) j WK with
    |error l=>rw[Xx f b g]at a;cases a
    |ok r=>
     obtain⟨u,q⟩:=r;rw[Wx f b g]at a;have C:=Vc b;have w:=YB g;obtain⟨⟨D,y,_,_⟩,_⟩:=YD n g;have z:j<body.length:=(iG.1 y).1;obtain⟨h,s,A⟩:=t (body.length-q) (by omega) q _ d k rfl (by omega) p a;refine⟨e::h,by rw[s,S];rfl,j,C8 n o b g (p e (by rw[s];simp)),?_⟩;rw[<-w];exact A
end
theorem Ny {b:List Zd}{a:List ByteArray}{r:XX}(h:Xm b a H r=H):a.length<8:=by
 rcases Y a.length 8 with c|c
 ·exact c
 ·exfalso
  unfold Xm at h;rw[show decide (8<=a.length)=true from by simpa using c,Yu,WM,ZM,ZM,ZM,ZQ]at h
  cases d:r.amount<;>rw[d]at h<;>simp only[Y3,ZM]at h<;>rw[ZQ,XU]at h<;>cases h
theorem Om {a:List Zd}{r:Vp}(h:X5 a H r=H):a.length<6:=by
 rcases Y a.length 6 with b|b
 ·exact b
 ·exfalso
  unfold X5 at h;rw[show decide (6<=a.length)=true from by simpa using b,Yu,WM,ZM,ZM]at h
  cases h
theorem QV {s:ByteArray}:∀(n k a:Nat)(b ts:List Tk),s.size-k=n->k<=s.size->ZL s k a b=.ok ts->ts.length<=b.length+(s.size-k)+1:=by
 intro n
 induction n using J with
 |ind n e=>
  intro k a b ts g f h;by_cases c:k<s.size
  ·cases d:Zl s k a with
   |skip k' l'=>
    rw[YY c d]at h;have:=Ww c d;have:=e (s.size-k') (by omega) k' l' b ts rfl (by omega) h;omega
   |tok t k'=>
    rw[Ve c d]at h;have:=Va c d;have:=e (s.size-k') (by omega) k' a (b++[t]) ts rfl (by omega) h;simp only[Z,V,K]at this;omega
   |bad=>rw[XN c d]at h;cases h
  ·rw[Vf c]at h
   injection h with h;subst h;simp
theorem Qt {s:ByteArray}{k a k':Nat}{t:Tk}(b:Zl s k a=.tok t k'):t.line=a:=by
 unfold Zl at b
 repeat' split at b
 all_goals first
  |contradiction
  |(injection b with c d;subst c;rfl)
theorem RO {s:ByteArray}:∀(n k a:Nat)(b:List Tk),s.size-k=n->1<=a->(∀t,t∈b->1<=t.line)->
  (∀l,ZL s k a b=.error l->1<=l)/\(∀ts,ZL s k a b=.ok ts->∀t,t∈ts->1<=t.line):=by
 intro n
 induction n using J with
 |ind n i=>
  intro k a b j g d;by_cases e:k<s.size
  ·cases f:Zl s k a with
   |skip k' l'=>
    rw[YY e f];have:=Ww e f;exact i (s.size-k') (by omega) k' l' b rfl (by omega) d
   |tok t k'=>
    rw[Ve e f];have:=Va e f;refine i (s.size-k') (by omega) k' a (b++[t]) rfl g (fun u c=>?_);rcases I.1 c with c|c
    ·exact d u c
    ·simp at c
     subst c;rw[Qt f];exact g
   |bad=>
    rw[XN e f];exact⟨fun l h=>(by injection h with h;omega),fun ts h=>(by cases h)⟩
  ·rw[Vf e]
   refine⟨fun l h=>(by cases h),fun ts h=>?_⟩;injection h with h;subst h;intro u c;rcases I.1 c with c|c
   ·exact d u c
   ·simp at c
    subst c;exact g
theorem GU {s:V5}{t:Tk}(h:Uw s t=true):t.sort≠3:=by
 cases s<;>simp[Uw,Zq]at h<;>first|omega|(rw[h];decide)|(rw[h.1];decide)
theorem Rd {body:List Tk}{en:Tk}(a:en.sort=3):∀(m:Nat)(b:List V5)(i j:Nat),i<=body.length->YG (body++[en]) m b i=P (P j)->j<=body.length
 |m,[],i,j,hi,h=>by
  rw[UO]at h;injection h with h
  split at h
  ·cases h
  ·injection h with h;omega
 |0,s::rest,i,j,hi,h=>by simp[YG]at h
 |m+1,s::rest,i,j,hi,h=>by
  rw[YG]at h
  split at h
  ·exact Rd a m _ i j hi h
  ·split at h
   ·rename_i c
    have d:=PC a (GU c);have:=(iG.1 d).1;exact Rd a m _ (i+1) j (by omega) h
   ·injection h with h
    injection h with h;omega
theorem EL {body:List Tk}{en:Tk}(b:∀t,t∈body->t.sort≠3){j:Nat}(c:j<=body.length)(h:(Zs (body++[en]) j).sort=3):Zs (body++[en]) j=en:=by
 rcases Y j body.length with a|a
 ·exact absurd h (X7 (en:=en) b (gE a))
 ·have e:j=body.length:=by omega
  subst e;unfold Zs;rw[gD,aR (Nat.le_refl _),Nat.sub_self];rfl
theorem D7 {body:List Tk}{en:Tk}{j:Nat}(a:j<=body.length):Zs (body++[en]) j∈body++[en]:=by
 unfold Zs;rw[gD,gE (by simp;omega)];exact List.getElem_mem _
theorem D8 {body:List Tk}{en:Tk}(d:en.sort=3)(f:∀t,t∈body->t.sort≠3)(g:∀t,t∈body++[en]->1<=t.line):
  (∀i k,Zu (body++[en]) 0 []=.ok (i,k)->∃N,YG (body++[en]) N [.rules] 0=P H)/\
  (∀l,Zu (body++[en]) 0 []=.error l->∃N j,YG (body++[en]) N [.rules] 0=P (P j)/\((WT (body++[en]) (P j)= -1/\l=en.line)\/(WT (body++[en]) (P j)=(l:Int)/\1<=l))):=by
 obtain⟨m,n⟩:=Nr (ts:=body++[en]) _ 0 [] rfl;refine⟨m,fun l h=>?_⟩;obtain⟨j,⟨N,b⟩,e⟩:=n l h;have c:=Rd d N _ 0 j (E _) b;refine⟨N,j,b,?_⟩;by_cases a:(Zs (body++[en]) j).sort=3
 ·left
  refine⟨by simp[WT,a],?_⟩;rw[EL f c a]at e;exact e.symm
 ·right
  refine⟨by simp[WT,a,e],?_⟩;rw[<-e];exact g _ (D7 c)
