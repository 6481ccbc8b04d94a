import Derived.Test.YtccikgogjfbpeaaGreatDoorAd
import Derived.Test.YtccikgogjfbpeaaGreatDoorShelf
import Derived.Lib.ItoaMem
import Derived.Lib.AppendIntMem
import Derived.Lib.ItoaLen
open Go.Value renaming string->I,int->P,slice->C,pointer->y9,bool->x9,oneCell'->v4
open Option renaming some->J,none->Y
open Go.IntKind renaming i64->V,i64->v8
open List renaming length_cons->Z,length_map->O,length_nil->E,flatMap_cons->M,length_append->N,mem_append->L,append_assoc->A,getElem?_map->F,replicate->z0,take_of_length_le->y8,take_add_one->x6,mem_map->x7,length_eq_zero_iff->x8,mem_of_getElem?->q7,map_cons->q9,flatMap_append->j0,cons_append->v1,map_append->v2,map_map->v5,length->v7
open Go.Proofs.Tryz renaming prog->U
open Go.Ending renaming returned->K,returned->v3
open Go.RowKit renaming Hid->H
open Nat renaming strongRecOn->D,le_trans->G,zero_le->z8,le_refl->y7,lt_or_ge->x0,mul_le_mul->q5,add_mul->v0,zero_add->v6
open Go renaming Calls->z7,World->x5
open UInt8 renaming ofNat->z9
open Go.Obj renaming cells->y0
namespace Go.Proofs.YtccikgogjfbpeaaGreatDoor
set_option maxRecDepth 30000
set_option maxHeartbeats 8000000
structure GX (body:List Tk):Prop where
 lit:∀t,t∈body->VC t
 ns:∀t,t∈body->t.sort≠3
 dg:∀t,t∈body->t.sort=1->Dg t.text/\1<=t.text.size
section
variable {body:List Tk} {en:Tk}
theorem Jt (a l):(Tn a l).length=2*l.length:=by
 induction l with
 |nil=>rfl
 |cons t r b=>
  have e:Tn a (t::r)=[[44],a t]++Tn a r:=by simp[Tn]
  rw[e,lA,b];simp;omega
theorem Uj (c:GX body){i t}(h:body[i]?=J t)(a:t.sort=1)(d:SG body i=false):Xc body i=Vf t:=by
 have b:=c.dg t (mG h) a;exact Cj h a b.1 b.2 d
theorem Au (j:en.sort=3){want}(s:want≠3)(c)(f:∀i t d,body[i]?=J d->(d.text.toList==[44])=true->body[i+1]?=J t->t.sort=want->Xc body (i+1)=c t):
  ∀m i b l k,(body++[en]).length-i=m->XW (body++[en]) i want b=.ok (l,k)->∃r,l=b++r/\Vq body i (Tn c r)/\k=i+2*r.length:=by
 intro m
 induction m using D with
 |ind m u=>
  intro i b l k B a;rw[XW]at a
  split at a
  ·rename_i n
   have v:=Up n
   split at a
   ·cases a
   rename_i t o w
   obtain⟨g,h,x⟩:=ZU j s w;obtain⟨r,y,p,C⟩:=u ((body++[en]).length-o) (by omega) o _ l k rfl a;obtain⟨d,c1,q,z⟩:=Ui j n;refine⟨t::r,by rw[y,A];rfl,?_,by simp only[Z];omega⟩
   have e:Tn c (t::r)=[44]::c t::Tn c r:=by simp[Tn]
   rw[e];refine Vq.cons (XM c1 z q) (Vq.cons (f i t d c1 q g h) ?_);rw[x]at p;exact p
  injection a with a
  injection a with g h;subst g h;exact⟨[],by simp,Vq.nil _ _,by simp⟩
theorem wX (c:GX body):∀i t a,body[i]?=J a->(a.text.toList==[44])=true->body[i+1]?=J t->t.sort=1->Xc body (i+1)=Vf t:=fun _ _ _ d b e f=>Uj c e f (UN d (VG b (by decide)) (VG b (by decide)))
theorem E3:∀i t a,body[i]?=J a->(a.text.toList==[44])=true->body[i+1]?=J t->t.sort=0->Xc body (i+1)=Yz t:=fun _ _ _ _ _ b c=>VH b (by omega)
theorem NI (c:en.sort=3){want}(d:want≠3)(a)(b:∀i t e,body[i]?=J e->(e.text.toList==[44])=true->body[i+1]?=J t->t.sort=want->Xc body (i+1)=a t){i l k}(g:∀t,body[i]?=J t->t.sort=want->Xc body i=a t)(h:Xl (body++[en]) i want=.ok (l,k)):Vq body i (QP a l)/\k=i+(QP a l).length/\l≠[]:=by
 unfold Xl at h
 split at h
 ·cases h
 rename_i t j m
 obtain⟨n,o,p⟩:=ZU c d m;obtain⟨r,q,f,u⟩:=Au c d a b _ j [t] l k rfl h;have s:l=t::r:=q;subst s;rw[p]at f;refine⟨Vq.cons (g t n o) f,?_,by simp⟩;simp only[QP,Z,Jt];omega
theorem Oh (d:en.sort=3)(f:GX body){i kw}(a:(kw.data.toList==[98,105,110])=false)(b:(kw.data.toList==[46,46])=false){l k}(h:Xh (body++[en]) i kw=.ok (l,k)):Vq body i (YR kw.data.toList l)/\k=i+(YR kw.data.toList l).length:=by
 unfold Xh at h
 split at h
 ·rename_i j
  obtain⟨t,g,c,m⟩:=Ui d j;obtain⟨n,r,o⟩:=NI d (by decide) Vf (wX f) (i:=i+1) (fun s p q=>Uj f p q (UN g (VG c a) (VG c b))) h
  have e:YR kw.data.toList l=kw.data.toList::QP Vf l:=by simp[YR,o]
  rw[e];exact⟨Vq.cons (XM g m c) n,by simp only[Z];omega⟩
 injection h with h
 injection h with a b;subst a b;exact⟨Vq.nil _ _,by simp[YR]⟩
theorem IC (f:en.sort=3)(n:GX body){i o k}(h:Wv (body++[en]) i Z7=.ok (o,k)):Vq body i (Aq o)/\k=i+(Aq o).length:=by
 unfold Wv at h
 split at h
 ·rename_i s
  obtain⟨t,l,g,u⟩:=Ui f s;obtain⟨I,j,c,e⟩:=bI h;injection e with e;injection e with v w;subst v w;rw[WK]at c;obtain⟨a,J,g1,c⟩:=bI c;obtain⟨_,x,g2,c⟩:=bI c;obtain⟨b,K,g3,c⟩:=bI c;injection c with c;injection c with m y;obtain⟨z,A,B⟩:=ZU f (by decide) g1;obtain⟨⟨L,p,q,C⟩,M⟩:=YF f g2;obtain⟨r,D,N⟩:=ZU f (by decide) g3;subst m;rw[B]at p
  have F:x=i+3:=by omega
  rw[F]at r;have d:=p;refine⟨Vq.cons (XM l u g) (Vq.cons (Uj n z A (UN l (VG g (by decide)) (VG g (by decide)))) (Vq.cons (XM d C q) (Vq.one (Uj n r D (Ch d l (VG q (by decide)) (VG g (by decide))))))),by simp only[Aq,Z,E];omega⟩
 injection h with h
 injection h with G H;subst G H;exact⟨Vq.nil _ _,by simp[Aq]⟩
theorem Ft (d:en.sort=3){i a k}(h:Xi (body++[en]) i=.ok (a,k)):Vq body i (OK a)/\k=i+(OK a).length:=by
 unfold Xi at h
 split at h
 ·rename_i f
  obtain⟨t,m,n,o⟩:=Ui d f;injection h with h;injection h with b c;subst b c;exact⟨Vq.one (XM m o n),rfl⟩
 split at h
 ·rename_i f
  obtain⟨t,m,n,o⟩:=Ui d f;obtain⟨l,j,g,e⟩:=bI h;injection e with e;injection e with b c;subst b c;obtain⟨p,r,_⟩:=NI d (by decide) Yz E3 (i:=i+1) (fun s q u=>VH q (by omega)) g;exact⟨Vq.cons (XM m o n) p,by simp[OK];omega⟩
 obtain⟨l,j,g,e⟩:=bI h
 injection e with e;injection e with b c;subst b c;obtain⟨p,r,_⟩:=NI d (by decide) Yz E3 (i:=i) (fun s q u=>VH q (by omega)) g;exact⟨p,by simpa[OK]using r⟩
theorem NJ (a:GX body){i:Nat}{t}(h:body[i]?=J t)(b:t.sort≠2):Lp t [98,105,110]=false/\Lp t [46,46]=false:=
 ⟨PF (a.lit t (q7 h)) b (m:=RH) (by simp[X7]),PF (a.lit t (q7 h)) b (m:=Ub) (by simp[X7])⟩
theorem Ck (e:en.sort=3)(d:GX body){i r k}(h:WJ (body++[en]) i=.ok (r,k)):Vq body i [Yz r.name,Vf r.base,Vf r.rate]/\k=i+3:=by
 unfold WJ at h;obtain⟨a,t,g1,h⟩:=bI h;obtain⟨b,u,g2,h⟩:=bI h;obtain⟨c,v,g3,h⟩:=bI h;injection h with h;injection h with n o;subst n o;obtain⟨f,j,p⟩:=ZU e (by decide) g1;obtain⟨g,l,q⟩:=ZU e (by decide) g2;obtain⟨c1,s,w⟩:=ZU e (by decide) g3;subst p;subst q;have m:=NJ d f (by rw[j];decide);have n2:=NJ d g (by rw[l];decide);exact⟨Vq.cons (VH f (by rw[j];decide)) (Vq.cons (Uj d g l (UN f m.1 m.2)) (Vq.one (Uj d c1 s (UN g n2.1 n2.2)))),by omega⟩
theorem Av (a:en.sort=3)(c:GX body){i r k}(h:Wk (body++[en]) i=.ok (r,k)):
  Vq body i ([Yz r.name,Vf r.rank,[58],[98,105,110],Yz r.bin.1,[46,46],Yz r.bin.2]++(YR [109,99,99] r.mcc++(Aq r.amount++(YR [99,117,114] r.cur++([45,62]::OK r.act)))))/\
   k=i+([Yz r.name,Vf r.rank,[58],[98,105,110],Yz r.bin.1,[46,46],Yz r.bin.2]++(YR [109,99,99] r.mcc++(Aq r.amount++(YR [99,117,114] r.cur++([45,62]::OK r.act))))).length:=by
 unfold Wk at h;obtain⟨nm,j1,g1,h⟩:=bI h;obtain⟨rk,j2,g2,h⟩:=bI h;obtain⟨_,j3,g3,h⟩:=bI h;obtain⟨_,j4,A,h⟩:=bI h;obtain⟨bn,j5,b,h⟩:=bI h;obtain⟨e,p,B,h⟩:=bI h;obtain⟨am,f,C,h⟩:=bI h;obtain⟨g,q,D,h⟩:=bI h;obtain⟨_,j9,F,h⟩:=bI h;obtain⟨ac,G,j,h⟩:=bI h;injection h with h;injection h with H I;subst H I;obtain⟨l,s,J⟩:=ZU a (by decide) g1;obtain⟨K,L,M⟩:=ZU a (by decide) g2;obtain⟨⟨tc,c1,O,P⟩,Q⟩:=YF a g3;obtain⟨⟨tb,m,n,R⟩,S⟩:=YF a A;rw[WK]at b;obtain⟨p1,q1,T,b⟩:=bI b;obtain⟨_,q2,U,b⟩:=bI b;obtain⟨V,q3,W,b⟩:=bI b;injection b with b;injection b with X Y;obtain⟨y1,y2,y3⟩:=ZU a (by decide) T;obtain⟨⟨td,t,u,z4⟩,z3⟩:=YF a U;obtain⟨u1,u2,u3⟩:=ZU a (by decide) W;obtain⟨s6,v⟩:=Oh a c (kw:=Vc) (by decide) (by decide) B;obtain⟨s7,l7⟩:=IC a c C;obtain⟨s8,w⟩:=Oh a c (kw:=Vz) (by decide) (by decide) D;obtain⟨⟨ta,t1,t2,t4⟩,t3⟩:=YF a F;obtain⟨d,a0⟩:=Ft a j;subst X;subst J M Q S y3 z3 u3 Y;have x:=NJ c l (by rw[s];decide);have o:=t
 have hd:Xc body (i+6)=Yz V:=by
  refine L8 u1 ?_;exact Ci (i:=i+3) o m (NH u) (NH n)
 rw[t3]at d;refine⟨Vq.append ?_ (Vq.append s6 ?_),?_⟩
 ·exact Vq.cons (VH l (by rw[s];decide)) (Vq.cons (Uj c K L (UN l x.1 x.2)) (Vq.cons (XM c1 P O) (Vq.cons (XM m R n) (Vq.cons (L8 y1 (Ar m (NH n))) (Vq.cons (XM t z4 u) (Vq.one hd))))))
 ·have y:i+1+1+1+1+1+1+1+(YR Vc.data.toList e).length=p:=v.symm
  show Vq body (i+1+1+1+1+1+1+1+(YR Vc.data.toList e).length) _
  rw[y];refine Vq.append s7 ?_;rw[<-l7];refine Vq.append s8 ?_;have z:f+(YR [99,117,114] g).length=q:=w.symm
  show Vq body (f+(YR [99,117,114] g).length) _
  rw[z];exact Vq.cons (XM t1 t4 t2) d
 simp only[N,Z,E]
 have y:p=i+1+1+1+1+1+1+1+(YR [109,99,99] e).length:=v;have z:q=f+(YR [99,117,114] g).length:=w;omega
end
section
variable {body:List Tk} {en:Tk}
theorem Kb (r):NG (.rule r)=[114,117,108,101]::(([Yz r.name,Vf r.rank,[58],[98,105,110],Yz r.bin.1,[46,46],Yz r.bin.2]++(YR [109,99,99] r.mcc++(Aq r.amount++(YR [99,117,114] r.cur++([45,62]::OK r.act)))))++[[59]]):=by
 simp[NG]
theorem Kc (b:en.sort=3)(q:GX body){i e j k u}(h:ZV (body++[en]) i=.ok (e,j))(w:ZF (body++[en]) j Vd=.ok (u,k)):Vq body i (NG e)/\k=i+(NG e).length/\k<=body.length:=by
 obtain⟨⟨B,s,x,y⟩,C⟩:=YF b w
 have v:k<=body.length:=by have:=(iG.1 s).1;omega
 have a:Xc body j=[59]:=XM s y x;unfold ZV at h
 split at h
 ·rename_i z
  obtain⟨t,d,f,l⟩:=Ui b z;obtain⟨r,D,g,m⟩:=bI h;injection m with m;injection m with n o;subst n o;obtain⟨p,c⟩:=Ck b q g;refine⟨?_,by simp only[NG,Z,E];omega,v⟩
  show Vq body i ([114,111,117,116,101]::([Yz r.name,Vf r.base,Vf r.rate]++[[59]]))
  refine Vq.cons (XM d l f) (Vq.append p (Vq.one ?_))
  show Xc body (i+1+3)=_
  rw[<-c];exact a
 obtain⟨_,F,g1,h⟩:=bI h
 obtain⟨r,G,g2,h⟩:=bI h;injection h with h;injection h with n o;subst n o;obtain⟨⟨t,d,f,l⟩,A⟩:=YF b g1;subst A;obtain⟨p,c⟩:=Av b q g2;rw[Kb];refine⟨Vq.cons (XM d l f) (Vq.append p (Vq.one ?_)),?_,v⟩
 ·rw[<-c];exact a
 simp only[Z,N,E]at c ⊢
 omega
theorem Cm (t:en.sort=3)(o:GX body):∀m i c g k,(body++[en]).length-i=m->i<=body.length->Zr (body++[en]) i c=.ok (g,k)->∃d,g=c++d/\Vq body i (d.flatMap NG)/\k=i+(d.flatMap NG).length/\k=body.length:=by
 intro m
 induction m using D with
 |ind m v=>
  intro i c g k w hi b;by_cases f:(Zo (body++[en]) i).sort=3
  ·rw[XD f]at b
   injection b with b;injection b with p q;subst p q;refine⟨[],by simp,Vq.nil _ _,by simp,?_⟩;rcases x0 i body.length with h|h
   ·exfalso
    exact Wq o.ns (gE h) f
   omega
  cases a:ZV (body++[en]) i with
  |error l=>rw[YK f a]at b;cases b
  |ok r=>
   obtain⟨e,j⟩:=r
   cases n:ZF (body++[en]) j Vd with
   |error l=>rw[Y9 f a n]at b;cases b
   |ok r=>
    obtain⟨u,s⟩:=r;rw[X6 f a n]at b;have p:=WY a;have q:=Yu n;obtain⟨x,y,z⟩:=Kc t o a n;obtain⟨d,B,C,G,F⟩:=v ((body++[en]).length-s) (by simp only[N,Z,E]at w ⊢;omega) s _ g k rfl z b;refine⟨e::d,by rw[B,A];rfl,?_,?_,F⟩
    ·rw[M]
     exact Vq.append x (by rw[<-y];exact C)
    rw[M,lA]
    omega
theorem Ju (c:en.sort=3)(d:GX body){a k}(e:Zr (body++[en]) 0 []=.ok (a,k)):VT body body.length=ZT true false (a.flatMap NG):=by
 obtain⟨f,g,b,i,j⟩:=Cm c d _ 0 [] a k rfl (z8 _) e;have h:a=f:=g;subst h;unfold Vq at b;unfold VT;rw[show body.length=(a.flatMap NG).length from by omega,b]
end
/-! ### Blanks -/
theorem ID (u):TO (Lib.decDigits u):=by
 unfold TO Uy;by_cases h:u<10
 ·rw[UM h]
  have b:∀v:Nat,v<10->(([z9 (48+v)]==[59]||[z9 (48+v)]==[44]||[z9 (48+v)]==[58]||[z9 (48+v)]==[46,46])=false):=by decide
  exact b u h
 rw[O5 h]
 have i:1<=(Lib.decDigits (u/10)).length:=by
  rcases Nat.eq_zero_or_pos (Lib.decDigits (u/10)).length with d|d
  ·exact absurd (x8.1 d) (Jq _)
  exact d
 have a:∀c:UInt8,(Lib.decDigits (u/10)++[z9 (48+u % 10)]==[c])=false:=fun c=>by
  rw[Bool.eq_false_iff];intro e
  have f:Lib.decDigits (u/10)++[z9 (48+u % 10)]=[c]:=by simpa using e
  have:=congrArg v7 f;simp at this;exact Jq _ this
 rw[a,a,a];rw[Bool.false_or,Bool.false_or,Bool.false_or,Bool.eq_false_iff];intro e
 have f:Lib.decDigits (u/10)++[z9 (48+u % 10)]=[46]++[46]:=by simpa using e
 have g:=(List.append_inj_right' f rfl)
 have b:∀v:Nat,v<10->[z9 (48+v)]≠[46]:=by decide
 exact b (u % 10) (by omega) g
theorem TP (t):TO (Vf t):=ID _
theorem Aw {t}(a:VC t)(b:t.sort≠2):TO (Yz t):=by
 have h:∀m,m∈X7->(Yz t==m.data.toList)=false:=fun m c=>by
  have:=PF a b c;unfold Lp at this;rw[ByteArray.toList_eq]at this;exact this
 unfold TO Uy;have d:=h Vd (by simp[X7]);have e:=h Y2 (by simp[X7]);have f:=h Ty (by simp[X7]);have g:=h Ub (by simp[X7]);have i:(Yz t==[59])=false:=d;have j:(Yz t==[44])=false:=e;have k:(Yz t==[58])=false:=f;have l:(Yz t==[46,46])=false:=g;rw[i,j,k,l];rfl
def PG (a:Tk->Bs):List Tk->Bs
 |[]=>[]
 |t::r=>a t++r.flatMap fun u=>44::32::a u
theorem Kd (a:Tk->Bs):∀(r:List Tk)(R:List Bs),(∀t,t∈r->TO (a t))->ZT false false (Tn a r++R)=(r.flatMap fun u=>44::32::a u)++ZT false false R
 |[],R,_=>rfl
 |t::r,R,h=>by
  have e:Tn a (t::r)++R=[44]::a t::(Tn a r++R):=by simp[Tn]
  rw[e,Fq,(Z4 (h t (by simp)) _).1,Kd a r R (fun u b=>h u (by simp[b]))];simp
theorem PH (a l R)(b:l≠[])(h:∀t,t∈l->TO (a t)):ZT false false (QP a l++R)=32::(PG a l++ZT false false R):=by
 cases l with
 |nil=>exact absurd rfl b
 |cons t r=>
  show ZT false false (a t::(Tn a r++R))=_
  rw[(Z4 (h t (by simp)) _).1,Kd a r R (fun u c=>h u (by simp[c]))];simp[PG]
def PI (kw:Bs)(l:List Tk):Bs:=if l=[]then[]else 32::(kw++32::PG Vf l)
theorem NK (kw)(a:TO kw)(l R):ZT false false (YR kw l++R)=PI kw l++ZT false false R:=by
 unfold YR PI;by_cases h:l=[]
 ·simp[h]
 rw[if_neg h,if_neg h,v1,(Z4 a _).1,PH Vf l R h (fun t _=>ID _)]
 simp
def uM:Option (Tk×Tk)->Bs
 |none=>[]
 |some a=>[32,97,109,111,117,110,116,32]++(Vf a.1++(46::46::Vf a.2))
theorem yM (o R):ZT false false (Aq o++R)=uM o++ZT false false R:=by
 cases o with
 |none=>rfl
 |some a=>
  show ZT false false ([97,109,111,117,110,116]::Vf a.1::[46,46]::Vf a.2::R)=_
  rw[(Z4 (s:=[97,109,111,117,110,116]) rfl _).1,(Z4 (TP a.1) _).1,L9,(Z4 (TP a.2) _).2.2];simp[uM]
def Ay (a:D6):Bs:=if a.decline then[32,100,101,99,108,105,110,101]else(if a.cheapest then[32,99,104,101,97,112,101,115,116]else[])++32::PG Yz a.routes
theorem Az (a R)(h:a.decline=false->a.routes≠[])(b:∀t,t∈a.routes->TO (Yz t)):ZT false false (OK a++R)=Ay a++ZT false false R:=by
 unfold OK Ay
 cases c:a.decline with
 |true=>
  show ZT false false ([100,101,99,108,105,110,101]::R)=_
  rw[(Z4 (s:=[100,101,99,108,105,110,101]) rfl _).1];rfl
 |false=>
  cases d:a.cheapest with
  |true=>
   show ZT false false ([99,104,101,97,112,101,115,116]::(QP Yz a.routes++R))=_
   rw[(Z4 (s:=[99,104,101,97,112,101,115,116]) rfl _).1,PH Yz a.routes R (h c) b];simp
  |false=>
   show ZT false false (QP Yz a.routes++R)=_
   rw[PH Yz a.routes R (h c) b];simp
def IE:Vu->Bs
 | .route r=>[114,111,117,116,101,32]++(Yz r.name++(32::(Vf r.base++(32::(Vf r.rate++[59,10])))))
 | .rule r=>[114,117,108,101,32]++(Yz r.name++(32::(Vf r.rank++(58::([32,98,105,110,32]++(Yz r.bin.1++(46::46::(Yz r.bin.2++(PI [109,99,99] r.mcc++(uM r.amount++(PI [99,117,114] r.cur++([32,45,62]++(Ay r.act++[59,10])))))))))))))
def AA:Vu->Prop
 | .route r=>TO (Yz r.name)
 | .rule r=>TO (Yz r.name)/\TO (Yz r.bin.1)/\TO (Yz r.bin.2)/\(r.act.decline=false->r.act.routes≠[])/\∀t,t∈r.act.routes->TO (Yz t)
theorem AB (e R)(h:AA e):ZT true false (NG e++R)=IE e++ZT true false R:=by
 cases e with
 |route r=>
  show ZT true false ([114,111,117,116,101]::Yz r.name::Vf r.base::Vf r.rate::[59]::R)=_
  rw[(Z4 (s:=[114,111,117,116,101]) rfl _).2.1,(Z4 h _).1,(Z4 (TP r.base) _).1,(Z4 (TP r.rate) _).1,Ka];simp[IE]
 |rule r=>
  obtain⟨a,b,c,d,f⟩:=h;rw[Kb];have e:([114,117,108,101]::(([Yz r.name,Vf r.rank,[58],[98,105,110],Yz r.bin.1,[46,46],Yz r.bin.2]++(YR [109,99,99] r.mcc++(Aq r.amount++(YR [99,117,114] r.cur++([45,62]::OK r.act)))))++[[59]]))++R=
    [114,117,108,101]::Yz r.name::Vf r.rank::[58]::[98,105,110]::Yz r.bin.1::[46,46]::Yz r.bin.2::(YR [109,99,99] r.mcc++(Aq r.amount++(YR [99,117,114] r.cur++([45,62]::(OK r.act++([59]::R)))))):=by simp
  rw[e,(Z4 (s:=[114,117,108,101]) rfl _).2.1,(Z4 a _).1,(Z4 (TP r.rank) _).1,Fs,(Z4 (s:=[98,105,110]) rfl _).1,(Z4 b _).1,L9,(Z4 c _).2.2,
   NK [109,99,99] rfl,yM,NK [99,117,114] rfl,(Z4 (s:=[45,62]) rfl _).1,Az _ _ d f,Ka]
  simp[IE]
theorem Ke:∀(a:List Vu),(∀e,e∈a->AA e)->ZT true false (a.flatMap NG)=a.flatMap IE
 |[],_=>rfl
 |e::a,h=>by
  rw[M,AB e _ (h e (by simp)),Ke a (fun x b=>h x (by simp[b]))];rfl
def Yb (n:Nat):Bs:=Lib.decDigits n
def TQ (n a:Nat):Bs:=z0 (a-(Yb n).length) 48++Yb n
def Xd:List Bs->Bs
 |[]=>[]
 |x::r=>x++r.flatMap fun u=>44::32::u
def gJ (kw:Bs)(l:List Nat):Bs:=if l=[]then[]else 32::(kw++32::Xd (l.map Yb))
def aJ:Option (Nat×Nat)->Bs
 |none=>[]
 |some a=>[32,97,109,111,117,110,116,32]++(Yb a.1++(46::46::Yb a.2))
def Z0 (rts:List Zf)(p:Nat):Bs:=((rts[p]?).map fun x=>x.name.data.toList).getD []
def ub (rts:List Zf)(r:Ze):Bs:=if r.decline then[32,100,101,99,108,105,110,101]else(if r.cheapest then[32,99,104,101,97,112,101,115,116]else[])++32::Xd (r.routes.map (Z0 rts))
def Uz (r:Zf):Bs:=[114,111,117,116,101,32]++(r.name.data.toList++(32::(Yb r.base++(32::(Yb r.rate++[59,10])))))
def PJ (rts:List Zf)(r:Ze):Bs:=[114,117,108,101,32]++(r.name.data.toList++(32::(Yb r.rank++(58::([32,98,105,110,32]++(TQ r.lo r.digits++(46::46::(TQ r.hi r.digits++(gJ [109,99,99] r.mcc++(aJ r.am++(gJ [99,117,114] r.cur++([32,45,62]++(ub rts r++[59,10])))))))))))))
def Wm (rts:List Zf)(a:Nat):List Ze->Bs
 |[]=>(rts.drop a).flatMap Uz
 |r::rs=>((rts.take r.ahead).drop a).flatMap Uz++(PJ rts r++Wm rts r.ahead rs)
def VI (rts:List Zf)(a:List Ze):Bs:=Wm rts 0 a
theorem NL (a l):Xd (l.map a)=PG a l:=by
 cases l with
 |nil=>rfl
 |cons t r=>simp[Xd,PG,List.flatMap_map]
theorem wg (kw l):gJ kw (l.map Zd)=PI kw l:=by
 unfold gJ PI
 have e:(l.map Zd).map Yb=l.map Vf:=by rw[v5];rfl
 rw[e,NL]
 cases l<;>simp
theorem Kf (a:ByteArray):∀(l:List Zf)(i:Nat),0<=Zk a i l->∃x,l[(Zk a i l).toNat-i]?=J x/\x.name.data.toList=a.data.toList/\i<=(Zk a i l).toNat/\(Zk a i l).toNat<i+l.length
 |[],i,h=>by simp[Zk]at h
 |y::r,i,h=>by
  simp only[Zk]at h ⊢;by_cases b:(y.name.toList==a.toList)=true
  ·rw[if_pos b]
   have e:y.name.toList=a.toList:=by simpa using b
   rw[ByteArray.toList_eq,ByteArray.toList_eq]at e;exact⟨y,by simp,e,by simp,by simp⟩
  rw[if_neg b]at h ⊢
  obtain⟨x,c,d,f,g⟩:=Kf a r (i+1) h;refine⟨x,?_,d,by omega,by simp only[Z];omega⟩;rw[show(Zk a (i+1) r).toNat-i=((Zk a (i+1) r).toNat-(i+1))+1 from by omega]
  simpa using c
theorem PK (rts:List Zf):∀(l:List Tk)(i:Nat)(a:List Nat),Zw rts i l=.ok a->a.map (Z0 rts)=l.map Yz/\∀p,p∈a->p<rts.length
 |[],i,a,h=>by simp[Zw]at h;subst h;simp
 |t::r,i,a,h=>by
  simp only[Zw]at h;by_cases d:i=4
  ·rw[if_pos d]at h;cases h
  rw[if_neg d]at h;by_cases e:Zk t.text 0 rts<0
  ·rw[if_pos e]at h;cases h
  rw[if_neg e]at h
  cases c:Zw rts (i+1) r with
  |error f=>rw[c]at h;cases h
  |ok j=>
   rw[c]at h;injection h with h;subst h;obtain⟨k,m⟩:=PK rts r (i+1) j c;obtain⟨x,g,n,_,o⟩:=Kf t.text rts 0 (by omega);rw[Nat.sub_zero]at g;refine⟨?_,fun p b=>?_⟩
   ·rw[q9,q9,k]
    congr 1
    unfold Z0;rw[g];exact n
   rcases List.mem_cons.1 b with b|b
   ·rw[b];omega
   exact m p b
theorem yN {rts g e r}(h:Z8 rts g e=.ok r)(m:Dg e.bin.1.text)(n:Dg e.bin.2.text)(o:1<=e.bin.1.text.size)(q:1<=e.bin.2.text.size):PJ rts r=IE (.rule e)/\r.ahead=rts.length/\∀p,p∈r.routes->p<rts.length:=by
 unfold Z8 at h
 split at h
 ·cases h
 split at h
 ·cases h
 split at h
 ·cases h
 split at h
 ·cases h
 split at h
 ·cases h
 rename_i s
 split at h
 ·cases h
 cases i:Zp 9999 0 e.mcc with
 |error f=>rw[i]at h;cases h
 |ok a=>
  rw[i]at h
  dsimp only at h
  split at h
  ·cases h
  cases j:Zp 999 0 e.cur with
  |error f=>rw[j]at h;cases h
  |ok b=>
   rw[j]at h
   dsimp only at h
   cases k:Zw rts 0 e.act.routes with
   |error f=>rw[k]at h;cases h
   |ok l=>
    rw[k]at h;injection h with h;subst h;have t:=(WO 9999 e.mcc 0 (by omega)).2 a i;have u:=(WO 999 e.cur 0 (by omega)).2 b j;obtain⟨v,w⟩:=PK rts e.act.routes 0 l k;refine⟨?_,rfl,w⟩
    have c:e.bin.2.text.size=e.bin.1.text.size:=by omega
    have x:TQ (Zd e.bin.1) e.bin.1.text.size=Yz e.bin.1:=(QO e.bin.1 m o).1
    have y:TQ (Zd e.bin.2) e.bin.1.text.size=Yz e.bin.2:=by rw[<-c];exact(QO e.bin.2 n q).1
    have z:aJ (e.amount.map fun d=>(Zd d.1,Zd d.2))=uM e.amount:=by cases e.amount<;>rfl
    have A:ub rts ⟨e.name.text,Zd e.rank,e.bin.1.text.size,Zd e.bin.1,Zd e.bin.2,a,e.amount.map (fun d=>(Zd d.1,Zd d.2)),b,e.act.decline,e.act.cheapest,l,rts.length⟩=Ay e.act:=by
     unfold ub Ay
     dsimp only
     rw[v,NL]
    unfold PJ IE
    dsimp only
    rw[x,y,z,A,t,u,wg,wg];rfl
theorem yO {rts e t}(h:ZE rts e=.ok t)(a:rts.length<=6):Uz t=IE (.route e):=by
 have b:=(Tm rts e a).2 t h;subst b;rfl
/-! ### The book grows -/
def yP (rts:List Zf)(a:List Ze):Prop:=∀r,r∈a->r.ahead<=rts.length/\∀p,p∈r.routes->p<rts.length
theorem IF {rts t p}(h:p<rts.length):Z0 (rts++[t]) p=Z0 rts p:=by
 unfold Z0;rw[List.getElem?_append_left h]
theorem Cn {rts t r}(h:∀p,p∈r.routes->p<rts.length):PJ (rts++[t]) r=PJ rts r:=by
 have e:r.routes.map (Z0 (rts++[t]))=r.routes.map (Z0 rts):=List.map_congr_left fun p a=>IF (h p a)
 unfold PJ ub;rw[e]
theorem NM (rts:List Zf)(t:Zf):∀(b:List Ze)(a:Nat),a<=rts.length->yP rts b->Wm (rts++[t]) a b=Wm rts a b++Uz t
 |[],a,h,_=>by
  simp only[Wm];rw[List.drop_append_of_le_length h,j0];simp
 |r::rs,a,h,hk=>by
  have c:=hk r (by simp);simp only[Wm];rw[List.take_append_of_le_length c.1,Cn c.2,NM rts t rs r.ahead c.1 (fun x d=>hk x (by simp[d]))];simp
theorem Kg (rts:List Zf)(r:Ze)(c:r.ahead=rts.length):∀(b:List Ze)(a:Nat),Wm rts a (b++[r])=Wm rts a b++PJ rts r
 |[],a=>by
  simp only[Wm,List.nil_append];rw[c,List.take_length,List.drop_length];simp
 |x::rs,a=>by
  simp only[Wm,v1];rw[Kg rts r c rs x.ahead];simp
def Cp:Vu->Prop
 | .route _=>True
 | .rule r=>1<=r.bin.1.text.size/\1<=r.bin.2.text.size
theorem Qh:∀(d:List Vu)(rts:List Zf)(a:List Ze)(p:List Zf×List Ze),rts.length<=6->YW (rts.map Zf.name)->yP rts a->(∀x,x∈d->VE x/\Cp x)->ZS rts a d=.ok p->VI p.1 p.2=VI rts a++d.flatMap IE
 |[],rts,a,p,_,_,_,_,h=>by
  simp only[ZS]at h;injection h with h;subst h;simp
 | .route e::d,rts,a,p,h6,hd,hk,ho,h=>by
  cases b:ZE rts e with
  |error f=>rw[YQ (f:=f) (by simp only[Vv,b])]at h;cases h
  |ok t=>
   rw[Xn (p:=(rts++[t],a)) (by simp only[Vv,b])]at h;have i:=VS h6 hd b
   have g:yP (rts++[t]) a:=fun r c=>⟨by have:=(hk r c).1;simp;omega,fun q b=>by have:=(hk r c).2 q b;simp;omega⟩
   have:=Qh d (rts++[t]) a p i.2 i.1 g (fun x l=>ho x (by simp[l])) h;rw[this];unfold VI;rw[NM rts t a 0 (z8 _) hk,yO b h6,M,A]
 | .rule e::d,rts,a,p,h6,hd,hk,ho,h=>by
  have m:=ho (.rule e) (by simp)
  cases b:Z8 rts a e with
  |error f=>rw[YQ (f:=f) (by simp only[Vv,b])]at h;cases h
  |ok t=>
   rw[Xn (p:=(rts,a++[t])) (by simp only[Vv,b])]at h;have j:=m.1;have k:=m.2;obtain⟨n,o,s⟩:=yN b j.2.2.1 j.2.2.2.1 k.1 k.2
   have g:yP rts (a++[t]):=fun r c=>by
    rcases L.1 c with c|c
    ·exact hk r c
    simp at c
    subst c;exact⟨by omega,s⟩
   have:=Qh d rts (a++[t]) p h6 hd g (fun x l=>ho x (by simp[l])) h;rw[this];unfold VI;rw[Kg rts t o a 0,n,M,A]
section
variable {n:Nat} {ts:List Tk}
theorem yQ (h:∀t,t∈ts->TK n t)(i):TK n (Zo ts i):=by
 unfold Zo;rw[gD]
 cases a:ts[i]? with
 |none=>exact⟨fun e=>by simp at e,by simp,by simp⟩
 |some t=>exact h t (mG a)
theorem QQ (h:∀t,t∈ts->TK n t){i a t k}(b:Z9 ts i a=.ok (t,k)):TK n t/\t.sort=a:=by
 obtain⟨rfl,c,_⟩:=Yt b;exact⟨yQ h i,c⟩
theorem QR (h:∀t,t∈ts->TK n t){i t k}(a:Z9 ts i 1=.ok (t,k)):Dg t.text:=
 have:=QQ h a
 this.1.1 this.2
theorem yR (h:∀t,t∈ts->TK n t){want}:∀m i a l k,ts.length-i=m->(∀t,t∈a->TK n t/\t.sort=want)->XW ts i want a=.ok (l,k)->(∀t,t∈l->TK n t/\t.sort=want)/\l.length<=a.length+(ts.length-i):=by
 intro m
 induction m using D with
 |ind m o=>
  intro i a l k s d b;rw[XW]at b
  split at b
  ·rename_i p
   have q:=Up p
   split at b
   ·cases b
   rename_i t f g
   have e:=(Yt g).2.2
   have:=o (ts.length-f) (by omega) f _ l k rfl (fun u c=>by
    rcases L.1 c with c|c
    ·exact d u c
    simp at c;subst c;exact QQ h g) b
   refine⟨this.1,?_⟩;have j:=this.2;simp at j;omega
  injection b with b
  injection b with r j;subst r;exact⟨d,by omega⟩
theorem Jv (h:∀t,t∈ts->TK n t){i a l k}(b:Xl ts i a=.ok (l,k)):(∀t,t∈l->TK n t/\t.sort=a)/\l.length<=1+ts.length:=by
 unfold Xl at b
 split at b
 ·cases b
 rename_i t d e
 have:=yR h _ d [t] l k rfl (fun u c=>by simp at c;subst c;exact QQ h e) b;exact⟨this.1,by have:=this.2;simp at this;omega⟩
theorem NN (h:∀t,t∈ts->TK n t){i kw l k}(a:Xh ts i kw=.ok (l,k)):(∀t,t∈l->Dg t.text)/\l.length<=1+ts.length:=by
 unfold Xh at a
 split at a
 ·have:=Jv h a
  exact⟨fun t b=>(this.1 t b).1.1 (this.1 t b).2,this.2⟩
 injection a with a
 injection a with c _;subst c;exact⟨by simp,by simp⟩
theorem Jw (h:∀t,t∈ts->TK n t){i d k}(c:UU ts i=.ok (d,k)):Dg d.1.text/\Dg d.2.text:=by
 rw[WK]at c;obtain⟨a,g,e,c⟩:=bI c;obtain⟨_,j,l,c⟩:=bI c;obtain⟨b,m,f,c⟩:=bI c;injection c with c;injection c with c _;subst c;exact⟨QR h e,QR h f⟩
theorem Fu (h:∀t,t∈ts->TK n t){i kw o k}(a:Wv ts i kw=.ok (o,k)):∀b,o=J b->Dg b.1.text/\Dg b.2.text:=by
 unfold Wv at a
 split at a
 ·obtain⟨b,j,d,c⟩:=bI a
  injection c with c;injection c with c _;subst c;intro f e;injection e with e;subst e;exact Jw h d
 injection a with a
 injection a with a _;subst a;intro b e
 cases e
theorem Cq (h:∀t,t∈ts->TK n t){i a k}(c:Xi ts i=.ok (a,k)):a.routes.length<=1+ts.length:=by
 unfold Xi at c
 split at c
 ·injection c with c;injection c with c _;subst c;simp
 split at c
 ·obtain⟨l,j,d,b⟩:=bI c
  injection b with b;injection b with b _;subst b;exact(Jv h d).2
 obtain⟨l,j,d,b⟩:=bI c
 injection b with b;injection b with b _;subst b;exact(Jv h d).2
theorem AC (h:∀t,t∈ts->TK n t)(s:n<=3000)(F:ts.length<=3999){i e k}(o:ZV ts i=.ok (e,k)):VE e:=by
 unfold ZV at o
 split at o
 ·obtain⟨r,j,m,l⟩:=bI o
  injection l with l;injection l with l _;subst l;unfold WJ at m;obtain⟨a,y,g1,m⟩:=bI m;obtain⟨b,u,g2,m⟩:=bI m;obtain⟨c,z,g3,m⟩:=bI m;injection m with m;injection m with m _;subst m;exact⟨G (QQ h g1).1.2.1 s,QR h g2,QR h g3⟩
 obtain⟨_,j,m,o⟩:=bI o
 obtain⟨r,u,l,o⟩:=bI o;injection o with o;injection o with o _;subst o;unfold Wk at l;obtain⟨a,y,g1,l⟩:=bI l;obtain⟨b,u,g2,l⟩:=bI l;obtain⟨_,z,g3,l⟩:=bI l;obtain⟨_,H,I,l⟩:=bI l;obtain⟨c,J,v,l⟩:=bI l;obtain⟨d,K,A,l⟩:=bI l;obtain⟨f,L,B,l⟩:=bI l;obtain⟨g,M,C,l⟩:=bI l;obtain⟨_,N,O,l⟩:=bI l;obtain⟨D,E,p,l⟩:=bI l;injection l with l;injection l with l _;subst l;have w:=NN h A;have x:=NN h C;have q:=Cq h p;exact⟨G (QQ h g1).1.2.1 s,QR h g2,(Jw h v).1,(Jw h v).2,w.1,x.1,Fu h B,G w.2 (by omega),G x.2 (by omega),G q (by omega)⟩
theorem NO (h:∀t,t∈ts->TK n t)(s:n<=3000)(v:ts.length<=3999):∀m i c g k,ts.length-i=m->(∀x,x∈c->VE x)->Zr ts i c=.ok (g,k)->∀x,x∈g->VE x:=by
 intro m
 induction m using D with
 |ind m w=>
  intro i c g k y p a;by_cases d:(Zo ts i).sort=3
  ·rw[XD d]at a
   injection a with a;injection a with a _;subst a;exact p
  cases f:ZV ts i with
  |error l=>rw[YK d f]at a;cases a
  |ok r=>
   obtain⟨e,j⟩:=r
   cases b:ZF ts j Vd with
   |error l=>rw[Y9 d f b]at a;cases a
   |ok r=>
    obtain⟨u,q⟩:=r;rw[X6 d f b]at a;have z:=WY f;have A:=Yu b
    have B:i<ts.length:=by
     rcases x0 i ts.length with o|o
     ·exact o
     exfalso
     apply d;unfold Zo;rw[gD,List.getElem?_eq_none o];rfl
    refine w (ts.length-q) (by omega) q _ g k rfl (fun x b=>?_) a;rcases L.1 b with b|b
    ·exact p x b
    simp at b;subst b;exact AC h s v f
end
section
variable {body:List Tk} {en:Tk}
theorem AD (h:en.sort=3){want}(j:want≠3){Q:Tk->Prop}(n:∀t,t∈body->t.sort=want->Q t):∀m i b l k,(body++[en]).length-i=m->(∀t,t∈b->Q t)->XW (body++[en]) i want b=.ok (l,k)->∀t,t∈l->Q t:=by
 intro m
 induction m using D with
 |ind m o=>
  intro i b l k s e a;rw[XW]at a
  split at a
  ·rename_i p
   have q:=Up p
   split at a
   ·cases a
   rename_i t f r
   obtain⟨d,g,v⟩:=ZU h j r;refine o ((body++[en]).length-f) (by omega) f _ l k rfl (fun u c=>?_) a;rcases L.1 c with c|c
   ·exact e u c
   simp at c;subst c;exact n u (mG d) g
  injection a with a
  injection a with d g;subst d;exact e
theorem IG (a:en.sort=3){want}(b:want≠3){Q:Tk->Prop}(c:∀t,t∈body->t.sort=want->Q t){i l k}(h:Xl (body++[en]) i want=.ok (l,k)):(∀t,t∈l->Q t)/\l≠[]:=by
 unfold Xl at h
 split at h
 ·cases h
 rename_i t d f
 obtain⟨g,j,_⟩:=ZU a b f;refine⟨AD a b c _ d [t] l k rfl (fun u e=>by simp at e;subst e;exact c u (mG g) j) h,?_⟩;obtain⟨r,m,_⟩:=EZ a b _ d [t] l k rfl h;rw[m];simp
theorem yS (m:en.sort=3)(q:GX body){i e k}(h:ZV (body++[en]) i=.ok (e,k)):AA e/\Cp e:=by
 have n:∀t,t∈body->t.sort≠2->TO (Yz t):=fun t o s=>Aw (q.lit t o) s
 unfold ZV at h
 split at h
 ·obtain⟨r,j,g,u⟩:=bI h
  injection u with u;injection u with v _;subst v;unfold WJ at g;obtain⟨a,I,g1,g⟩:=bI g;obtain⟨b,J,g2,g⟩:=bI g;obtain⟨c,R,g3,g⟩:=bI g;injection g with g;injection g with g _;subst g;obtain⟨w,A,_⟩:=ZU m (by decide) g1;exact⟨n a (mG w) (by rw[A];decide),trivial⟩
 obtain⟨_,I,g1,h⟩:=bI h
 obtain⟨r,J,g2,h⟩:=bI h;injection h with h;injection h with v _;subst v;unfold Wk at g2;obtain⟨K,S,w,g2⟩:=bI g2;obtain⟨rk,T,A,g2⟩:=bI g2;obtain⟨_,U,V,g2⟩:=bI g2;obtain⟨_,W,X,g2⟩:=bI g2;obtain⟨Y,Z,f,g2⟩:=bI g2;obtain⟨mc,k6,a6,g2⟩:=bI g2;obtain⟨am,k7,a7,g2⟩:=bI g2;obtain⟨cu,k8,a8,g2⟩:=bI g2;obtain⟨_,k9,a9,g2⟩:=bI g2;obtain⟨x,L,d,g2⟩:=bI g2;injection g2 with g2;injection g2 with g2 _;subst g2;obtain⟨M,n2,_⟩:=ZU m (by decide) w;rw[WK]at f;obtain⟨B,q1,N,f⟩:=bI f;obtain⟨_,q2,x2,f⟩:=bI f;obtain⟨C,q3,O,f⟩:=bI f;injection f with f;injection f with f _;subst f;obtain⟨P,D,_⟩:=ZU m (by decide) N;obtain⟨Q,E,_⟩:=ZU m (by decide) O
 have p:(x.decline=false->x.routes≠[])/\∀t,t∈x.routes->TO (Yz t):=by
  have F:∀t,t∈body->t.sort=0->TO (Yz t):=fun t o s=>n t o (by rw[s];decide)
  unfold Xi at d
  split at d
  ·injection d with d
   injection d with d _;subst d;exact⟨fun h=>by simp at h,fun t o=>by simp at o⟩
  split at d
  ·obtain⟨l,j,g,e⟩:=bI d
   injection e with e;injection e with e _;subst e;obtain⟨y,z⟩:=IG m (by decide) F g;exact⟨fun _=>z,y⟩
  obtain⟨l,j,g,e⟩:=bI d
  injection e with e;injection e with e _;subst e;obtain⟨y,z⟩:=IG m (by decide) F g;exact⟨fun _=>z,y⟩
 have G:=mG P;have H:=mG Q;exact⟨⟨n K (mG M) (by rw[n2];decide),n B G (by rw[D];decide),n C H (by rw[E];decide),p.1,p.2⟩,(q.dg B G D).2,(q.dg C H E).2⟩
theorem E4 (h:en.sort=3)(n:GX body):∀m i d f k,(body++[en]).length-i=m->(∀x,x∈d->AA x/\Cp x)->Zr (body++[en]) i d=.ok (f,k)->∀x,x∈f->AA x/\Cp x:=by
 intro m
 induction m using D with
 |ind m q=>
  intro i d f k s o b;by_cases g:(Zo (body++[en]) i).sort=3
  ·rw[XD g]at b
   injection b with b;injection b with b _;subst b;exact o
  cases a:ZV (body++[en]) i with
  |error l=>rw[YK g a]at b;cases b
  |ok r=>
   obtain⟨e,j⟩:=r
   cases c:ZF (body++[en]) j Vd with
   |error l=>rw[Y9 g a c]at b;cases b
   |ok r=>
    obtain⟨u,p⟩:=r;rw[X6 g a c]at b;have t:=WY a;have v:=Yu c;obtain⟨_,_,w⟩:=Kc h n a c;refine q ((body++[en]).length-p) (by simp only[N,Z,E]at s ⊢;omega) p _ f k rfl (fun x c=>?_) b;rcases L.1 c with c|c
    ·exact o x c
    simp at c;subst c;exact yS h n a
end
theorem II {s ts}(h:ZL s 0 1 []=.ok ts):∃body,ts=body++[⟨3,ByteArray.empty,1+Pt s.data.toList⟩]/\GX body/\(∀t,t∈body->In t/\TK s.size t):=by
 obtain⟨body,e,b⟩:=Iq _ 0 1 [] ts rfl (fun t a=>by simp at a) h;have c:=(SR _ 0 1 [] ts rfl (fun t a=>by simp at a) h).1;rw[List.drop_zero]at e;refine⟨body,e,⟨fun t a=>(b t a).1,fun t a=>(b t a).2.2.1,fun t a d=>⟨(c t (by rw[e];simp[a])).1 d,(b t a).2.1 d⟩⟩,fun t a=>⟨b t a,c t (by rw[e];simp[a])⟩⟩
theorem AE {body l a k p}(c:GX body)(d:Zr (body++[⟨3,ByteArray.empty,l⟩]) 0 []=.ok (a,k))(g:∀x,x∈a->VE x)(h:ZS [] [] a=.ok p):VI p.1 p.2=VT body body.length:=by
 have f:=E4 rfl c _ 0 [] a k rfl (fun x b=>by simp at b) d;rw[Ju rfl c d,Ke a (fun e i=>(f e i).1)];have:=Qh a [] [] p (by simp) trivial (fun r j=>by simp at j) (fun x b=>⟨g x b,(f x b).2⟩) h;rw[this];rfl
def wh (body:List Tk)(i:Nat)(e:Vu)(j:Nat):Prop:=
 j<body.length/\i<j/\match e with
 | .route r=>(∃t,body[i]?=J t/\(t.text.toList==[114,111,117,116,101])=true)/\body[i+1]?=J r.name/\body[i+2]?=J r.base/\body[i+3]?=J r.rate/\Dg r.base.text/\Dg r.rate.text/\j=i+4
 | .rule r=>(∃t,body[i]?=J t/\(t.text.toList==[114,111,117,116,101])=false)/\Jr body i r j
def PL (body:List Tk):Nat->List Vu->Prop
 |i,[]=>i=body.length
 |i,e::ys=>∃j,wh body i e j/\PL body (j+1) ys
section
variable {body:List Tk} {en:Tk}
theorem wY (b:∀t,t∈body->t.sort≠3){i}(hi:i<=body.length)(h:(Zo (body++[en]) i).sort=3):i=body.length:=by
 rcases x0 i body.length with a|a
 ·exfalso
  have:=Wq (en:=en) b (gE a);exact this h
 omega
theorem wZ (b:en.sort=3)(c:GX body){i j k e u}(h:ZV (body++[en]) i=.ok (e,j))(w:ZF (body++[en]) j Vd=.ok (u,k))(l:VE e):wh body i e j:=by
 obtain⟨⟨D,s,_,_⟩,_⟩:=YF b w;have d:=WY h;have f:j<body.length:=(iG.1 s).1;unfold ZV at h
 split at h
 ·rename_i n
  obtain⟨r,x,g,a⟩:=bI h;injection a with a;injection a with a o;subst a o;obtain⟨t,p,q,_⟩:=Ui b n;unfold WJ at g;obtain⟨E,v,g1,g⟩:=bI g;obtain⟨bs,y,g2,g⟩:=bI g;obtain⟨rt,F,g3,g⟩:=bI g;injection g with g;injection g with z G;subst z;obtain⟨A,H,I⟩:=ZU b (by decide) g1;obtain⟨B,J,K⟩:=ZU b (by decide) g2;obtain⟨c1,L,M⟩:=ZU b (by decide) g3;refine⟨f,d,⟨t,p,q⟩,A,?_,?_,l.2.1,l.2.2,by omega⟩
  ·rw[show i+2=v from by omega];exact B
  rw[show i+3=y from by omega];exact c1
 rename_i n
 obtain⟨_,v,g1,h⟩:=bI h;obtain⟨r,x,g,a⟩:=bI h;injection a with a;injection a with a o;subst a o;obtain⟨⟨t,p,_,_⟩,q⟩:=YF b g1;subst q;obtain⟨C,u1,u2⟩:=U1 b c.lit (m:=WX) (by simp[X7]) (Wq c.ns p) n;exact⟨f,d,⟨C,u1,u2⟩,yL b c.lit c.ns g (Wq c.ns s) l⟩
theorem Fv (n:en.sort=3)(o:GX body):∀m i c d k,body.length-i=m->i<=body.length->(∀x,x∈d->VE x)->Zr (body++[en]) i c=.ok (d,k)->∃h,d=c++h/\PL body i h:=by
 intro m
 induction m using D with
 |ind m t=>
  intro i c d k B hi p a;by_cases f:(Zo (body++[en]) i).sort=3
  ·rw[XD f]at a
   injection a with a;injection a with a _;subst a;exact⟨[],by simp,wY o.ns hi f⟩
  cases b:ZV (body++[en]) i with
  |error l=>rw[YK f b]at a;cases a
  |ok r=>
   obtain⟨e,j⟩:=r
   cases g:ZF (body++[en]) j Vd with
   |error l=>rw[Y9 f b g]at a;cases a
   |ok r=>
    obtain⟨u,q⟩:=r;rw[X6 f b g]at a;have C:=WY b;have v:=Yu g;obtain⟨⟨E,w,_,_⟩,_⟩:=YF n g;have y:j<body.length:=(iG.1 w).1;obtain⟨h,s,z⟩:=t (body.length-q) (by omega) q _ d k rfl (by omega) p a;refine⟨e::h,by rw[s,A];rfl,j,wZ n o b g (p e (by rw[s];simp)),?_⟩;rw[<-v];exact z
end
theorem LA {rts a r}(h:Xt rts a Y r=Y):a.length<8:=by
 rcases x0 a.length 8 with b|b
 ·exact b
 exfalso
 unfold Xt at h;rw[show decide (8<=a.length)=true from by simpa using b,Yx,Vi,ZM,ZM,ZM,ZQ]at h
 cases c:r.amount<;>rw[c]at h<;>simp only[Xb,ZM]at h<;>rw[ZQ,X8]at h<;>cases h
theorem NP {rts r}(h:Wp rts Y r=Y):rts.length<6:=by
 rcases x0 rts.length 6 with a|a
 ·exact a
 exfalso
 unfold Wp at h;rw[show decide (6<=rts.length)=true from by simpa using a,Yx,Vi,ZM,ZM]at h
 cases h
theorem Oi {s}:∀n k a b ts,s.size-k=n->k<=s.size->ZL s k a b=.ok ts->ts.length<=b.length+(s.size-k)+1:=by
 intro n
 induction n using D with
 |ind n e=>
  intro k a b ts g f h;by_cases c:k<s.size
  ·cases d:Zs s k a with
   |skip k' l'=>
    rw[YI c d]at h;have:=X5 c d;have:=e (s.size-k') (by omega) k' l' b ts rfl (by omega) h;omega
   |tok t k'=>
    rw[WH c d]at h;have:=WG c d;have:=e (s.size-k') (by omega) k' a (b++[t]) ts rfl (by omega) h;simp only[N,Z,E]at this;omega
   |bad=>rw[Xq c d]at h;cases h
  rw[WI c]at h
  injection h with h;subst h;simp
open Go.RowKit
theorem NQ (w b0 b1 ve a L)(h:w.ownsRow b0 256 1 ve a.length L)(hv:YV b1 w a L)(ho:∀x,x∈a->VE x)(hn:a.length<=4000):
  z7 U 102 #[ve] w (SS (ZS [] [] a) w):=by
 have HO:=Za ho;have HV:=Za hv;have HA:=(VA w (y0 #[C Y 0 0,C Y 0 0] 89)).1;have B:=Za (wU w);by_cases M:0<a.length
 ·obtain⟨g,cap,rfl,hb,hl⟩:=h.form M
  have D:∀k,(⟨g,0,Y⟩:Addr).add k=⟨g,k,Y⟩:=fun k=>by unfold Addr.add;split<;>simp_all
  have HC:H (∀j v,L[j]?=J v->w.cell? ⟨g,j,Y⟩=J v):=fun j v hj=>by have:=h.cells (g:=g) rfl j v hj;rwa [D]at this
  go_enter Tryz.func102,Tryz.ntmps102;go_wp2_with fail
  go_loopg [5,10] a.length (fun m _ c wr=>∃j rts d vr vl K,j<=a.length/\m=a.length-j/\c=P V j/\H (Bk wr w.heap.size vr vl rts d K)/\H (Below w.heap.size w wr)/\H (ZS [] [] a=ZS rts d (a.drop j)))
  case atStart=>exact⟨0,[],[],_,_,_,z8 _,rfl,rfl,B,HA.o.below (y7 _),rfl⟩
  obtain⟨j,rts,d,vr,vl,K,hj,rfl,rfl,N,l,E⟩:=hrel;by_cases O:j<a.length
  ·obtain⟨x,Q⟩:∃x,a[j]?=J x:=⟨_,gE O⟩
   obtain⟨v,R,hE⟩:=L6 HV.o Q;have HX:=Za (hE.fr (Fr.of_below (S:=fun _=>False) l.o) (by simp) (y7 _));have F:=Za (HO.o x (mG Q));have T:wr.cell? ⟨g,j,Y⟩=J v:=(l.o.cell (p:=⟨g,j,Y⟩) hl).trans (HC.o j v R)
   have b:H (a.drop j=x::a.drop (j+1)):=by
    obtain⟨G,n⟩:=iG.1 Q
    show _=_
    rw[dC G,n]
   have W:(j:Int)<(a.length:Int):=by omega
   cases x with
   |route r=>
    have X:v=.iface 290 (UW r):=HX.o;subst X
    have hm:∀w:x5,(method 506 290 (UW r) "junction/rules.addTo").run U w=.ok (314,UW r) w:=fun _=>by kernel_rfl
    go_wp2_with fail;refine(yJ _ w.heap.size _ _ rts d K r N.o F.o).mono ?_;intro e w2 I
    cases i:Vv rts d (.route r)with
    |error f=>
     obtain⟨n,q⟩:=(VQ.err i).1 I;unfold Zj at n;subst n
     have Z:ZS [] [] a=.error f:=by rw[E.o,b.o];exact YQ i
     exact⟨rfl,(SS.err Z).2 ⟨rfl,l.o.trans q⟩⟩
    |ok p=>
     obtain⟨rfl,⟨s,t,u,hk⟩,q⟩:=(VQ.ok i).1 I;have y:=Za hk;have z:=Za (l.o.trans q)
     have A:H (ZS [] [] a=ZS p.1 p.2 (a.drop (j+1))):=by show _=_;rw[E.o,b.o];exact Xn i
     go_wp2;go_roundg (a.length-(j+1))
     case measure=>omega
     exact⟨j+1,p.1,p.2,s,t,u,by omega,rfl,by go_num,y,z,A⟩
   |rule r=>
    obtain⟨vm,vc,vp,rfl,a0,c0,d0⟩:=HX.o;have e0:=Za a0;have f0:=Za c0;have g0:=Za d0
    have hm:∀w:x5,(method 506 295 (Oa r vm vc vp) "junction/rules.addTo").run U w=.ok (318,Oa r vm vc vp) w:=fun _=>by kernel_rfl
    go_wp2_with fail;refine(yK _ w.heap.size b1 _ _ rts d K r vm vc vp N.o F.o e0.o f0.o g0.o).mono ?_;intro e w2 I
    cases i:Vv rts d (.rule r)with
    |error f=>
     obtain⟨n,q⟩:=(VQ.err i).1 I;unfold Zj at n;subst n
     have Z:ZS [] [] a=.error f:=by rw[E.o,b.o];exact YQ i
     exact⟨rfl,(SS.err Z).2 ⟨rfl,l.o.trans q⟩⟩
    |ok p=>
     obtain⟨rfl,⟨s,t,u,hk⟩,q⟩:=(VQ.ok i).1 I;have y:=Za hk;have z:=Za (l.o.trans q)
     have A:H (ZS [] [] a=ZS p.1 p.2 (a.drop (j+1))):=by show _=_;rw[E.o,b.o];exact Xn i
     go_wp2;go_roundg (a.length-(j+1))
     case measure=>omega
     exact⟨j+1,p.1,p.2,s,t,u,by omega,rfl,by go_num,y,z,A⟩
  have W:¬(j:Int)<(a.length:Int):=by omega
  have HQ:H (ZS [] [] a=.ok (rts,d)):=by show _=_;rw[E.o,dL (by omega)];rfl
  go_wp2;go_ret;exact(SS.ok HQ.o).2 ⟨rfl,⟨_,_,_,N.o⟩,l.o⟩
 have hz:a=[]:=List.eq_nil_of_length_eq_zero (by omega)
 subst hz;rcases h.2 with⟨rfl,_⟩|⟨g,cap,h0,rfl,_⟩
 all_goals
  go_enter Tryz.func102,Tryz.ntmps102;go_wp2_with fail
  go_loopg [5,10] 1 (fun m _ c wr=>m=1/\c=P V 0/\wr=w.alloc (y0 #[C Y 0 0,C Y 0 0] 89))
  case atStart=>exact⟨rfl,rfl,rfl⟩
  obtain⟨rfl,rfl,rfl⟩:=hrel;go_wp2;go_ret;exact(SS.ok (p:=([],[])) rfl).2 ⟨rfl,⟨_,_,_,B.o⟩,HA.o.below (y7 _)⟩
def XG (s:ByteArray):Except (Nat×Nat) (List Zf×List Ze):=
 if 3000<s.size then .error (1,0)
 else match ZL s 0 1 []with
  | .error l=>.error (2,l)
  | .ok ts=>match Zr ts 0 []with
   | .error l=>.error (3,l)
   | .ok (xs,_)=>ZS [] [] xs
def Sv (x:Except (Nat×Nat) (List Zf×List Ze))(w:x5)(e:Ending)(w':x5):Prop:=
 match x with
 | .ok p=>(∃B a b c,e=K (y9 (J ⟨B,0,Y⟩))/\w.heap.size<=B/\Bk w' B a b p.1 p.2 c)/\Below w.heap.size w w'
 | .error f=>e=Zj f.1 f.2/\Below w.heap.size w w'
theorem Sv.ok {x w w' e p}(h:x=.ok p):Sv x w e w'↔(∃B a b c,e=K (y9 (J ⟨B,0,Y⟩))/\w.heap.size<=B/\Bk w' B a b p.1 p.2 c)/\Below w.heap.size w w':=by subst h;exact Iff.rfl
theorem Sv.err {x w w' e f}(h:x=.error f):Sv x w e w'↔e=Zj f.1 f.2/\Below w.heap.size w w':=by subst h;exact Iff.rfl
theorem Vn.ok {w w' s e ts}(h:ZL s 0 1 []=.ok ts):Vn w s e w'↔(∃v,e=K v/\w'.ownsRow w.heap.size 263 3 v ts.length (Ys ts)/\ts.length<=s.size+1)/\Below w.heap.size w w':=by unfold Vn;rw[h]
theorem Vn.err {w w' s e l}(h:ZL s 0 1 []=.error l):Vn w s e w'↔e=Zj 2 l/\Below w.heap.size w w':=by unfold Vn;rw[h]
theorem WM.ok {w w' ts e a k}(h:Zr ts 0 []=.ok (a,k)):WM w ts e w'↔(∃v b,e=K v/\w'.ownsRow w.heap.size 256 1 v a.length b/\YV w.heap.size w' a b/\a.length<=4000)/\Below w.heap.size w w':=by unfold WM;rw[h]
theorem WM.err {w w' ts e l}(h:Zr ts 0 []=.error l):WM w ts e w'↔e=Zj 3 l/\Below w.heap.size w w':=by unfold WM;rw[h]
theorem AF (s w):z7 U 58 #[I s] w (Sv (XG s) w):=by
 by_cases O:3000<s.size
 ·have V:H (XG s=.error (1,0)):=by show _=_;unfold XG;rw[if_pos O]
  go_enter Tryz.func58,Tryz.ntmps58;go_wp2;exact⟨rfl,(Sv.err V.o).2 ⟨rfl,Below.refl _ _⟩⟩
 have n:=Za O
 go_enter Tryz.func58,Tryz.ntmps58;go_wp2_with fail;refine(Aa s w (by have:=n.o;omega)).mono ?_;intro e F h
 cases u:ZL s 0 1 []with
 |error l=>
  obtain⟨i,b⟩:=(Vn.err u).1 h;unfold Zj at i;subst i;exact⟨rfl,(Sv.err (f:=(2,l)) (by unfold XG;rw[if_neg n.o,u])).2 ⟨rfl,b⟩⟩
 |ok ts=>
  obtain⟨⟨v,rfl,a,x⟩,b⟩:=(Vn.ok u).1 h;obtain⟨y,q,m⟩:=SR _ 0 1 [] ts rfl (by simp) u;obtain⟨g,cap,rfl,hb,W⟩:=a.form m
  have z:∀k,(⟨g,0,Y⟩:Addr).add k=⟨g,k,Y⟩:=fun k=>by unfold Addr.add;split<;>simp_all
  have A:=Za y;have G:=Za x;have P:=Za u;have d:=Za b
  have X:H (z7 U 103 #[C (J ⟨g,0,Y⟩) ts.length cap] F (WM F ts)):=by
   refine Cb F g cap ts (fun j t Z=>?_) W m (by have:=n.o;omega) q;obtain⟨t0,t1,t2⟩:=PB ts j t Z;have Q:=a.cells (g:=g) rfl _ _ t0;have R:=a.cells (g:=g) rfl _ _ t1;have S:=a.cells (g:=g) rfl _ _ t2;rw[z]at Q R S;exact⟨Q,R,S⟩
  go_wp2_with fail;refine X.o.mono ?_;intro e w2 h
  cases B:Zr ts 0 []with
  |error l=>
   obtain⟨i,b⟩:=(WM.err B).1 h;unfold Zj at i;subst i;exact⟨rfl,(Sv.err (f:=(3,l)) (by unfold XG;rw[if_neg n.o,P.o];dsimp only;rw[B])).2 ⟨rfl,d.o.trans (b.mono d.o.size)⟩⟩
  |ok r=>
   obtain⟨D,k⟩:=r;obtain⟨⟨v,vs,rfl,a,K,L⟩,b⟩:=(WM.ok B).1 h;have HE:=Za (NO A.o (by have:=n.o;omega) (by have:=n.o;have:=G.o;omega) _ 0 [] D k rfl (by simp) B);have HU:=Za (NQ w2 _ _ v D vs a K HE.o L)
   have T:H (XG s=ZS [] [] D):=by show _=_;unfold XG;rw[if_neg n.o,P.o];dsimp only;rw[B]
   have c:=Za (d.o.trans (b.mono d.o.size));obtain⟨a1,a2,a3,rfl⟩:=ZB a;go_wp2_with fail;refine HU.o.mono ?_;intro e w3 h
   cases E:ZS [] [] D with
   |error f=>
    obtain⟨i,b⟩:=(SS.err E).1 h;unfold Zj at i;subst i;exact⟨rfl,(Sv.err (T.o.trans E)).2 ⟨rfl,c.o.trans (b.mono c.o.size)⟩⟩
   |ok p=>
    obtain⟨rfl,M,b⟩:=(SS.ok E).1 h;have HK:=Za M;have N:=Za (c.o.trans (b.mono c.o.size));have HM:=Za (T.o.trans E);go_wp2;go_ret;obtain⟨vr,vl,ys,M⟩:=HK.o;exact(Sv.ok HM.o).2 ⟨⟨_,_,_,_,rfl,c.o.size,M⟩,N.o⟩
def LB (t:Zf):Prop:=t.name.size<=3000/\t.base<1000000000/\t.rate<1000000000
structure Tf (n:Nat)(r:Ze):Prop where
 nm:r.name.size<=3000
 rk:r.rank<1000000000
 dg:r.digits<=9
 lo:r.lo<1000000000/\(Yb r.lo).length<=r.digits
 hi:r.hi<1000000000/\(Yb r.hi).length<=r.digits
 mc:r.mcc.length<=4000/\∀x,x∈r.mcc->x<1000000000
 cu:r.cur.length<=4000/\∀x,x∈r.cur->x<1000000000
 am:∀ab,r.am=J ab->ab.1<1000000000/\ab.2<1000000000
 pl:r.routes.length<=4000/\∀x,x∈r.routes->x<n
 ah:r.ahead<=n
 bn:r.digits<=6/\r.hi<10^r.digits/\r.lo<=r.hi
def Cr:Nat->List Ze->Prop
 |_,[]=>True
 |told,r::rs=>told<=r.ahead/\Cr r.ahead rs
structure Yy (rts:List Zf)(rls:List Ze):Prop where
 rt:∀t,t∈rts->LB t
 rl:∀r,r∈rls->Tf rts.length r
 ah:Cr 0 rls
 r6:rts.length<=6
 l8:rls.length<=8
theorem Kh {r:Ze}{n:Nat}(c:r.ahead=n):∀(b:List Ze)(a:Nat),a<=n->(∀x,x∈b->x.ahead<=n)->Cr a b->Cr a (b++[r])
 |[],a,h,_,_=>⟨by omega,trivial⟩
 |x::xs,a,_,ha,h=>⟨h.1,Kh c xs x.ahead (ha x (by simp)) (fun y d=>ha y (by simp[d])) h.2⟩
theorem Tf.more {n r}(h:Tf n r){m}(a:n<=m):Tf m r:=
 ⟨h.nm,h.rk,h.dg,h.lo,h.hi,h.mc,h.cu,h.am,⟨h.pl.1,fun x b=>nL (h.pl.2 x b) a⟩,G h.ah a,h.bn⟩
theorem Ct (t)(d:Dg t.text):Zd t<10^t.text.size:=by
 have h:=O4 t.text.data.toList 0 (fun c f=>by
  obtain⟨k,b,e⟩:=List.getElem_of_mem f;have a:=(d.2 k (by simpa using b)).2;unfold ZD at a;rw[gD,gE b,e]at a;simp at a
  omega)
 have e:t.text.data.toList.length=t.text.size:=by simp
 rw[e]at h;unfold Zd Yv;omega
theorem Fw {rts j e r}(h:Z8 rts j e=.ok r)(w:VE (.rule e))(g:Cp (.rule e)):Tf rts.length r/\r.ahead=rts.length:=by
 obtain⟨y,z,k,l,A,B,s,C,D,E⟩:=w;have g:1<=e.bin.1.text.size/\1<=e.bin.2.text.size:=g;unfold Z8 at h
 split at h
 ·cases h
 split at h
 ·cases h
 split at h
 ·cases h
 split at h
 ·cases h
 split at h
 ·cases h
 rename_i L F
 split at h
 ·cases h
 rename_i G
 cases m:Zp 9999 0 e.mcc with
 |error f=>rw[m]at h;cases h
 |ok c=>
  rw[m]at h
  dsimp only at h
  split at h
  ·cases h
  cases n:Zp 999 0 e.cur with
  |error f=>rw[n]at h;cases h
  |ok d=>
   rw[n]at h
   dsimp only at h
   cases o:Zw rts 0 e.act.routes with
   |error f=>rw[o]at h;cases h
   |ok u=>
    rw[o]at h;injection h with h;subst h;have H:=(WO 9999 e.mcc 0 (by omega)).2 c m;have I:=(WO 999 e.cur 0 (by omega)).2 d n;obtain⟨J,K⟩:=PK rts e.act.routes 0 u o
    have b:e.bin.2.text.size=e.bin.1.text.size:=by omega
    have M:u.length=e.act.routes.length:=by have:=congrArg v7 J;simpa using this
    refine⟨⟨y,Wl _ z,k.1,⟨Wl _ k,(QO _ k g.1).2⟩,⟨Wl _ l,by dsimp only;rw[<-b];exact(QO _ l g.2).2⟩,?_,?_,?_,⟨by dsimp only;omega,K⟩,y7 _,by dsimp only;omega,by dsimp only;rw[<-b];exact Ct _ l,by dsimp only;omega⟩,rfl⟩
    ·dsimp only
     rw[H];refine⟨by simpa using C,fun x p=>?_⟩;obtain⟨t,q,rfl⟩:=x7.1 p;exact Wl _ (A t q)
    ·dsimp only
     rw[I];refine⟨by simpa using D,fun x p=>?_⟩;obtain⟨t,q,rfl⟩:=x7.1 p;exact Wl _ (B t q)
    intro N a
    dsimp only at a
    cases i:e.amount with
    |none=>rw[i]at a;cases a
    |some v=>
     rw[i]at a;simp only[Option.map_some,Option.some.injEq]at a;subst a;exact⟨Wl _ (s v i).1,Wl _ (s v i).2⟩
theorem NR:∀(d:List Vu)(rts:List Zf)(a:List Ze)(p:List Zf×List Ze),Yy rts a->YW (rts.map Zf.name)->(∀x,x∈d->VE x/\Cp x)->ZS rts a d=.ok p->Yy p.1 p.2
 |[],rts,a,p,hB,_,_,h=>by
  simp only[ZS]at h;injection h with h;subst h;exact hB
 | .route e::d,rts,a,p,hB,hd,ho,h=>by
  have g:VE (.route e):=(ho (.route e) (by simp)).1
  cases b:ZE rts e with
  |error f=>rw[YQ (f:=f) (by simp only[Vv,b])]at h;cases h
  |ok t=>
   rw[Xn (p:=(rts++[t],a)) (by simp only[Vv,b])]at h;have j:=VS hB.r6 hd b;have l:=(Tm rts e hB.r6).2 t b;refine NR d (rts++[t]) a p ⟨fun u i=>?_,fun r c=>(hB.rl r c).more (by simp),hB.ah,j.2,hB.l8⟩ j.1 (fun x k=>ho x (by simp[k])) h;rcases L.1 i with i|i
   ·exact hB.rt u i
   simp at i
   subst i;rw[l];exact⟨g.1,Wl _ g.2.1,Wl _ g.2.2⟩
 | .rule e::d,rts,a,p,hB,hd,ho,h=>by
  have g:=ho (.rule e) (by simp)
  cases b:Z8 rts a e with
  |error f=>rw[YQ (f:=f) (by simp only[Vv,b])]at h;cases h
  |ok t=>
   rw[Xn (p:=(rts,a++[t])) (by simp only[Vv,b])]at h;obtain⟨m,n⟩:=Fw b g.1 g.2;refine NR d rts (a++[t]) p ⟨hB.rt,fun r c=>?_,Kh n a 0 (z8 _) (fun x k=>(hB.rl x k).ah) hB.ah,hB.r6,Og hB.l8 b⟩ hd (fun x k=>ho x (by simp[k])) h;rcases L.1 c with c|c
   ·exact hB.rl r c
   simp at c
   subst c;exact m
theorem NS {s p}(h:XG s=.ok p):Yy p.1 p.2:=by
 unfold XG at h
 split at h
 ·cases h
 rename_i o
 cases a:ZL s 0 1 []with
 |error l=>rw[a]at h;cases h
 |ok ts=>
  rw[a]at h
  dsimp only at h
  cases b:Zr ts 0 []with
  |error l=>rw[b]at h;cases h
  |ok r=>
   obtain⟨e,k⟩:=r;rw[b]at h
   dsimp only at h
   obtain⟨body,f,i,g⟩:=II a;have c:=Oi _ 0 1 [] ts rfl (z8 _) a;simp only[E]at c;have j:=NO (ts:=ts) (n:=s.size) (SR _ 0 1 [] ts rfl (by simp) a).1 (by omega) (by omega) _ 0 [] e k rfl (by simp) b;rw[f]at b;have m:=E4 rfl i _ 0 [] e k rfl (fun x d=>by simp at d) b;exact NR e [] [] p ⟨by simp,by simp,trivial,by simp,by simp⟩ trivial (fun x d=>⟨j x d,(m x d).2⟩) h
def QS (w:x5):Prop:=Lib.TabIs U w "internal/strconv.uint64pow10" .u64 Lib.pow10Tab
theorem QS.fr {w w'}(h:QS w)(a:F0 w w'):QS w':=Lib.tabBelow_of_tabIs h w' (a.below (y7 _))
theorem QS.below {w w'}(h:QS w){B}(b:w.heap.size<=B)(a:Below B w w'):QS w':=Lib.tabBelow_of_tabIs h w' ⟨a.os,a.tape,a.output,a.size,fun k c=>a.block k (nL c b)⟩
def ZR (l:List UInt8):ByteArray:=⟨l.toArray⟩
theorem XN (l):(ZR l).size=l.length:=rfl
theorem QT (n:Nat)(w)(d:n<=9223372036854775807)(b:QS w):z7 U 106 #[P V (n:Int)] w fun e w'=>e=K (I (ZR (Yb n)))/\F0 w w':=
 (Tryz.strconv_Itoa (n:Int) (by omega) (by omega) w b).mono fun e w' ⟨a,k,os,c⟩=>by
  rw[Lib.itoa_nonneg]at a;refine⟨a,?_⟩;subst c;refine⟨rfl,rfl,rfl,?_,fun i hi _=>?_⟩
  ·show w.heap.size<=(w.heap++os).size
   simp
  show(w.heap++os)[i]?=w.heap[i]?
  exact Array.getElem?_append_left hi
theorem Xu (n)(h:n<1000000000):(Yb n).length<=21:=by
 have:=Lib.itoa_length_le (n:Int) (by omega) (by omega);rw[Lib.itoa_nonneg]at this;exact this
def Bd (w:x5)(B b:Nat)(l:List UInt8):Prop:=Lib.IsBuilderF 116 5 B b (Lib.byteCells l) w
theorem E5 {T e B b p bs w w'}(h:Lib.BuilderAtF T e B b p bs w)(i:F0 w w'):Lib.BuilderAtF T e B b p bs w':=by
 obtain⟨j,v,k,⟨a,c⟩,d⟩:=h;refine⟨j,v,i.whole k,⟨a,?_⟩,d⟩;rcases c with l|⟨g,cap,f,m,n,o,q,r⟩
 ·exact .inl l
 exact .inr ⟨g,cap,f,m,n,o,i.whole q,r⟩
theorem Bd.fr {w w' B b l}(h:Bd w B b l)(a:F0 w w'):Bd w' B b l:=
 h.elim (fun x=>.inl (E5 x a)) (fun x=>.inr (E5 x a))
theorem Bd.lt {w B b l}(h:Bd w B b l):B<=b/\b<w.heap.size:=
 h.elim (fun x=>⟨x.1,x.lt⟩) (fun x=>⟨x.1,x.lt⟩)
theorem Cu (B b l s w)(h:Bd w B b l)(a:l.length+s.size<=140737488355328)(c:B<=w.heap.size):
  z7 U 105 #[y9 (J ⟨b,0,Y⟩),I s] w fun e w'=>e=K (.tuple #[P V s.size,.nilIface])/\Bd w' B b (l++s.data.toList)/\Below B w w'/\Lib.OthersKept 5 (J b) w w':=
 (Any.Builder_WriteString_k (ρ:=Tryz.lays156_ren) {Tryz.lays156 with} Tryz.Builder_Extra_156 B b (Lib.byteCells l) s w h (by rw[Lib.byteCells_length];exact a) c).mono fun e w' ⟨f,d,g,i⟩=>by
  refine⟨f,?_,g,i⟩;rw[Lib.strCells_eq]at d
  have j:Lib.byteCells (l++s.data.toList)=Lib.byteCells l++Lib.byteCells s.data.toList:=by unfold Lib.byteCells;rw[v2]
  unfold Bd;rw[j];exact .inr d
theorem IJ (B b l w)(h:Bd w B b l)(a:B<=w.heap.size):
  z7 U 61 #[y9 (J ⟨b,0,Y⟩)] w fun e w'=>e=K (I (ZR l))/\Below B w w':=
 (Tryz.Builder_String_any_k B b l w h a).mono fun _ _ ⟨c,_,d,_⟩=>⟨c,d⟩
theorem IK (c):Lib.repeatL [48] c=z0 c 48:=by
 induction c with
 |zero=>rfl
 |succ c a=>rw[Lib.repeatL,a];rfl
theorem Fx (c:Nat)(w)(d:c<=9):z7 U 162 #[I ⟨#[48]⟩,P V (c:Int)] w fun e w'=>e=K (I (ZR (z0 c 48)))/\F0 w w':=
 (Tryz.strings_Repeat ⟨#[48]⟩ c w (by omega) (by show 1*c<=_;omega)).mono fun e w' ⟨a,b⟩=>⟨by rw[a];show _=v3 (I ⟨(z0 c 48).toArray⟩);rw[<-IK],Fr.of_below b⟩
theorem Fy (n d w)(i:QS w)(z:n<1000000000)(A:d<=9)(p:(Yb n).length<=d):
  z7 U 107 #[P V (n:Int),P V (d:Int)] w fun e w'=>e=K (I (ZR (TQ n d)))/\F0 w w':=by
 have j:=Za (QT n w (by omega) i);obtain⟨t,b⟩:∃t,t=ZR (Yb n):=⟨_,rfl⟩;rw[<-b]at j
 have c:t.size=(Yb n).length:=by rw[b];rfl
 obtain⟨k,l⟩:∃k,k=t.size:=⟨_,rfl⟩
 have q:k<=d:=by omega
 have r:t.size=k:=l.symm
 have B:v8.wrap ((d:Int)-(k:Int))=((d-k:Nat):Int):=by rw[IntWalk.i64_in _ (by omega)];omega
 have s:=Za b
 have v:H (k=(Yb n).length):=by show _=_;omega
 have m:H (∀W,z7 U 162 #[I ⟨#[48]⟩,P V ((d-k:Nat):Int)] W fun e w'=>e=K (I (ZR (z0 (d-k) 48)))/\F0 W w'):=fun W=>Fx (d-k) W (by omega)
 have x:(ZR (z0 (d-k) 48)).size<=9:=by rw[XN,List.length_replicate];omega
 obtain⟨u,f⟩:∃u,u=ZR (z0 (d-k) 48):=⟨_,rfl⟩;rw[<-f]at m x;have y:=Za f;clear b c l f p i;go_enter Tryz.func107,Tryz.ntmps107;go_wp2_with fail;refine j.o.mono ?_;rintro e C ⟨rfl,a⟩;have g:=Za a;clear a;go_wp2_with fail;refine(m.o _).mono ?_;rintro e w2 ⟨rfl,a⟩;have h:=Za (g.o.trans a);clear a;go_wp2_with fail;go_ret;refine⟨?_,h.o⟩
 have e:u++t=ZR (TQ n d):=by
  apply ByteArray.ext;apply Array.ext';rw[y.o,s.o];simp[ZR,TQ,v.o]
 rw[<-e];rfl
theorem Ki (g o k):(⟨g,o,Y⟩:Addr).add k=⟨g,o+k,Y⟩:=by unfold Addr.add;split<;>simp_all
theorem RN:(U.info? 9).map (fun i=>(i.zero,i.size,i.bytes))=J (J (I ByteArray.empty),1,16):=by kernel_rfl
def Sd (l:List Bs):List Value:=l.map fun x=>Value.string (ZR x)
theorem Oj (l x):Sd (l++[x])=Sd l++[I (ZR x)]:=by unfold Sd;rw[v2];rfl
theorem Fz (r:List Bs):(r.map ([44,32]++·)).flatten=r.flatMap fun u=>44::32::u:=by
 induction r with
 |nil=>rfl
 |cons y r a=>rw[q9,List.flatten_cons,a];rfl
theorem NT (l):Lib.join l [44,32]=Xd l:=by
 cases l with
 |nil=>rfl
 |cons x r=>rw[Lib.join_cons,Lib.joinTail,Fz];rfl
theorem Uk (l m)(h:∀x,x∈l->x.length<=m):(Xd l).length<=l.length*(m+2):=by
 have c:∀r:List Bs,(∀x,x∈r->x.length<=m)->(r.flatMap fun u=>44::32::u).length<=r.length*(m+2):=by
  intro r
  induction r with
  |nil=>intro _;simp
  |cons y r d=>
   intro b;have e:=d (fun x a=>b x (by simp[a]));have f:=b y (by simp);rw[M,lA];simp only[Z];rw[v0];omega
 cases l with
 |nil=>simp[Xd]
 |cons x r=>
  have e:=c r (fun x a=>h x (by simp[a]));have f:=h x (by simp);simp only[Xd];rw[lA,Z,v0];omega
theorem Ur {w:x5}{base e a v n b}(h:w.ownsRow base e a v n b)(k:0<n):∃g cap,v=C (J ⟨g,0,Y⟩) n cap/\base<=g/\g<w.heap.size/\n<=cap:=by
 rcases h.2 with⟨_,e⟩|⟨g,cap,c,d,f,i,j,_⟩
 ·omega
 exact⟨g,cap,d,f,(iA.1 i).1,j⟩
theorem IL (w base v l m)(h:w.ownsRow base 9 1 v l.length (Sd l))(o:l.length<=4000)(p:∀x,x∈l->x.length<=m)(q:m<=3000):
  z7 U 163 #[v,I ⟨#[44,32]⟩] w fun e w'=>e=K (I (ZR (Xd l)))/\F0 w w':=by
 by_cases r:0<l.length
 ·obtain⟨g,cap,e,B,s,t⟩:=Ur h r
  subst e
  have k:((l.map ZR).map (·.data.toList))=l:=by rw[v5];exact List.map_id' l
  have n:=Uk l m p;have d:l.length*(m+2)<=4000*3002:=q5 o (by omega)
  have:=Tryz.strings_Join g 0 cap (l.map ZR) ⟨#[44,32]⟩ w (fun j x b=>by
   rw[F]at b
   cases f:l[j]? with
   |none=>rw[f]at b;cases b
   |some y=>
    rw[f]at b;simp only[Option.map_some,Option.some.injEq]at b;have:=h.cells (g:=g) rfl j (I (ZR y)) (by unfold Sd;rw[F,f];rfl);rw[Ki]at this;rw[<-b]
    exact this) s (by rw[O];omega) (by rw[O];exact t) (by rw[k];show(Lib.join l [44,32]).length<=_;rw[NT];omega)
  rw[O]at this
  refine this.mono fun e w' ⟨i,u⟩=>⟨?_,Fr.of_below u⟩
  rw[i,k]
  show _=v3 (I ⟨(Xd l).toArray⟩)
  rw[<-NT]
 have z:l=[]:=x8.1 (by omega)
 subst z;obtain⟨a,c,e⟩:=oL h;subst e
 exact(Tryz.strings_Join_none a c ⟨#[44,32]⟩ w).mono fun e w' ⟨i,hw⟩=>⟨i,by rw[hw];exact Zt⟩
theorem PM (w base v l)(h:w.ownsRow base 3 1 v l.length (Zg l))(X:0<l.length)(Z:l.length<=4000)(z:∀x,x∈l->x<1000000000)(ht:QS w):
  z7 U 108 #[v] w fun e w'=>e=K (I (ZR (Xd (l.map Yb))))/\F0 w w':=by
 obtain⟨ii,hi,C,D,E⟩:=info_parts RN;obtain⟨g,cap,rfl,hb,q,r⟩:=Ur h X
 have f:H (∀j x,l[j]?=J x->w.cell? ⟨g,j,Y⟩=J (P V (x:Nat))):=by
  intro j x hj;have:=h.cells (g:=g) rfl j (P V x) (by unfold Zg;rw[F,hj];rfl)
  rwa [Ki,v6]at this
 have HT:=Za ht;have HX:=Za z;have HG:=Za q;obtain⟨n,G⟩:∃n,l.length=n:=⟨_,rfl⟩;have L:=Za G;rw[G]at Z X r ⊢;clear h z ht G hb q;go_enter Tryz.func108,Tryz.ntmps108;go_wp2_with fail
 go_loopg [3,5,8] n (fun m o _ ix wr=>∃k,k<=n/\m=n-k/\ix=P V (k:Nat)/\H (wr.ownsRow w.heap.size 9 1 o k (Sd ((l.map Yb).take k)))/\H (F0 w wr))
 case atStart=>exact⟨0,z8 _,rfl,rfl,oZ _ _ _ _,Zt⟩
 obtain⟨k,A,rfl,rfl,HO,B⟩:=hrel;by_cases b0:k<n
 ·obtain⟨x,b⟩:∃x,l[k]?=J x:=⟨_,gE (by have:=L.o;omega)⟩
  have c0:wr.cell? ⟨g,k,Y⟩=J (P V (x:Nat)):=(B.o.cell (p:=⟨g,k,Y⟩) HG.o).trans (f.o k x b)
  have M:H ((l.map Yb).take (k+1)=(l.map Yb).take k++[Yb x]):=by show _=_;rw[x6,F,b];rfl
  have HI:=Za (QT x wr (by have:=HX.o x (mG b);omega) (HT.o.fr B.o))
  have N:(k:Int)<(n:Int):=by omega
  clear b;go_wp2_with fail;refine HI.o.mono ?_;rintro e w1 ⟨rfl,i⟩;have s:=Za (B.o.trans i);have u:=Za (oF HO.o i);have d0:=s.o.size;obtain⟨t,Q⟩:∃t,t=ZR (Yb x):=⟨_,rfl⟩;rw[<-Q];have R:=Za Q;clear i c0 Q
  go_wp2_with (at_builtin;refine wpList_append_lies _ rfl (.tmp 12) (.tmp 15) 28 rfl w.heap.size 9 ii _ 1 16 Tryz.underlying28 hi C D E rfl (by decide) u3 k (Sd ((l.map Yb).take k)) rfl ?h1 ⟨w1.heap.size,0,Y⟩ 1 1 [I t] rfl rfl ?h2 ?h3 (by decide) ?h4 ?h5 ?h6 _ rfl ?h7)
  case h1=>exact u.o.alloc _
  case h2=>exact World.news_of_block (aN w1 _)
  case h3=>simp[v4]
  case h4=>unfold maxLen;omega
  case h5=>omega
  case h6=>first|omega|(simp;omega)
  intro g2 a0 w5 c a _ _
  have d:∀k,u3.ownBlock=J k->w.heap.size<=k:=fun k A=>(u.o.lt k A).1
  have S:=Za c;have T:=Za ((s.o.alloc _).grown a (fun k A=>Or.inr (d k A)));clear a c d;go_wp2;go_roundg (n-(k+1))
  case measure=>omega
  refine⟨k+1,by omega,rfl,by go_num,?_,T⟩
  show World.ownsRow _ _ _ _ _ _ _
  rw[M.o,Oj,<-R.o];exact S.o
 have N:¬(k:Int)<(n:Int):=by omega
 have ek:k=n:=by omega
 subst ek
 have HJ:H (z7 U 163 #[u3,I ⟨#[44,32]⟩] wr fun e w'=>e=K (I (ZR (Xd (l.map Yb))))/\F0 wr w'):=by
  have ho:=HO.o;rw[y8 (by rw[O];have:=L.o;omega)]at ho;have e:=L.o;refine IL wr w.heap.size u3 (l.map Yb) 21 (by rw[O,e];exact ho) (by rw[O,e];exact Z) (fun x z=>?_) (by omega);obtain⟨y,hy,rfl⟩:=x7.1 z;exact Xu y (HX.o y hy)
 go_wp2_with fail;refine HJ.o.mono ?_;rintro e w2 ⟨rfl,i⟩;have W:=Za (B.o.trans i);clear i;go_wp2;go_ret;exact⟨rfl,W.o⟩
def NU (a b:Bool)(l:List Bs):Bs:=if a then[100,101,99,108,105,110,101]else(if b then[99,104,101,97,112,101,115,116,32]else[])++Xd l
theorem yT (rts r):32::NU r.decline r.cheapest (r.routes.map (Z0 rts))=ub rts r:=by
 unfold NU ub
 cases r.decline<;>cases r.cheapest<;>rfl
def Kj (c:ByteArray)(d e f g:Int)(h:Option Addr)(i j:Nat)(a:Bool)(k l:Int)(m:Option Addr)(n o:Nat)(p q:Bool)(r:Option Addr)(s t:Nat)(b:Int):Value:=
 .agg #[I c,P V d,P V e,P V f,P V g,C h i j,x9 a,P V k,P V l,C m n o,x9 p,x9 q,C r s t,P V b]
theorem OL (w Bb vr rts base a nm i1 i2 i3 i4 ma mn mc l i7 i8 ca cn cc dc z A T q)(hb:w.cell? ⟨Bb,0,Y⟩=J vr)(hr:w.ownsRow base 148 3 vr rts.length (Yi rts))(W:w.ownsRow base 3 1 (C A a.length T) a.length (Zg a))(hl:a.length<=4000)(B:∀p,p∈a->p<rts.length)(D:∀t,t∈rts->t.name.size<=3000)(h6:rts.length<=6):
  z7 U 109 #[y9 (J ⟨Bb,0,Y⟩),Kj nm i1 i2 i3 i4 ma mn mc l i7 i8 ca cn cc dc z A a.length T q] w fun e w'=>e=K (I (ZR (NU dc z (a.map (Z0 rts)))))/\F0 w w':=by
 unfold Kj;obtain⟨ii,hi,a0,d0,e0⟩:=info_parts RN;obtain⟨va,vc,hv⟩:=oL hr;subst hv;have f0:=Za (bL w _ hb)
 have g0:H (∀j p,a[j]?=J p->∃g,A=J ⟨g,0,Y⟩/\g<w.heap.size/\w.cell? ⟨g,j,Y⟩=J (P V (p:Nat))):=by
  intro j p c;obtain⟨g,cap,e,_,E,_⟩:=Ur W (by have:=(iG.1 c).1;omega);injection e with e1 e2 e3;subst e1;refine⟨g,rfl,E,?_⟩;have:=W.cells (g:=g) rfl j (P V p) (by unfold Zg;rw[F,c];rfl)
  rwa [Ki,v6]at this
 have h0:H (∀j t,rts[j]?=J t->∃g,va=J ⟨g,0,Y⟩/\g<w.heap.size/\w.cell? ⟨g,j*3,Y⟩=J (I t.name)):=by
  intro j t c;obtain⟨g,cap,e,_,E,hc⟩:=U0 hr (by have:=(iG.1 c).1;omega);injection e with e1 e2 e3;exact⟨g,e1,E,(hc j t c).1⟩
 have i0:=Za B;have j0:=Za D;have G:=Za hb;obtain⟨n,hn⟩:∃n,a.length=n:=⟨_,rfl⟩;have Z:=Za hn;obtain⟨nr,r⟩:∃nr,rts.length=nr:=⟨_,rfl⟩;have L:=Za r;rw[r]at G h6;rw[hn]at hl ⊢;clear hb hr W B D hn r;go_enter Tryz.func109,Tryz.ntmps109
 cases dc with
 |true=>
  go_wp2_with fail;go_ret;exact⟨rfl,Zt.alloc _⟩
 |false=>
  go_wp2_with fail;have M:=aN w (y0 #[I nm,P V i1,P V i2,P V i3,P V i4,C ma mn mc,x9 l,P V i7,P V i8,C ca cn cc,x9 false,x9 z,C A n T,P V q] 120);have s:=Za (Zc M 11);have k0:=(VA w (y0 #[I nm,P V i1,P V i2,P V i3,P V i4,C ma mn mc,x9 l,P V i7,P V i8,C ca cn cc,x9 false,x9 z,C A n T,P V q] 120)).1;clear M;generalize w.alloc _=y at*;obtain⟨X,hX⟩:∃X,w.heap.size=X:=⟨_,rfl⟩;rw[hX]at s ⊢;clear hX
  go_loopg [5,7,14] n (fun m o _ ix wr=>∃k,k<=n/\m=n-k/\ix=P V (k:Nat)/\H (wr.ownsRow y.heap.size 9 1 o k (Sd ((a.map (Z0 rts)).take k)))/\H (F0 y wr))
  case atStart=>exact⟨0,z8 _,rfl,rfl,oZ _ _ _ _,Zt⟩
  obtain⟨k,hk,rfl,rfl,HO,HF⟩:=hrel;have d:=Za (k0.o.trans HF.o);by_cases w0:k<n
  ·obtain⟨p,f⟩:∃p,a[k]?=J p:=⟨_,gE (by have:=Z.o;omega)⟩
   obtain⟨g,l0,E,c0⟩:=g0.o k p f;rw[<-d.o.cell (p:=⟨g,k,Y⟩) E (by simp)]at c0
   have x0:p<nr:=by have:=i0.o p (mG f);have:=L.o;omega
   obtain⟨t,u⟩:∃t,rts[p]?=J t:=⟨_,gE (by have:=L.o;omega)⟩;obtain⟨gr,N,m0,r0⟩:=h0.o p t u;rw[<-d.o.cell (p:=⟨gr,p*3,Y⟩) m0 (by simp)]at r0;have b0:=(d.o.cell (p:=⟨Bb,0,Y⟩) f0.o).trans G.o;rw[N]at b0;subst l0
   have n0:H ((a.map (Z0 rts)).take (k+1)=(a.map (Z0 rts)).take k++[t.name.data.toList]):=by show _=_;rw[x6,F,f];simp[Z0,u]
   have o0:(k:Int)<(n:Int):=by omega
   have z0:(p:Int)<(nr:Int):=by omega
   have A0:=HF.o.size;clear f u N
   go_wp2_with (at_builtin;refine wpList_append_lies _ rfl (.tmp 18) (.tmp 27) 28 rfl y.heap.size 9 ii _ 1 16 Tryz.underlying28 hi a0 d0 e0 rfl (by decide) u5 k (Sd ((a.map (Z0 rts)).take k)) rfl ?h1 ⟨wr.heap.size,0,Y⟩ 1 1 [I t.name] rfl rfl ?h2 ?h3 (by decide) ?h4 ?h5 ?h6 _ rfl ?h7)
   case h1=>exact HO.o.alloc _
   case h2=>exact World.news_of_block (aN wr _)
   case h3=>simp[v4]
   case h4=>unfold maxLen;omega
   case h5=>omega
   case h6=>first|omega|(simp;omega)
   intro g2 t0 w5 h b _ _
   have i:∀k,u5.ownBlock=J k->y.heap.size<=k:=fun k hk=>(HO.o.lt k hk).1
   have p0:=Za h;have q0:=Za ((HF.o.alloc _).grown b (fun k hk=>Or.inr (i k hk)));clear b h i;go_wp2;go_roundg (n-(k+1))
   case measure=>omega
   refine⟨k+1,by omega,rfl,by go_num,?_,q0⟩
   show World.ownsRow _ _ _ _ _ _ _
   rw[n0.o,Oj];exact p0.o
  have o0:¬(k:Int)<(n:Int):=by omega
  have ek:k=n:=by omega
  subst ek;have v:=(HF.o.cell (p:=⟨X,11,Y⟩) (bL y _ s.o)).trans s.o
  have Q:H (∀x,x∈a.map (Z0 rts)->x.length<=3000):=fun x hx=>by
   obtain⟨p,W,rfl⟩:=x7.1 hx;unfold Z0
   cases hq:rts[p]? with
   |none=>simp
   |some t=>
    have:=j0.o t (mG hq)
    simpa using this
  have HJ:H (z7 U 163 #[u5,I ⟨#[44,32]⟩] wr fun e w'=>e=K (I (ZR (Xd (a.map (Z0 rts)))))/\F0 wr w'):=by
   have ho:=HO.o;rw[y8 (by rw[O];have:=Z.o;omega)]at ho;have e:=Z.o;exact IL wr y.heap.size u5 (a.map (Z0 rts)) 3000 (by rw[O,e];exact ho) (by rw[O,e];exact hl) Q.o (by omega)
  have s0:(ZR (Xd (a.map (Z0 rts)))).size<=4000*3002:=by
   have h1:=Uk (a.map (Z0 rts)) 3000 Q.o;rw[O,Z.o]at h1;have h2:k*(3000+2)<=4000*3002:=q5 hl (by omega);rw[XN];omega
  obtain⟨j,c⟩:∃j,j=ZR (Xd (a.map (Z0 rts))):=⟨_,rfl⟩;rw[<-c]at HJ s0;have R:=Za c;clear c;go_wp2_with fail;refine HJ.o.mono ?_;rintro e w2 ⟨rfl,hf⟩;have S:=Za (d.o.trans hf);have v0:=(hf.cell (p:=⟨X,11,Y⟩) (bL wr _ v)).trans v;clear hf v
  cases z with
  |true=>
   go_wp2;go_ret;refine⟨?_,S.o⟩
   have e:(⟨#[99,104,101,97,112,101,115,116,32]⟩:ByteArray)++j=ZR (NU false true (a.map (Z0 rts))):=by
    apply ByteArray.ext;apply Array.ext';rw[R.o];simp[ZR,NU]
   rw[<-e];rfl
  |false=>
   go_wp2;go_ret;refine⟨?_,S.o⟩;rw[R.o];rfl
theorem XO (a b m n)(c:a.size<=m)(d:b.size<=n)(h:m+n<=80000000):∃y,H (y=a++b)/\y.size<=m+n/\∀W,(Op.stringOp .add a b).run U W=.ok (I y) W:=
 ⟨a++b,rfl,by rw[ByteArray.size_append];omega,fun W=>run_string_add_sum W a b (by omega)⟩
structure Wr (w0:x5)(B b:Nat)(l:List UInt8)(X:Nat)(o:Obj)(W:x5):Prop where
 bd:Bd W B b l
 be:Below B w0 W
 le:B<=W.heap.size
 ob:W.heap[X]?=J o
 ok:Lib.OthersKept 5 (J b) w0 W
theorem AG {b w0 W a}(h:Lib.OthersKept 5 b w0 W)(c:F0 W a):Lib.OthersKept 5 b w0 a:=fun k o d e f=>c.whole (h k o d e f)
theorem IM {b w W}(h:Below w.heap.size w W):Lib.OthersKept 5 b w W:=fun k o a _ _=>by
 rw[h.block k (iA.1 a).1];exact a
theorem Wr.fr {w0 B b l X o W c}(h:Wr w0 B b l X o W)(a:F0 W c):Wr w0 B b l X o c:=
 ⟨h.bd.fr a,h.be.trans (a.below h.le),G h.le a.size,a.whole h.ob,AG h.ok a⟩
theorem Wr.write {w0 B b l X a T W}(h:Wr w0 B b l X (y0 a T) W)(s)(g:l.length+s.size<=140737488355328)(i:X≠b)(j:T≠5):
  z7 U 105 #[y9 (J ⟨b,0,Y⟩),I s] W fun e w'=>e=K (.tuple #[P V s.size,.nilIface])/\Wr w0 B b (l++s.data.toList) X (y0 a T) w':=
 (Cu B b l s W h.bd g h.le).mono fun e w' ⟨k,m,d,f⟩=>⟨k,m,h.be.trans d,G h.le d.size,f X _ h.ob (by simpa using i) (fun c o e=>by injection e with _ n;exact j n),h.ok.trans f⟩
theorem Wr.itoa {w0 B b l X o W}(h:Wr w0 B b l X o W)(a:∀w',Below B w0 w'->QS w')(m:Nat)(f:m<1000000000):
  z7 U 106 #[P V (m:Int)] W fun e w'=>e=K (I (ZR (Yb m)))/\Wr w0 B b l X o w':=
 (QT m W (by omega) (a W h.be)).mono fun e w' ⟨c,d⟩=>⟨c,h.fr d⟩
def Cv (w:x5)(B:Nat)(a:Option Addr)(rts:List Zf):Prop:=
 ∀j t,rts[j]?=J t->∃g o,a=J ⟨g,o,Y⟩/\g<B/\w.cell? ⟨g,o+j*3,Y⟩=J (I t.name)/\w.cell? ⟨g,o+j*3+1,Y⟩=J (P V t.base)/\w.cell? ⟨g,o+j*3+2,Y⟩=J (P V t.rate)
theorem AH (t)(h:LB t):(Uz t).length<=3060:=by
 have a:=Xu _ h.2.1;have b:=Xu _ h.2.2
 have c:t.name.data.toList.length=t.name.size:=by simp
 have d:=h.1;unfold Uz;simp only[N,Z,E];omega
theorem E6 (l:List Zf)(h:∀t,t∈l->LB t):(l.flatMap Uz).length<=l.length*3060:=by
 induction l with
 |nil=>simp
 |cons x r a=>
  have c:=a (fun t b=>h t (by simp[b]));have d:=AH x (h x (by simp));rw[M,lA,Z,v0];omega
theorem Sw (w B b f a c rts)(hB:B<=w.heap.size)(hd:Bd w B b f)(N:∀w',Below B w w'->QS w')(hr:Cv w B a rts)(d:∀t,t∈rts->LB t)(O:rts.length<=6)(n0:f.length<=100000000):
  z7 U 59 #[y9 (J ⟨b,0,Y⟩),C a rts.length c] w fun e w'=>e=K (.tuple #[])/\Bd w' B b (f++rts.flatMap Uz)/\Below B w w'/\Lib.OthersKept 5 (J b) w w':=by
 have HD:=Za hd;have Q:=Za N;have HR:=Za hr;have y:=Za d;obtain⟨n,hn⟩:∃n,rts.length=n:=⟨_,rfl⟩;have HN:=Za hn;rw[hn]at O ⊢;go_enter Tryz.func59,Tryz.ntmps59;go_wp2_with fail
 go_loopg [5,8] n (fun m _ ix wr=>∃k,k<=n/\m=n-k/\ix=P V (k:Nat)/\H (Bd wr B b (f++(rts.take k).flatMap Uz))/\H (Below B w wr)/\H (Lib.OthersKept 5 (J b) w wr))
 case atStart=>exact⟨0,z8 _,rfl,rfl,by show Bd _ _ _ _;simpa using HD.o,Below.refl _ _,Lib.OthersKept.refl _ _ _⟩
 obtain⟨k,hk,rfl,rfl,i,M,z⟩:=hrel;by_cases o0:k<n
 ·obtain⟨t,US⟩:∃t,rts[k]?=J t:=⟨_,gE (by have:=HN.o;omega)⟩
  obtain⟨g,o,ha,hg,c0,c1,c2⟩:=HR.o k t US
  have p0:g<w.heap.size:=by omega
  have q:∀j v,w.cell? ⟨g,j,Y⟩=J v->wr.cell? ⟨g,j,Y⟩=J v:=fun j v hv=>by
   rw[show wr.cell? ⟨g,j,Y⟩=w.cell? ⟨g,j,Y⟩from by simp only[World.cell?,M.o.block g hg]];exact hv
  replace c0:=q _ _ c0;replace c1:=q _ _ c1;replace c2:=q _ _ c2;subst ha
  have R:(k:Int)<(n:Int):=by omega
  have D:H (f++(rts.take (k+1)).flatMap Uz=(f++(rts.take k).flatMap Uz)++Uz t):=by show _=_;rw[x6,US,j0,A];simp
  have d:=y.o t (mG US);have S:=d.1;have T:(ZR (Yb t.base)).size<=21:=Xu _ d.2.1;have Z:(ZR (Yb t.rate)).size<=21:=Xu _ d.2.2;have p:=Za d;have E:=Za (G hB M.o.size)
  have F:(f++(rts.take k).flatMap Uz).length<=100100000:=by
   have h1:=E6 (rts.take k) (fun t ht=>y.o t (List.mem_of_mem_take ht))
   have h2:(rts.take k).length<=6:=by rw[List.length_take];omega
   have h3:(rts.take k).length*3060<=6*3060:=q5 h2 (y7 _);rw[lA];omega
  obtain⟨r,a0⟩:∃r,r=f++(rts.take k).flatMap Uz:=⟨_,rfl⟩;rw[<-a0]at i D F;go_upto_region 3 with fail
  have HZ:H (Wr w B b r wr.heap.size (y0 #[I t.name,P V t.base,P V t.rate] 148) (wr.alloc (y0 #[I t.name,P V t.base,P V t.rate] 148))):=
   ⟨i.o.fr (Zt.alloc _),M.o.trans (((Fr.refl (fun _=>False) wr).alloc _).below E.o),G E.o (by simp),aN wr _,AG z.o (Zt.alloc _)⟩
  have b0:H (wr.heap.size≠b):=by have:=i.o.lt.2;show _≠_;omega
  generalize wr.alloc _=W1 at*;generalize wr.heap.size=X at*
  have u:H (∀l W,Wr w B b l X (y0 #[I t.name,P V t.base,P V t.rate] 148) W->W.cell? ⟨X,0,Y⟩=J (I t.name)/\W.cell? ⟨X,1,Y⟩=J (P V t.base)/\W.cell? ⟨X,2,Y⟩=J (P V t.rate)):=fun l W h=>⟨Zc h.ob 0,Zc h.ob 1,Zc h.ob 2⟩
  have HI:H (∀(m:Nat)(W:x5),H (m<1000000000)->H (Wr w B b r X (y0 #[I t.name,P V t.base,P V t.rate] 148) W)->z7 U 106 #[P V (m:Int)] W fun e w'=>e=K (I (ZR (Yb m)))/\H (Wr w B b r X (y0 #[I t.name,P V t.base,P V t.rate] 148) w')/\w'.cell? ⟨X,0,Y⟩=J (I t.name)/\w'.cell? ⟨X,1,Y⟩=J (P V t.base)/\w'.cell? ⟨X,2,Y⟩=J (P V t.rate)):=
   fun m W hm hZ=>(hZ.o.itoa Q.o m hm.o).mono fun e w' ⟨he,hz⟩=>⟨he,hz,u.o _ _ hz⟩
  have HW:H (∀(s:ByteArray)(W:x5),s.size<=4000->H (Wr w B b r X (y0 #[I t.name,P V t.base,P V t.rate] 148) W)->z7 U 105 #[y9 (J ⟨b,0,Y⟩),I s] W fun e w'=>e=K (.tuple #[P V s.size,.nilIface])/\H (Wr w B b (r++s.data.toList) X (y0 #[I t.name,P V t.base,P V t.rate] 148) w')/\w'.cell? ⟨X,0,Y⟩=J (I t.name)/\w'.cell? ⟨X,1,Y⟩=J (P V t.base)/\w'.cell? ⟨X,2,Y⟩=J (P V t.rate)):=
   fun s W hs hZ=>(hZ.o.write s (by omega) b0.o (by decide)).mono fun e w' ⟨he,hz⟩=>⟨he,hz,u.o _ _ hz⟩
  have q0:=Za p.o.2.1;have r0:=Za p.o.2.2;obtain⟨s0,s1,s2⟩:=u.o _ _ HZ.o;have t0:=Za (HZ.o.fr Zt.drew);obtain⟨y1,d0,z1,k1⟩:=XO ⟨#[114,111,117,116,101,32]⟩ t.name 6 3000 (by decide) S (by omega);obtain⟨y2,e0,z2,k2⟩:=XO y1 ⟨#[32]⟩ _ 1 z1 (by decide) (by omega);obtain⟨y3,f0,z3,k3⟩:=XO y2 (ZR (Yb t.base)) _ 21 z2 T (by omega);obtain⟨y4,g0,z4,k4⟩:=XO y3 ⟨#[32]⟩ _ 1 z3 (by decide) (by omega);obtain⟨y5,h0,z5,k5⟩:=XO y4 (ZR (Yb t.rate)) _ 21 z4 Z (by omega);obtain⟨y6,i0,z6,k6⟩:=XO y5 ⟨#[59,10]⟩ _ 2 z5 (by decide) (by omega)
  go_region_held3 (fun W=>W.cell? ⟨X,0,Y⟩=J (I t.name)/\W.cell? ⟨X,1,Y⟩=J (P V t.base)/\W.cell? ⟨X,2,Y⟩=J (P V t.rate)) (first|assumption|go_keep) (first
   |(go_at_call 106;refine(HI.o _ _ (by assumption) (by assumption)).mono ?_;rintro e w7 ⟨rfl,v0,k0⟩)
   |(go_at_call 105;refine(HW.o _ _ (by omega) (by assumption)).mono ?_;rintro e w7 ⟨rfl,x,k0⟩))
  have HY:H (y6.data.toList=Uz t):=by
   show _=_
   rw[i0.o,h0.o,g0.o,f0.o,e0.o,d0.o];simp[Uz,ZR]
  go_wp2;go_roundg (n-(k+1))
  case measure=>omega
  refine⟨k+1,by omega,rfl,by go_num,?_,x.o.be,x.o.ok⟩
  show Bd _ _ _ _
  have e:=x.o.bd;rw[HY.o]at e;rw[D.o];exact e
 have R:¬(k:Int)<(n:Int):=by omega
 have ek:k=n:=by omega
 subst ek
 have m0:H (Bd wr B b (f++rts.flatMap Uz)):=by
  have e:=i.o;rw[y8 (by have:=HN.o;omega)]at e;exact e
 go_wp2_with fail
 go_end0
 exact⟨rfl,m0.o,M.o,z.o⟩
