import Derived.Test.YtccikgogjfbpeaaGreatDoorAi
open Option renaming none->I,some->Z
open Go.IntKind renaming i64->J,i64->y6
open Go.Value renaming int->Y,slice->U,bool->E,string->G,pointer->M,oneCell'->y0
open Go.RowKit renaming Hid->O
open Int renaming natCast_add->D
open Go.Proofs.Tryz renaming prog->N
open List renaming length_map->R,take_of_length_le->C,take_add_one->z4,getElem?_map->y3,map_append->y5
open Go.Ending renaming returned->T
open Or renaming inl->L,inr->z7
open Go renaming World->A,Value->z1,Calls->z3
open And renaming intro->z0
open Go.World renaming news_of_block->z2,ownsRow->z8,cell?_setCell_same->z9
open Nat renaming le_trans->z5,zero_le->z6,eq_zero_or_pos->y1,zero_add->y2,succ_le_of_lt->y4
open Go.Proofs.Tryz
namespace Go.Proofs.YtccikgogjfbpeaaGreatDoor
set_option linter.defProp false
set_option maxRecDepth 30000
set_option maxHeartbeats 8000000
open Go.RowKit
def rG (f:Fa):Nat:=match f with|none=>0|some x=>x.1
def qw (f:Fa):Nat:=match f with|none=>0|some x=>x.2
def qI (f:Fa):Prop:=∀x,f=Z x->x.1≠0
structure SV (w:A)(p q i:Nat)(f:Fa):Prop where
 c0:w.cell? ⟨p,0,I⟩=Z (M (Z ⟨q,0,I⟩))
 c1:w.cell? ⟨p,1,I⟩=Z (Y J i)
 c2:w.cell? ⟨p,2,I⟩=Z (Y J (rG f))
 c3:w.cell? ⟨p,3,I⟩=Z (Y J (qw f))
 fz:∀o,w.frozen? ⟨p,o,I⟩=false
 ok:qI f
structure zL (w:A)(q g:Nat)(body:List Tk)(cv:Nat):Prop where
 c0:w.cell? ⟨q,0,I⟩=Z (U (Z ⟨g,0,I⟩) body.length cv)
 lt:g<w.heap.size
 row:th w g body
def SV.fr {w w' p q i f S}(h:SV w p q i f)(a:Fr S w w')(b:¬S p:=by simp):SV w' p q i f:=by
 have c:=bL w _ h.c0;exact⟨(a.cell (p:=⟨p,0,I⟩) c b).trans h.c0,(a.cell (p:=⟨p,1,I⟩) c b).trans h.c1,(a.cell (p:=⟨p,2,I⟩) c b).trans h.c2,(a.cell (p:=⟨p,3,I⟩) c b).trans h.c3,fun o=>(a.frozen (p:=⟨p,o,I⟩) c b).trans (h.fz o),h.ok⟩
def zL.fr {w w' q g body b S}(h:zL w q g body b)(a:Fr S w w')(c:¬S q:=by simp)(d:¬S g:=by simp):zL w' q g body b:=by
 have e:=bL w _ h.c0;exact⟨(a.cell (p:=⟨q,0,I⟩) e c).trans h.c0,nL h.lt a.size,h.row.fr a h.lt d⟩
def SV.move {w p q i f}(h:SV w p q i f)(k:Nat):SV (w.setCell ⟨p,1,I⟩ (Y J k)) p q k f/\Fr (fun j=>j=p) w (w.setCell ⟨p,1,I⟩ (Y J k)):=by
 refine⟨⟨?_,?_,?_,?_,fun o=>by simp[h.fz o],h.ok⟩,(Fr.refl (fun j=>j=p) w).setCell (L rfl) _⟩
 ·rw[cO _ _ _ _ y];exact h.c0
 ·exact cS _ _ _ h.c1
 ·rw[cO _ _ _ _ y];exact h.c2
 rw[cO _ _ _ _ y];exact h.c3
def SV.note {w p q i}(h:SV w p q i I)(k l:Nat)(a:k≠0):
  SV ((w.setCell ⟨p,2,I⟩ (Y J k)).setCell ⟨p,3,I⟩ (Y J l)) p q i (Z (k,l))/\Fr (fun j=>j=p) w ((w.setCell ⟨p,2,I⟩ (Y J k)).setCell ⟨p,3,I⟩ (Y J l)):=by
 refine⟨⟨?_,?_,?_,?_,fun o=>by simp[h.fz o],fun x e=>by injection e with e;subst e;exact a⟩,((Fr.refl (fun j=>j=p) w).setCell (p:=⟨p,2,I⟩) (L rfl) _).setCell (p:=⟨p,3,I⟩) (L rfl) _⟩
 ·rw[cO _ _ _ _ y,cO _ _ _ _ y];exact h.c0
 ·rw[cO _ _ _ _ y,cO _ _ _ _ y];exact h.c1
 ·rw[cO _ _ _ _ y];exact cS _ _ _ h.c2
 exact cS _ _ _ (by rw[cO _ _ _ _ y];exact h.c3)
def XN (w p q g i f body b t)(c:SV w p q i f)(d:zL w q g body b)(a:body[i]?=Z t):
  z3 N 80 #[M (Z ⟨p,0,I⟩)] w fun e h=>e=T (G t.text)/\F0 w h:=by
 obtain⟨m,n,o,r,s,u⟩:=c;obtain⟨v,x,j⟩:=d;obtain⟨y,z,A⟩:=j i t a;have k:i<body.length:=(iG.1 a).1;have l:=af i body.length;go_enter func80,ntmps80;go_wp2
 go_big_quiet ((fail))
 go_wp2
 go_big_quiet ((fail))
 go_wp2;go_ret;exact⟨rfl,⟨rfl,rfl,rfl,Nat.le_refl _,fun _ _ _=>rfl⟩⟩
def CP (w:A)(p q i:Nat)(f:Fa)(e:Ending)(a:A):Prop:=e=T (.tuple #[])/\SV a p q i f/\Fr (fun j=>j=p) w a
def X1 (w p q g i f a r t b)(k:Nat)(s:Int)(c:SV w p q i f)(D:zL w q g a r)(F:q≠p)(G:g≠p)(u:a[i]?=Z t)(H:k≠0)(e:s=k):
  z3 N 131 #[M (Z ⟨p,0,I⟩),E b,Y J s] w (CP w p q i (ZZ f b k t.line)):=by
 subst e
 cases b with
 |false=>
  have j:O (CP w p q i (ZZ f false k t.line) (T (.tuple #[])) w):=by
   refine⟨rfl,?_,Zo⟩
   cases f<;>exact c
  go_enter func131,ntmps131;go_wp2
  go_end0
  exact j.o
 |true=>
  cases f with
  |some x=>
   have j:O (CP w p q i (Z x) (T (.tuple #[])) w):=⟨rfl,c,Zo⟩;obtain⟨v,y,z,A,B,C⟩:=c
   have W:((rG (Z x):Int)==0)=false:=by
    have:=C x rfl;simp[rG];omega
   generalize rG (Z x)=n at*;go_enter func131,ntmps131;go_wp2
   go_end0
   exact j.o
  |none=>
   have K:=Za c;obtain⟨v,y,z,A,B,C⟩:=c;obtain⟨L,X,P⟩:=D;obtain⟨r0,r1,Q⟩:=P i t u;have R:i<a.length:=(iG.1 u).1;have S:=af i a.length
   have e0:(w.setCell ⟨p,2,I⟩ (Y J k)).cell? ⟨p,0,I⟩=Z (M (Z ⟨q,0,I⟩)):=by rw[cO _ _ _ _ aA];exact v
   have e1:(w.setCell ⟨p,2,I⟩ (Y J k)).cell? ⟨p,1,I⟩=Z (Y J i):=by rw[cO _ _ _ _ aA];exact y
   have e3:(w.setCell ⟨p,2,I⟩ (Y J k)).cell? ⟨p,3,I⟩=Z (Y J (qw I)):=by rw[cO _ _ _ _ aA];exact A
   have eq:(w.setCell ⟨p,2,I⟩ (Y J k)).cell? ⟨q,0,I⟩=Z (U (Z ⟨g,0,I⟩) a.length r):=by rw[cO _ _ _ _ (fun h=>F (by injection h with d;first|exact d|exact d.symm))];exact L
   have er:(w.setCell ⟨p,2,I⟩ (Y J k)).cell? ⟨g,i*3+2,I⟩=Z (Y J t.line):=by rw[cO _ _ _ _ (fun h=>G (by injection h with d;first|exact d|exact d.symm))];exact Q
   have ef:∀o,(w.setCell ⟨p,2,I⟩ (Y J k)).frozen? ⟨p,o,I⟩=false:=fun o=>by simp[B o]
   have V:=z;go_enter func131,ntmps131;go_wp2_with fail;generalize l:w.setCell ⟨p,2,I⟩ (Y J k)=w1 at*
   go_region
   go_end0
   have m:=K.o.note k t.line H;rw[l]at m;exact⟨rfl,m.1.fr ((Fr.refl (fun _=>False) _).drew),m.2.drew⟩
def sN (w:A)(p q i v:Nat)(f:Fa)(e:Ending)(a:A):Prop:=e=T (Y J v)/\SV a p q i f/\Fr (fun j=>j=p) w a
def LC (w p q g i f b j t)(a:Nat)(v x:Int)(E:SV w p q i f)(F:zL w q g b j)(G:q≠p)(H:g≠p)(K:b[i]?=Z t)(L:Dg t.text)(W:i<=4000)(P:v=0)(Q:x=a):
  z3 N 132 #[M (Z ⟨p,0,I⟩),Y J v,Y J x] w (sN w p q (i+1) (Zd t) (ZZ f (decide (a<Zd t)) 5 t.line)):=by
 subst P Q;have y:=o E;have z:=o F;have A:=o K;have R:=o L;have B:O (q≠p/\g≠p):=⟨G,H⟩
 cases S:decide (a<Zd t)
 all_goals
  have T:¬((Zd t:Nat):Int)<0:=az;go_enter func132,ntmps132;go_wp2_with fail;refine(XN w p q g i f b j t y.o z.o A.o).mono ?_;rintro e C ⟨rfl,U⟩;have c:=o U;go_wp2_with fail;refine(Ti t.text C R.o).mono ?_;rintro e X ⟨rfl,k⟩;replace k:=k.symm;subst k;have h:ZA t.text.data.toList=Zd t:=rfl;rw[h];simp only[decide_eq_true_eq,decide_eq_false_iff_not]at S;have V:(a:Int)<(Zd t:Int)↔a<Zd t:=az;generalize Zd t=n at*
  first
  |(have l:(a:Int)<(n:Int):=by omega)
  |(have l:¬(a:Int)<(n:Int):=by omega)
  go_wp2_with fail;refine(X1 C p q g i f b j t _ 5 _ (y.o.fr c.o) (z.o.fr c.o aA) B.o.1 B.o.2 A.o aB aD).mono ?_;rintro e w3 ⟨rfl,d,m⟩;have r:=o d;have s:=o ((c.o.mono).trans m);have c1:=d.c1;have fz:=d.fz;go_wp2;go_ret;have u:=r.o.move (i+1);rw[D]at u;exact⟨rfl,u.1,s.o.trans u.2⟩
def rV (w:A)(p q i:Nat)(b:List Nat)(f:Fa)(e:Ending)(a:A):Prop:=
 (∃v,e=T v/\a.ownsRow w.heap.size 3 1 v b.length (Zg b))/\SV a p q i f/\Fr (fun j=>j=p) w a
def tw {j a b}(h:a=((j+1:Nat):Int))(d:decide (4<j+1)=b):decide ((4:Int)<a)=b:=by
 rw[h,<-d];by_cases c:4<j+1
 ·simp[c];omega
 simp[c];omega
def GV (w p q g i f a cv l)(c:Nat)(i2:Int)(hp:SV w p q i f)(hT:zL w q g a cv)(hq:q≠p)(hg:g≠p)(hb:a.length<=3000)(hl:tU a i l)(hd:∀t,t∈l->Dg t.text)(e2:i2=c):
  z3 N 134 #[M (Z ⟨p,0,I⟩),Y J i2] w (rV w p q (i+2*l.length) (l.map Zd) (Yg c 1 f l)):=by
 subst e2;have HP:=b hp;have HT:=b hT;have HL:=b hl;have HD:=b hd;have y:O (q≠p/\g≠p):=⟨hq,hg⟩
 have G0:i+2*l.length<a.length:=by
  obtain⟨t,P,_⟩:=hl.en;exact(iG.1 P).1
 have H0:=hl.ps;clear hp hT hq hg hl hd;go_enter func134,ntmps134;go_wp2
 go_loopg [5,6] l.length (fun m o s wr=>∃j H u,j<=l.length/\m=l.length-j/\s=Y J ((j+1:Nat):Int)/\O (u=(l.take j).map Zd)/\O (wr.ownsRow w.heap.size 3 1 o j (Zg u))/\O (SV wr p q (i+2*j) H)/\O (Fr (fun j=>j=p) w wr)/\O (Yg c 1 f l=Yg c (j+1) H (l.drop j)))
 case atStart=>exact⟨0,f,[],z6 _,rfl,rfl,rfl,oZ _ _ _ _,HP,Zo,rfl⟩
 obtain⟨j,H,u,hj,rfl,rfl,e0,HO,A,HF,HR⟩:=hrel;have B:=b (HT.o.fr HF.o y.o.1 y.o.2);have c1:=A.o.c1;have fz:=A.o.fz;by_cases f0:j<l.length
 ·obtain⟨t,P⟩:∃t,l[j]?=Z t:=⟨_,gE f0⟩
  have Q:O (a[i+2*j+1]?=Z t):=by
   have:=HL.o.it j t P;rw[show i+1+2*j=i+2*j+1 from az]at this;exact this
  have v0:=b (HD.o t (mG P));have w0:=b (NM P)
  have g0:O ((l.take (j+1)).map Zd=(l.take j).map Zd++[Zd t]):=by
   show _=_
   rw[z4,P,y5];rfl
  clear P;obtain⟨x,E⟩:=ae (i+2*j);obtain⟨s,d⟩:=ae (((j+1:Nat):Int):Int);rw[<-d];rw[<-E]at c1 A Q;have I0:x+2<=3000:=az;have S:=b E;have h0:=b d;have J0:y6.wrap (s+1)=s+1:=IntWalk.i64_in _ az
  have T:O (∀k,k=p->k<w.heap.size):=fun k e=>by rw[e];exact bL w _ HP.o.c0
  obtain⟨b4,i0⟩:=ad (decide (4<j+1));have j0:=b i0;have K0:=tw h0.o j0.o;clear i0;rcases y1 j with U|U
  case' inl=>
   have V:(s==1)=true:=aF;have r:=b A;have k0:=b B;have F:=b HF;have G:=HO;clear U E d;go_wp2_with fail
  case' inr=>
   have V:(s==1)=false:=aF;obtain⟨tc,W,x0⟩:=HL.o.cm j az f0;rw[<-E]at W;have HC:=b W;clear W U E d;clear c1 fz;go_wp2_with fail;refine(XN wr p q g x H a cv tc A.o B.o HC.o).mono ?_;rintro e w1 ⟨rfl,z⟩;have F:=b (HF.o.trans (z.mono));have r:=b (A.o.fr z);have k0:=b (B.o.fr z aA);have G:=b (oF HO.o z);clear z;have c1:=r.o.c1;have fz:=r.o.fz;go_wp2_with fail
  all_goals
   have hm:=r.o.move (x+1);rw[D]at hm;refine(X1 _ p q g (x+1) H a cv t b4 6 _ hm.1 (k0.o.fr hm.2 y.o.1 y.o.2) y.o.1 y.o.2 Q.o aB aD).mono ?_;rintro e w3 ⟨rfl,l0,X⟩;have z0:=b l0;have m0:=b ((F.o.trans hm.2).trans X);have A0:=b (oF G.o (hm.2.trans X) T.o);clear l0 X hm;go_wp2_with fail;refine(LC w3 p q g (x+1) _ a cv t c _ _ z0.o (HT.o.fr m0.o y.o.1 y.o.2) y.o.1 y.o.2 Q.o v0.o az aD aD).mono ?_;rintro e w4 ⟨rfl,n0,a0⟩;have o0:=b n0;have p0:=b (m0.o.trans a0);have L0:=p0.o.size;have q0:=b (oF A0.o a0 T.o);clear n0 a0;obtain⟨n,b0⟩:=ae (Zd t);rw[<-b0]at o0 g0 ⊢;have B0:=b b0.symm;clear b0
   go_wp2_with (at_builtin;refine ao w.heap.size Y9 underlying25 u5 j (Zg u) ?h1 ⟨w4.heap.size,0,I⟩ [Y J n] ?h2 ?_ (k4:=?h6))
   case h1=>exact q0.o.alloc _
   case h2=>exact z2 (aN w4 _)
   case h6=>first|omega|(simp;omega)
   intro g2 F0 w5 K h _ _
   have v:∀k,u5.ownBlock=Z k->w.heap.size<=k:=fun k hk=>(q0.o.lt k hk).1
   have C0:=b K;have D0:=b ((p0.o.alloc _).grown h (fun k hk=>z7 (v k hk)));have E0:=b (o0.o.fr (((Fr.refl (fun k=>u5.ownBlock=Z k) w4).alloc _).grown h (fun k hk=>L hk)) (fun hk=>ak (v p hk) (T.o p rfl)));clear h K v;go_wp2;go_roundg (l.length-(j+1))
   case measure=>omega
   refine⟨j+1,ZZ (ZZ H b4 6 t.line) (decide (c<n)) 5 t.line,u++[n],az,rfl,by rw[h0.o];go_num,?_,?_,?_,D0,?_⟩
   ·show _=_
    rw[e0.o,g0.o]
   ·show z8 _ _ _ _ _ _ _
    rw[X6];exact C0.o
   ·show SV _ _ _ _ _
    have e:i+2*(j+1)=x+1+1:=aj S.o;rw[e];exact E0.o
   show _=_
   rw[HR.o,w0.o];simp only[Yg];rw[j0.o,B0.o]
 obtain⟨te,d0,x0⟩:=HL.o.en;have ej:j=l.length:=az;rw[<-ej]at d0;have V:((((j+1:Nat):Int))==1)=false:=aF;have HC:=b d0;clear d0;obtain⟨x,E⟩:=ae (i+2*j);obtain⟨s,d⟩:=ae (((j+1:Nat):Int):Int);rw[<-d]at V ⊢;rw[<-E]at HC A;have S:=b E;clear c1 fz E d;go_wp2_with fail;refine(XN wr p q g x H a cv te A.o B.o HC.o).mono ?_;rintro e w1 ⟨rfl,z⟩;have F:=b (HF.o.trans (z.mono));have r:=b (A.o.fr z);have G:=b (oF HO.o z);clear z;go_wp2;go_ret;refine⟨⟨_,rfl,?_⟩,?_,F.o⟩
 ·have e:=G.o;rw[e0.o,C az]at e;rw[R,<-ej];exact e
 have e:=r.o
 have e2:H=Yg c 1 f l:=by rw[HR.o,dL az];rfl
 rw[<-e2,<-ej,<-S.o];exact e
def UR (a:List Int):List z1:=a.map fun n:Int=>Value.int J n
def tA (a:Nat)(w:A)(r:Xh)(e:List z1):Prop:=
 ∃b c d,e=[G r.name,Y J r.rank,Y J r.width,Y J r.lo,Y J r.hi,b,c,E r.am.isSome,Y J (r.am.getD (0,0)).1,Y J (r.am.getD (0,0)).2,d,E r.decline,E r.cheapest]/\
  w.ownsRow a 3 1 b r.mcc.length (Zg r.mcc)/\w.ownsRow a 3 1 c r.cur.length (Zg r.cur)/\w.ownsRow a 3 1 d r.routes.length (UR r.routes)
def TU (a:Nat)(w:A):List Xh->List z1->Prop
 |[],xs=>xs=[]
 |r::rs,xs=>∃c b,xs=c++b/\tA a w r c/\TU a w rs b
def tA.keep {base w w' r cs}(h:tA base w r cs)(a:∀v n b,w.ownsRow base 3 1 v n b->w'.ownsRow base 3 1 v n b):tA base w' r cs:=by
 obtain⟨c,d,f,e,g,i,j⟩:=h;exact⟨c,d,f,e,a _ _ _ g,a _ _ _ i,a _ _ _ j⟩
def TU.keep {base:Nat}{w w':A}(b:∀v n a,w.ownsRow base 3 1 v n a->w'.ownsRow base 3 1 v n a):∀{rs:List Xh}{a:List z1},TU base w rs a->TU base w' rs a
 |[],_,h=>h
 |_::_,_,⟨c,rest,e,h1,h2⟩=>⟨c,rest,e,h1.keep b,TU.keep b h2⟩
def TU.snoc {a:Nat}{w:A}{r:Xh}{c:List z1}(b:tA a w r c):∀{f:List Xh}{g:List z1},TU a w f g->TU a w (f++[r]) (g++c)
 |[],_,h=>by
  have i:=h;subst i;exact⟨c,[],y,b,rfl⟩
 |_::_,_,⟨d,rest,e,h1,h2⟩=>⟨d,rest++c,by rw[e,List.append_assoc],h1,TU.snoc b h2⟩
structure NU (w:A)(B B2 p q g i:Nat)(f:Fa)(body:List Tk)(cv:Nat)(vr vl:z1)(rts:List Zf)(rrs:List Xh)(xs:List z1):Prop where
 wp:SV w p q i f
 wt:zL w q g body cv
 q1:w.cell? ⟨q,1,I⟩=Z vr
 q2:w.cell? ⟨q,2,I⟩=Z vl
 fq:∀o,w.frozen? ⟨q,o,I⟩=false
 ro:w.ownsRow B2 189 3 vr rts.length (Ym rts)
 lo:w.ownsRow B2 170 13 vl rrs.length xs
 ru:TU B2 w rrs xs
 gB:g<B
 pB:B<=p/\p<B2
 qB:B<=q/\q<B2
 ne:q≠p
 b2:B2<=w.heap.size
def NU.step {w w' B d p q g i s f t body u x y b c z}(h:NU w B d p q g i f body u x y b c z)(A:SV w' p q s t)(a:Fr (fun j=>j=p) w w'):NU w' B d p q g s t body u x y b c z:=by
 have l:=bL w _ h.q1;have m:g≠p:=ak h.gB h.pB
 have r:∀k,k=p->k<d:=fun k e=>by rw[e];exact h.pB.2
 exact⟨A,h.wt.fr a h.ne m,(a.cell (p:=⟨q,1,I⟩) l h.ne).trans h.q1,(a.cell (p:=⟨q,2,I⟩) l h.ne).trans h.q2,fun o=>(a.frozen (p:=⟨q,o,I⟩) l h.ne).trans (h.fq o),
  oF h.ro a r,oF h.lo a r,TU.keep (fun v n D C=>oF C a r) h.ru,h.gB,h.pB,h.qB,h.ne,z5 h.b2 a.size⟩
def NU.routes {w b B c p q g i f l J r D V a s E rt o}(h:NU w B c p q g i f l J r D a s E)(F:(w.alloc o).grownBy b r.ownBlock)(N:b.ownsRow c 189 3 V (a.length+1) (Ym a++Sr rt)):
  b.cell? ⟨q,1,I⟩=Z r/\(∀o,b.frozen? ⟨q,o,I⟩=false)/\NU (b.setCell ⟨q,1,I⟩ V) B c p q g i f l J V D (a++[rt]) s E/\Fr (fun j=>B<=j) w (b.setCell ⟨q,1,I⟩ V):=by
 have x:∀k,r.ownBlock=Z k->c<=k:=fun k m=>(h.ro.lt k m).1
 have t:=((Fr.refl (fun k=>r.ownBlock=Z k) w).alloc o).grown F (fun k m=>L m)
 have u:∀k,k<c->¬r.ownBlock=Z k:=fun k m e=>aj (x k e)
 have G:=bL w _ h.q1;have O:=h.wt.lt;have P:=h.gB;have Q:=h.pB;have R:=h.qB;have K:=(t.cell (p:=⟨q,1,I⟩) G (u q h.qB.2)).trans h.q1
 have M:∀o,b.frozen? ⟨q,o,I⟩=false:=fun o=>(t.frozen (p:=⟨q,o,I⟩) G (u q h.qB.2)).trans (h.fq o)
 have H:=h.wp.fr t (u p h.pB.2);have d:=h.wt.fr t (u q h.qB.2) (u g az);have y:Fr (fun j=>j=q) b (b.setCell ⟨q,1,I⟩ V):=(Fr.refl (fun j=>j=q) b).setCell (p:=⟨q,1,I⟩) (L rfl) _;have z:(w.alloc o).ownsRow c 189 3 r a.length (Ym a):=h.ro.alloc _
 have m:∀v n C,w.ownsRow c 3 1 v n C->(b.setCell ⟨q,1,I⟩ V).ownsRow c 3 1 v n C:=fun v n C S=>by
  have A:(w.alloc o).ownsRow c 3 1 v n C:=S.alloc _;exact oB (A.kept F (WP A z aB)) aF _
 refine⟨K,M,⟨H.fr y (fun e=>h.ne e.symm),?_,z9 _ _ _ K,?_,fun o=>by simp[M o],?_,?_,TU.keep m h.ru,h.gB,h.pB,h.qB,h.ne,?_⟩,?_⟩
 ·refine⟨?_,nL d.lt y.size,d.row.fr y d.lt az⟩;rw[cO _ _ _ _ aA];exact d.c0
 ·rw[cO _ _ _ _ aA];exact(t.cell (p:=⟨q,2,I⟩) G (u q h.qB.2)).trans h.q2
 ·rw[Mh,lA];exact oB N aF _
 ·have A:(w.alloc o).ownsRow c 170 13 D s.length E:=h.lo.alloc _;exact oB (A.kept F (WP A z aB)) aF _
 ·exact z5 h.b2 (z5 t.size y.size)
 exact(t.mono (fun k m=>aj (x k m))).trans (y.mono (fun k e=>az))
def NG (b a f c d):Ys b a f (c++d)=Ys b a (Ys b a f c) d:=by
 induction c generalizing f with
 |nil=>rfl
 |cons x r e=>exact e _
def Qw {b a f}{l:List ByteArray}{j x}(h:l[j]?=Z x):Ys b a f (l.take (j+1))=ZZ (Ys b a f (l.take j)) (x.toList==b.toList) 4 a:=by
 rw[z4,h,NG];rfl
def NH:(N.info? 189).map (fun i=>(i.zero,i.size,i.bytes))=Z (Z (.agg #[G ByteArray.empty,Y J 0,Y J 0]),3,32):=n
def Nk {w:A}{b v d}(h:w.ownsRow b 189 3 v d.length (Ym d)):
  ∃a c,v=U a d.length c/\∀j r,d[j]?=Z r->∃g,a=Z ⟨g,0,I⟩/\b<=g/\g<w.heap.size/\w.cell? ⟨g,j*3,I⟩=Z (G r.name):=by
 obtain⟨a,c,e⟩:=oL h;refine⟨a,c,e,fun j r f=>?_⟩;have k:0<d.length:=aj (iG.1 f).1;obtain⟨g,l,i,m,n⟩:=h.form k;rw[e]at i;injection i with o _ p;subst o p;subst e;refine⟨g,rfl,m,n,?_⟩;obtain⟨a,_,_⟩:=T2 d j r f;have:=h.cells (g:=g) rfl _ _ a
 rwa [Sa,y2]at this
def Do (w B B2 p q g i f body y vr vl a L xs tn r s)(h:NU w B B2 p q g i f body y vr vl a L xs)(hb:body.length<=3000)(h6:a.length<=6)(t1:body[i+1]?=Z tn)(t2:body[i+2]?=Z r)(t3:body[i+3]?=Z s)(d2:Dg r.text)(d3:Dg s.text):
  z3 N 81 #[M (Z ⟨p,0,I⟩)] w fun e w'=>e=T (.tuple #[])/\(∃t0,NU w' B B2 p q g (i+4) (Wu a f ⟨tn,r,s⟩) body y t0 vl (a++[⟨tn.text,Zd r,Zd s⟩]) L xs)/\Fr (fun j=>B<=j) w w':=by
 have HS:=b h;have P:=b t1;have z0:=b t2;have A0:=b t3;have HD:O (Dg r.text/\Dg s.text):=⟨d2,d3⟩;have Q0:i+3<body.length:=(iG.1 t3).1;have z:O (q≠p/\g≠p):=⟨h.ne,ak h.gB h.pB⟩;obtain⟨va,vc,rfl,A⟩:=Nk h.ro;have a0:=b A;obtain⟨n,hn⟩:=ad a.length;have HN:=b hn
 have c:O (NU w B B2 p q g i f body y (U va n vc) vl a L xs):=by rw[<-hn];exact h
 obtain⟨b6,b0⟩:=ad (decide (6<=n))
 have P0:decide ((6:Int)<=(n:Int))=b6:=by rw[<-b0];by_cases hq:6<=n<;>simp[hq]<;>omega
 have B0:=b b0;have R0:n<=6:=az;have c0:=h.wp.c0;have c1:=h.wp.c1;have fz:=h.wp.fz;have q1:=c.o.q1;have d:=h.wp.move (i+1);rw[D]at d;have t:=b d;have C0:(w.setCell ⟨p,1,I⟩ (Y J ((i:Int)+1))).cell? ⟨q,1,I⟩=Z (U va n vc):=(c.o.step d.1 d.2).q1;clear h t1 t2 t3 d2 d3 A hn HS d;go_enter func81,ntmps81;go_wp2_with fail;refine(X1 _ p q g (i+1) f body y tn _ 6 _ t.o.1 (c.o.step t.o.1 t.o.2).wt z.o.1 z.o.2 P.o aB aD).mono ?_;rintro e w3 ⟨rfl,d0,e0⟩;have Q:=b d0;have f0:=b (t.o.2.trans e0);have D0:=b ((c.o.step Q.o f0.o).wt);clear d0 e0 c0 c1 fz q1 C0;go_wp2_with fail;refine(XN w3 p q g (i+1) _ body y tn Q.o D0.o P.o).mono ?_;rintro e w4 ⟨rfl,hf⟩;have E0:=b (Q.o.fr hf);have F0:=b (f0.o.trans (hf.mono));clear hf;go_wp2
 go_loopg [4] n (fun m o wr=>∃j,j<=n/\m=n-j/\o=Y J (j:Nat)/\O (SV wr p q (i+1) (Ys tn.text tn.line (ZZ f b6 6 tn.line) ((a.map Zf.name).take j)))/\O (Fr (fun j=>j=p) w wr))
 case atStart=>exact⟨0,z6 _,rfl,rfl,E0,F0⟩
 obtain⟨j,hj,rfl,rfl,HW,HF⟩:=hrel;have g0:=b (c.o.step HW.o HF.o);have q1:=g0.o.q1;by_cases S0:j<n
 ·obtain⟨x,S⟩:∃x,a[j]?=Z x:=⟨_,gE (aj HN.o)⟩
  obtain⟨g3,rfl,T0,G0,r0⟩:=a0.o j x S;rw[<-HF.o.cell (p:=⟨g3,j*3,I⟩) G0 (by have:=c.o.pB;simp;omega)]at r0
  have H0:O ((a.map Zf.name)[j]?=Z x.name):=by show _=_;rw[y3,S];rfl
  obtain⟨bx,I0⟩:=ad (x.name.toList==tn.text.toList);have J0:=b I0;have K0:=af j n;clear S;go_wp2_with fail;refine(X1 _ p q g (i+1) _ body y tn bx 4 _ HW.o g0.o.wt z.o.1 z.o.2 P.o aB aD).mono ?_;rintro e w5 ⟨rfl,h0,i0⟩;have L0:=b h0;have M0:=b (HF.o.trans i0);clear h0 i0 q1 r0;go_wp2;go_roundg (n-(j+1))
  case measure=>omega
  refine⟨j+1,az,rfl,aE,?_,M0⟩
  show SV _ _ _ _ _
  rw[Qw H0.o,J0.o];exact L0.o
 have K0:=ai j n;have ej:j=n:=az
 have u:O (SV wr p q (i+1) (Ys tn.text tn.line (ZZ f b6 6 tn.line) (a.map Zf.name))):=by
  have e:=HW.o;rw[C (by rw[R];have:=HN.o;omega)]at e;exact e
 obtain⟨fn,W⟩:=ae (Ys tn.text tn.line (ZZ f b6 6 tn.line) (a.map Zf.name));rw[<-W]at u;have N0:=b W;have c1:=u.o.c1;have fz:=u.o.fz;have hm:=u.o.move (i+1+1);rw[D (i+1)]at hm;have HM:=b hm;clear hm HW W ej;obtain⟨x,S⟩:=ae (i+1);have X:=b S;rw[<-S]at c1 HM;have V0:x+3<=3000:=az;clear S;go_wp2_with fail
 have j0:O (body[x+1]?=Z r):=by have:=z0.o;rw[X.o];exact this
 have k0:O (body[x+1+1]?=Z s):=by have:=A0.o;rw[X.o];exact this
 refine(LC _ p q g (x+1) fn body y r 1000000 _ _ HM.o.1 ((c.o.step HM.o.1 (HF.o.trans HM.o.2)).wt) z.o.1 z.o.2 j0.o HD.o.1 az aD aD).mono ?_;rintro e w6 ⟨rfl,l0,m0⟩;have n0:=b l0;have o0:=b ((HF.o.trans HM.o.2).trans m0);clear l0 m0 c1 fz;go_wp2_with fail;refine(LC _ p q g (x+1+1) _ body y s 1000 _ _ n0.o ((c.o.step n0.o o0.o).wt) z.o.1 z.o.2 k0.o HD.o.2 az aD aD).mono ?_;rintro e w7 ⟨rfl,p0,q0⟩;have O0:=b p0;have s0:=b (o0.o.trans q0);have v:=b (c.o.step O0.o s0.o);have q1:=v.o.q1;have W0:=v.o.b2;clear p0 q0
 go_wp2_with (at_builtin;refine ao B2 NH underlying68 (U va n vc) n (Ym a) ?h1 ⟨w7.heap.size,0,I⟩ [G tn.text,Y J (Zd r),Y J (Zd s)] ?h2 ?_ (k4:=?h6))
 case h1=>have e:=v.o.ro;rw[HN.o]at e;exact e.alloc _
 try case h2=>exact z2 (aN w7 (.cells #[G tn.text,Y J (Zd r),Y J (Zd s)] 189))
 case h6=>first|omega|(simp;omega)
 intro g2 E w8 F l _ _;obtain⟨e1,ef,H⟩:=v.o.routes (rt:=⟨tn.text,Zd r,Zd s⟩) (V:=U (Z ⟨g2,0,I⟩) (n+1) E) l (by rw[HN.o];exact F);have K:=b H;clear H l F q1;go_wp2
 go_end0
 refine⟨rfl,⟨U (Z ⟨g2,0,I⟩) (n+1) E,?_⟩,(s0.o.mono (fun k e=>aj c.o.pB)).trans K.o.2⟩;have e:=K.o.1;rw[X.o]at e;unfold Wu;rw[HN.o,B0.o];rw[N0.o]at e;exact e
structure XB (w:A)(X:Nat)(cs:Nat->z1):Prop where
 cell:∀o,o<13->w.cell? ⟨X,o,I⟩=Z (cs o)
 fz:∀o,w.frozen? ⟨X,o,I⟩=false
def VA (a:Nat->z1)(k:Nat)(v:z1):Nat->z1:=fun o=>if o=k then v else a o
def XB.set {w X a}(h:XB w X a){k}(c:k<13)(v):XB (w.setCell ⟨X,k,I⟩ v) X (VA a k v)/\Fr (fun j=>j=X) w (w.setCell ⟨X,k,I⟩ v):=by
 refine⟨⟨fun o b=>?_,fun o=>by simp[h.fz o]⟩,(Fr.refl (fun j=>j=X) w).setCell (p:=⟨X,k,I⟩) (L rfl) _⟩;unfold VA;by_cases e:o=k
 ·subst e;rw[if_pos rfl];exact cS _ _ _ (h.cell o b)
 rw[if_neg e,cO _ _ _ _ y];exact h.cell o b
def XB.fr {w w' X cs S}(h:XB w X cs)(a:Fr S w w')(b:¬S X:=by simp):XB w' X cs:=by
 have c:=bL w _ (h.cell 0 z);exact⟨fun o d=>(a.cell (p:=⟨X,o,I⟩) c b).trans (h.cell o d),fun o=>(a.frozen (p:=⟨X,o,I⟩) c b).trans (h.fz o)⟩
def LD (b l):∀i a x,ZC b a i (l++[x])=if(x.name.toList==b.toList)=true then((i+l.length:Nat):Int)else ZC b a i l:=by
 induction l with
 |nil=>intro i a x;simp[ZC]
 |cons y r c=>
  intro i a x;simp only[List.cons_append,ZC];rw[c (i+1)];simp only[List.length_cons];rw[show i+1+r.length=i+(r.length+1)from z]
def LE {nm}{l:List Zf}{j x}(h:l[j]?=Z x):ZC nm (-1) 0 (l.take (j+1))=if(x.name.toList==nm.toList)=true then(j:Int)else ZC nm (-1) 0 (l.take j):=by
 have a:=(iG.1 h).1;rw[z4,h]
 show ZC nm (-1) 0 (l.take j++[x])=_
 rw[LD,List.length_take,y2,Nat.min_eq_left z]
def IJ (a)(n:Int):UR (a++[n])=UR a++[Y J n]:=by simp[UR]
def Dp (w:A)(p q X i:Nat)(f:Fa)(d:Nat->z1)(b:List Int)(g h:Bool)(e:Ending)(a:A):Prop:=
 e=T (.tuple #[])/\SV a p q i f/\(∃c,XB a X (VA (VA (VA d 11 (E g)) 12 (E h)) 10 c)/\a.ownsRow w.heap.size 3 1 c b.length (UR b))/\Fr (fun j=>j=p\/j=X) w a
def NI (w p q g X i f a y b t)(z:SV w p q i f)(G:zL w q g a y)(H:XB w X b)(J:X≠p)(n:b 10=U I 0 0)(r:b 11=E false)(s:b 12=E false)(W:i<=3000)(K:a[i]?=Z t)(Y:(t.text.toList==[100,101,99,108,105,110,101])=true):
  z3 N 135 #[M (Z ⟨p,0,I⟩),M (Z ⟨X,0,I⟩)] w (Dp w p q X (i+1) f b [] true false):=by
 have P:=Za z;have Q:=Za H;have R:O (b 10=U I 0 0/\b 11=E false/\b 12=E false):=⟨n,r,s⟩;have A:=Za J;have S:=Za (XN w p q g i f a y t z G K);go_enter func135,ntmps135;go_wp2_with fail;refine S.o.mono ?_;rintro e w1 ⟨rfl,u⟩;have v:=Za u;have c:=Za (Q.o.fr u);have x:=Za (P.o.fr u);have B:=c.o.set (k:=11) az (E true);have C:=Za B;have d:=Za (x.o.fr B.2 (fun e=>A.o e.symm));have T:=c.o.cell 11 az;have xf:=c.o.fz;have c1:=d.o.c1;have fz:=d.o.fz;go_wp2
 go_end0
 have m:=d.o.move (i+1);rw[D]at m;refine⟨rfl,m.1,⟨U I 0 0,?_,oZ _ _ _ _⟩,?_⟩
 ·have e:=C.o.1.fr m.2 A.o;refine⟨fun o V=>(e.cell o V).trans ?_,e.fz⟩;have F:=R.o;unfold VA;by_cases h:o=10
  ·subst h;simp[F.1]
  by_cases j:o=11
  ·subst j;simp
  by_cases l:o=12
  ·subst l;simp[F.2.2]
  simp[h,j,l]
 exact((v.o.mono).trans (C.o.2.mono (fun k e=>z7 e))).trans (m.2.mono (fun k e=>L e))
def XB.congr {w X a b}(h:XB w X a)(e:∀o,o<13->a o=b o):XB w X b:=⟨fun o c=>(h.cell o c).trans (by rw[e o c]),h.fz⟩
structure xG (w:A)(p q g X:Nat)(body:List Tk)(cv:Nat)(va:Option Addr)(n vc:Nat)(rts:List Zf):Prop where
 wt:zL w q g body cv
 q1:w.cell? ⟨q,1,I⟩=Z (U va n vc)
 n1:q≠p/\g≠p/\q≠X/\g≠X/\X≠p
 ln:rts.length=n/\n<=7
 row:∀j r,rts[j]?=Z r->∃g3,va=Z ⟨g3,0,I⟩/\g3≠p/\g3≠X/\g3<w.heap.size/\w.cell? ⟨g3,j*3,I⟩=Z (G r.name)
def xG.fr {w w' p q g X body c d n f a}(h:xG w p q g X body c d n f a)(b:Fr (fun j=>j=p\/j=X) w w'):xG w' p q g X body c d n f a:=by
 obtain⟨i,s,k,t,y⟩:=h.n1;have u:=bL w _ h.q1;refine⟨h.wt.fr b (by simp[i,k]) (by simp[s,t]),(b.cell (p:=⟨q,1,I⟩) u (by simp[i,k])).trans h.q1,h.n1,h.ln,fun j r v=>?_⟩;obtain⟨g3,e,l,m,o,x⟩:=h.row j r v;exact⟨g3,e,l,m,Nat.lt_of_lt_of_le o b.size,(b.cell (p:=⟨g3,j*3,I⟩) o (by simp[l,m])).trans x⟩
def Fr.no {S w a}(h:F0 w a):Fr S w a:=h.mono
def AH (a k u v):VA (VA a k u) k v=VA a k v:=by
 funext o
 unfold VA
 by_cases h:o=k<;>simp[h]
def KF (w p q g X i z a cv va n vc c l f cs ch)(hp:SV w p q i f)(hv:xG w p q g X a cv va n vc c)(V:XB w X cs)(M0:cs 10=U I 0 0)(N0:cs 11=E false)(O0:cs 12=E false)(hl:tU a z l)(hb:a.length<=3000)(t0)(s0:a[i]?=Z t0)(f0:(t0.text.toList==[100,101,99,108,105,110,101])=false)(j2:(t0.text.toList==[99,104,101,97,112,101,115,116])=ch)(hi:i=if ch then z else z+1):
  z3 N 135 #[M (Z ⟨p,0,I⟩),M (Z ⟨X,0,I⟩)] w (Dp w p q X (z+2*l.length) (Xs c 1 f l) cs (l.map (fun t=>ZC t.text (-1) 0 c)) false ch):=by
 have HP:=Za hp;have HV:=Za hv;have HX:=Za V;have HL:=Za hl;have H1:O (cs 10=U I 0 0/\cs 11=E false/\cs 12=E false):=⟨M0,N0,O0⟩;have HN:=Za hv.n1.2.2.2.2;have a0:=Za (bL w _ hp.c0);have P0:=Za (bL w _ (V.cell 0 az));have Q0:=Za s0;have HI:=Za hi;have l2:i<a.length:=(iG.1 s0).1;have m2:=hl.ps
 have n2:z+2*l.length<a.length:=by
  obtain⟨t,ht,_⟩:=hl.en;exact(iG.1 ht).1
 clear hp hv V M0 N0 O0 hl s0 hi;go_enter func135,ntmps135;go_wp2_with fail;refine(XN w p q g i f a cv t0 HP.o HV.o.wt Q0.o).mono ?_;rintro e w1 ⟨rfl,r⟩;have g0:=Za r;clear r;go_wp2_with fail;refine(XN w1 p q g i f a cv t0 (HP.o.fr g0.o) (HV.o.fr g0.o.no).wt Q0.o).mono ?_;rintro e w2 ⟨rfl,r⟩;have d:=Za (g0.o.trans r);clear r g0
 go_upto_if 22 with fail
 go_cut [] (fun wc=>O (SV wc p q (z+1) f)/\O (XB wc X (VA cs 12 (E ch)))/\O (Fr (fun j=>j=p\/j=X) w wc))
 case first=>
  cases ch with
  |false=>
   have v0:O (SV w2 p q (z+1) f):=by have e:=HP.o.fr d.o;rw[HI.o]at e;exact e
   go_wp2;go_meet;exact⟨v0,(HX.o.fr d.o).congr (fun o _=>by unfold VA;by_cases h:o=12<;>simp[h,H1.o.2.2]),d.o.no⟩
  |true=>
   have v0:O (SV w2 p q z f):=by have e:=HP.o.fr d.o;rw[HI.o]at e;exact e
   have hs:=(HX.o.fr d.o).set (k:=12) az (E true);have HS:=Za hs;have A:=Za (v0.o.fr hs.2 (fun e=>HN.o e.symm));have o2:=(HX.o.fr d.o).cell 12 az;have xf:=(HX.o.fr d.o).fz;have c1:=A.o.c1;have fz:=A.o.fz;clear hs;go_wp2;go_meet;have v:=A.o.move (z+1);rw[D]at v;exact⟨v.1,HS.o.1.fr v.2 HN.o,(d.o.no.trans (HS.o.2.mono (fun k e=>z7 e))).trans (v.2.mono (fun k e=>L e))⟩
 obtain⟨B1,R0,C1⟩:=hcut;obtain⟨ds,h0⟩:=ae (VA cs 12 (E ch));rw[<-h0]at R0;have D1:=Za h0
 have S0:O (ds 10=U I 0 0):=by show _=_;rw[h0];unfold VA;simp[H1.o.1]
 clear h0;go_wp2
 go_loopg [4] l.length (fun m ko wr=>∃j fj b0 vp,j<=l.length/\m=l.length-j/\ko=Y J ((j+1:Nat):Int)/\O (b0=(l.take j).map (fun t=>ZC t.text (-1) 0 c))/\O (XB wr X (VA ds 10 vp))/\O (wr.ownsRow w.heap.size 3 1 vp j (UR b0))/\O (SV wr p q (if j=0 then z+1 else z+2*j) fj)/\O (Fr (fun j=>j=p\/j=X) w wr)/\O (Xs c 1 f l=Xs c (j+1) fj (l.drop j)))
 case atStart=>exact⟨0,f,[],U I 0 0,z6 _,rfl,rfl,rfl,R0.o.congr (fun o _=>by unfold VA;by_cases h:o=10<;>simp[h,S0.o]),World.ownsRow_nil _ _ _ _,B1,C1,rfl⟩
 obtain⟨j,fj,b0,vp,hj,p2,rfl,T0,w0,x0,z0,S,HR⟩:=hrel;by_cases V0:j<l.length
 ·obtain⟨t,ht⟩:∃t,l[j]?=Z t:=⟨_,gE V0⟩
  obtain⟨x,V⟩:=ae (z+2*j);obtain⟨kk,B⟩:=ae (((j+1:Nat):Int):Int);rw[<-B]
  have A0:O (a[x+1]?=Z t):=by
   have:=HL.o.it j t ht;rw[show z+1+2*j=x+1 from az]at this;exact this
  have E1:=Za (NM ht)
  have F1:O ((l.take (j+1)).map (fun t=>ZC t.text (-1) 0 c)=(l.take j).map (fun t=>ZC t.text (-1) 0 c)++[ZC t.text (-1) 0 c]):=by
   show _=_
   rw[z4,ht,y5];rfl
  have q2:x+2<=3000:=az;have d0:=Za V;have W0:=Za B;have r2:y6.wrap (kk+1)=kk+1:=IntWalk.i64_in _ az;obtain⟨b4,X0⟩:=ad (decide (4<j+1));have Y0:=Za X0;have s2:=tw W0.o Y0.o;clear X0 d;rcases y1 j with e0|e0
  case' inl=>
   have f0:(kk==1)=true:=aF;have Z0:decide ((1:Int)<kk)=false:=aF
   have a1:O (SV wr p q (x+1) fj):=by have e:=z0.o;rw[if_pos e0]at e;rw[d0.o,e0];exact e
   have d:=S;have b1:=w0;have d1:=x0;have e1:=Za (HV.o.fr S.o);clear e0 V B ht;go_wp2_with fail
  case' inr=>
   have f0:(kk==1)=false:=aF;obtain⟨tc,B0,G1⟩:=HL.o.cm j az V0;rw[<-V]at B0;have HC:=Za B0
   have u:O (SV wr p q x fj):=by have e:=z0.o;rw[if_neg az]at e;rw[d0.o];exact e
   have Z0:decide ((1:Int)<kk)=true:=aF;clear B0 e0 V B ht;go_wp2_with fail;refine(XN wr p q g x fj a cv tc u.o (HV.o.fr S.o).wt HC.o).mono ?_;rintro e w1 ⟨rfl,r⟩;have C0:=Za (u.o.fr r);have I1:=Za (S.o.trans r.no);have J1:=Za (w0.o.fr r);have K1:=Za (oF x0.o r);have c1:=C0.o.c1;have fz:=C0.o.fz;have v:=C0.o.move (x+1);rw[D]at v;have a1:=Za v.1;have d:=Za (I1.o.trans (v.2.mono (fun k e=>L e)));have b1:=Za (J1.o.fr v.2 HN.o);have d1:=Za (oF K1.o v.2 (fun k e=>by rw[e];exact a0.o));have e1:=Za (HV.o.fr d.o);clear r v;go_wp2_with fail
  all_goals
   refine(X1 _ p q g (x+1) fj a cv t b4 6 _ a1.o e1.o.wt HV.o.n1.1 HV.o.n1.2.1 A0.o aB aD).mono ?_;rintro e w3 ⟨rfl,f1,j0⟩;have L1:=Za f1;have l0:=Za (d.o.trans (j0.mono (fun k e=>L e)));have D0:=Za (b1.o.fr j0 HN.o);have E0:=Za (oF d1.o j0 (fun k e=>by rw[e];exact a0.o));have g1:=Za (HV.o.fr l0.o);clear f1 j0;have t2:=g1.o.ln.2;go_wp2
   go_loopg [5,6] n (fun m fo ix wi=>∃b,b<=n/\m=n-b/\ix=Y J (b:Nat)/\(∃lp,fo=Y J lp/\O (lp=ZC t.text (-1) 0 (c.take b)))/\O (F0 w3 wi))
   case atStart=>exact⟨0,z6 _,rfl,rfl,⟨-1,rfl,rfl⟩,Zo⟩
   obtain⟨b,v2,M1,rfl,⟨lp,rfl,G0⟩,F⟩:=hrel;have m0:=Za (L1.o.fr F.o);have H:=Za (g1.o.fr F.o.no);have c0:=m0.o.c0;have q1:=H.o.q1;by_cases f2:b<n
   ·obtain⟨y,hy⟩:∃y,c[b]?=Z y:=⟨_,gE (aj H.o.ln.1)⟩
    obtain⟨g3,H0,x2,y2,N1,r0⟩:=H.o.row b y hy;have O1:=Za H0;rw[H0]at q1;have i1:O (ZC t.text (-1) 0 (c.take (b+1))=if(y.name.toList==t.text.toList)=true then(b:Int)else ZC t.text (-1) 0 (c.take b)):=LE hy;obtain⟨bx,P1⟩:=ad (y.name.toList==t.text.toList);have j1:=Za P1;have Q1:=af b n
    have I0:O (∀W,F0 wr W->W.cell? ⟨p,0,I⟩=Z (M (Z ⟨q,0,I⟩))/\W.cell? ⟨q,1,I⟩=Z (U (Z ⟨g3,0,I⟩) n vc)/\W.cell? ⟨g3,b*3,I⟩=Z (G y.name)):=fun W hW=>⟨(m0.o.fr hW).c0,by have e:=(H.o.fr hW.no).q1;rw[O1.o]at e;exact e,(hW.cell (p:=⟨g3,b*3,I⟩) N1).trans r0⟩
    have HA:O (∀W,F0 wr W->z3 N 80 #[M (Z ⟨p,0,I⟩)] W fun e w'=>e=T (G t.text)/\F0 W w'):=fun W hW=>XN W p q g (x+1) _ a cv t (m0.o.fr hW) (H.o.fr hW.no).wt A0.o
    clear hy H0;go_wp2
    go_cut [80]from 55 to 81 (fun s wx=>s=E bx/\O (F0 wr wx))
    case first=>
     go_region_with (go_at_call 80;refine(HA.o _ (by exact Zo.drew)).mono ?_;rintro e w5 ⟨rfl,r⟩;have K:O (F0 wr w5):=(Zo.drew).trans r;have k0:=(I0.o w5 K.o).1;have k1:=(I0.o w5 K.o).2.1;have k2:=(I0.o w5 K.o).2.2;clear r)
     all_goals(go_wp2;go_meet;exact⟨rfl,K⟩)
    obtain⟨rfl,l1⟩:=hcut;clear c0 q1 r0
    cases bx with
    |true=>
     go_wp2;go_roundg (n-(b+1))
     case measure=>omega
     exact⟨b+1,az,rfl,aE,⟨b,rfl,by show _=_;rw[i1.o,j1.o];rfl⟩,F.o.trans l1.o⟩
    |false=>
     go_wp2;go_roundg (n-(b+1))
     case measure=>omega
     exact⟨b+1,az,rfl,aE,⟨lp,rfl,by show _=_;rw[i1.o,j1.o];exact G0.o⟩,F.o.trans l1.o⟩
   have Q1:=ai b n
   have o0:O (lp=ZC t.text (-1) 0 c):=by
    have e:=G0.o;rw[C (aj H.o.ln.1)]at e;exact e
   obtain⟨bf,R1⟩:=ad (decide (lp<0));have S1:=Za R1;have T1:=Za (l0.o.trans F.o.no);have V1:=Za (D0.o.fr F.o);have W1:=Za (oF E0.o F.o);clear G0 M1;go_wp2_with fail;refine(X1 _ p q g (x+1) _ a cv t bf 4 _ m0.o H.o.wt HV.o.n1.1 HV.o.n1.2.1 A0.o aB aD).mono ?_;rintro e w5 ⟨rfl,m1,n0⟩;have Y1:=Za m1;have K:=Za (T1.o.trans (n0.mono (fun k e=>L e)));have o1:=Za (V1.o.fr n0 HN.o);have p1:=Za (oF W1.o n0 (fun k e=>by rw[e];exact a0.o));have A2:=K.o.size
   have Z1:w5.cell? ⟨X,10,I⟩=Z vp:=by have e:=o1.o.cell 10 az;unfold VA at e;simpa using e
   clear m1 n0 c0 q1
   go_wp2_with (at_builtin;refine ao w.heap.size Y9 underlying25 vp j (UR b0) ?h1 ⟨w5.heap.size,0,I⟩ [Y J lp] ?h2 ?_ (k4:=?h6))
   case h1=>exact p1.o.alloc _
   try case h2=>exact z2 (aN w5 (.cells #[Y J lp] 3))
   case h6=>first|omega|(simp;omega)
   intro g2 p0 w6 q0 P _ _
   have Q:∀k,vp.ownBlock=Z k->w.heap.size<=k:=fun k hk=>(p1.o.lt k hk).1
   have J0:Fr (fun k=>vp.ownBlock=Z k) w5 w6:=((Fr.refl (fun k=>vp.ownBlock=Z k) w5).alloc _).grown P (fun k hk=>L hk);have a2:=Za q0;have b2:=Za ((K.o.alloc _).grown P (fun k hk=>z7 (Q k hk)));have K0:=Za (o1.o.fr J0 (fun e=>ak (Q X e) P0.o));have c2:=Za (Y1.o.fr J0 (fun e=>ak (Q p e) a0.o))
   have i2:w6.cell? ⟨X,10,I⟩=Z vp:=by have e:=K0.o.cell 10 az;unfold VA at e;simpa using e
   have xf:=K0.o.fz;have hs:=K0.o.set (k:=10) az (U (Z ⟨g2,0,I⟩) (j+1) p0);rw[AH]at hs;have HS:=Za hs;have A:=Za (c2.o.fr hs.2 (fun e=>HN.o e.symm));have c1:=A.o.c1;have fz:=A.o.fz;clear P q0 Q J0 hs Z1;go_wp2;go_roundg (l.length-(j+1))
   case measure=>omega
   have v:=A.o.move (x+1+1);rw[D (x+1)]at v;refine⟨j+1,ZZ (ZZ fj b4 6 t.line) bf 4 t.line,b0++[lp],U (Z ⟨g2,0,I⟩) (j+1) p0,az,rfl,by rw[W0.o];go_num,?_,?_,?_,?_,?_,?_⟩
   ·show _=_
    rw[T0.o,F1.o,o0.o]
   ·exact HS.o.1.fr v.2 HN.o
   ·show z8 _ _ _ _ _ _ _
    rw[IJ];exact oF (oB a2.o (by have:=P0.o;simpa using this) _) v.2 (fun k e=>by rw[e];exact a0.o)
   ·show SV _ _ _ _ _
    rw[if_neg az,show z+2*(j+1)=x+1+1 from aj d0.o];exact v.1
   ·exact(b2.o.trans (HS.o.2.mono (fun k e=>z7 e))).trans (v.2.mono (fun k e=>L e))
   show _=_
   rw[HR.o,E1.o];simp only[Xs];rw[Y0.o,<-o0.o,S1.o]
 obtain⟨te,L0,G1⟩:=HL.o.en;have ej:j=l.length:=az;rw[<-ej]at L0;have f0:((((j+1:Nat):Int))==1)=false:=aF;have HC:=Za L0
 have u:O (SV wr p q (z+2*j) fj):=by have e:=z0.o;rw[if_neg az]at e;exact e
 clear L0;obtain⟨x,V⟩:=ae (z+2*j);obtain⟨kk,B⟩:=ae (((j+1:Nat):Int):Int);rw[<-B]at f0 ⊢;rw[<-V]at HC u;have d0:=Za V;clear V B;go_wp2_with fail;refine(XN wr p q g x fj a cv te u.o (HV.o.fr S.o).wt HC.o).mono ?_;rintro e w3 ⟨rfl,r⟩;have l0:=Za (S.o.trans r.no);have d2:=Za (u.o.fr r);have D0:=Za (w0.o.fr r);have E0:=Za (oF x0.o r);clear r;go_wp2
 go_end0
 refine⟨rfl,?_,⟨vp,?_,?_⟩,l0.o⟩
 ·have e2:fj=Xs c 1 f l:=by rw[HR.o,dL az];rfl
  rw[<-e2,<-ej,<-d0.o];exact d2.o
 ·refine D0.o.congr (fun o _=>?_);rw[D1.o];have h1:=H1.o;unfold VA;by_cases r1:o=10
  ·simp[r1]
  by_cases s1:o=12
  ·simp[s1]
  by_cases t1:o=11
  ·simp[t1,h1.2.1]
  simp[r1,t1,s1]
 have e:=E0.o;rw[T0.o,C az]at e;rw[R,<-ej];exact e
structure Tj (w0 w:A)(p q X i:Nat)(f:Fa)(cs:Nat->z1):Prop where
 wp:SV w p q i f
 xb:XB w X cs
 fr:Fr (fun j=>j=p) w0 w
 xl:w0.heap.size<=X
 ne:X≠p
def Tj.move {b w p q X i f c}(h:Tj b w p q X i f c)(k:Nat):Tj b (w.setCell ⟨p,1,I⟩ (Y J k)) p q X k f c:=by
 have a:=h.wp.move k;exact⟨a.1,h.xb.fr a.2 h.ne,h.fr.trans a.2,h.xl,h.ne⟩
def Tj.set {a w p q X i f b}(h:Tj a w p q X i f b){k}(d:k<13)(v):Tj a (w.setCell ⟨X,k,I⟩ v) p q X i f (VA b k v):=by
 have c:=h.xb.set d v;exact⟨h.wp.fr c.2 (fun e=>h.ne e.symm),c.1,h.fr.setCell (p:=⟨X,k,I⟩) (z7 h.xl) v,h.xl,h.ne⟩
def Tj.call {b w a p q X i c f d e}(h:Tj b w p q X i f e)(k:SV a p q c d)(g:Fr (fun j=>j=p) w a):Tj b a p q X c d e:=⟨k,h.xb.fr g h.ne,h.fr.trans g,h.xl,h.ne⟩
def Tj.look {a w b p q X i f c}(h:Tj a w p q X i f c)(d:F0 w b):Tj a b p q X i f c:=h.call (h.wp.fr d) d.no
def CQ {a:Nat}{w:A}:∀{b:List Xh}{d:List z1}{j:Nat}{r:Xh},TU a w b d->b[j]?=Z r->d[j*13]?=Z (G r.name)
 |[],_,j,_,_,hj=>by simp at hj
 |r::b,d,0,r',⟨c,rest,e,h1,h2⟩,hj=>by
  simp at hj;subst hj;obtain⟨g,h,i,f,_⟩:=h1;rw[e,f];rfl
 |r::b,d,j+1,r',⟨c,rest,e,h1,h2⟩,hj=>by
  have:=CQ h2 (j:=j) (r:=r') (by simpa using hj);obtain⟨g,h,i,f,_⟩:=h1
  have l:c.length=13:=by rw[f];rfl
  rw[e,aR z,l,show(j+1)*13-13=j*13 from z];exact this
def Dq {w:A}{b v n d}(h:w.ownsRow b 170 13 v n d):
  ∃a c,v=U a n c/\∀j u,j<n->d[j*13]?=Z u->∃g,a=Z ⟨g,0,I⟩/\b<=g/\g<w.heap.size/\w.cell? ⟨g,j*13,I⟩=Z u:=by
 obtain⟨a,c,e⟩:=oL h;refine⟨a,c,e,fun j u q i=>?_⟩;obtain⟨g,k,f,l,m⟩:=h.form z;rw[e]at f;injection f with o _ p;subst o p;subst e;refine⟨g,rfl,l,m,?_⟩;have:=h.cells (g:=g) rfl _ _ i
 rwa [Sa,y2]at this
def Rz:(N.info? 170).map (fun i=>(i.zero,i.size,i.bytes))=Z (Z (.agg #[G ByteArray.empty,Y J 0,Y J 0,Y J 0,Y J 0,U I 0 0,U I 0 0,E false,Y J 0,Y J 0,U I 0 0,E false,E false]),13,152):=n
def AI (a:ByteArray):Nat->z1
 |0=>G a
 |1=>Y J 0
 |2=>Y J 0
 |3=>Y J 0
 |4=>Y J 0
 |5=>U I 0 0
 |6=>U I 0 0
 |7=>E false
 |8=>Y J 0
 |9=>Y J 0
 |10=>U I 0 0
 |_=>E false
def sO (w:A)(a):XB (w.alloc (.cells #[G a,Y J 0,Y J 0,Y J 0,Y J 0,U I 0 0,U I 0 0,E false,Y J 0,Y J 0,U I 0 0,E false,E false] 170)) w.heap.size (AI a):=by
 have b:=aN w (.cells #[G a,Y J 0,Y J 0,Y J 0,Y J 0,U I 0 0,U I 0 0,E false,Y J 0,Y J 0,U I 0 0,E false,E false] 170);refine⟨fun o c=>bC b o _ ?_,bF b⟩
 match o,c with
 |0,_=>rfl
 |1,_=>rfl
 |2,_=>rfl
 |3,_=>rfl
 |4,_=>rfl
 |5,_=>rfl
 |6,_=>rfl
 |7,_=>rfl
 |8,_=>rfl
 |9,_=>rfl
 |10,_=>rfl
 |11,_=>rfl
 |12,_=>rfl
def NU.rules {w a B b p q g i f body K E s V d l C c M o}(h:NU w B b p q g i f body K E s d l C)(F:tA b w M c)(G:(w.alloc o).drew.grownBy a s.ownBlock)(P:a.ownsRow b 170 13 V (l.length+1) (C++c)):
  a.cell? ⟨q,2,I⟩=Z s/\(∀o,a.frozen? ⟨q,o,I⟩=false)/\NU (a.setCell ⟨q,2,I⟩ V) B b p q g i f body K E V d (l++[M]) (C++c)/\Fr (fun j=>B<=j) w (a.setCell ⟨q,2,I⟩ V):=by
 have x:∀k,s.ownBlock=Z k->b<=k:=fun k m=>(h.lo.lt k m).1
 have t:=(((Fr.refl (fun k=>s.ownBlock=Z k) w).alloc o).drew).grown G (fun k m=>L m)
 have u:∀k,k<b->¬s.ownBlock=Z k:=fun k m e=>aj (x k e)
 have H:=bL w _ h.q1;have Q:=h.wt.lt;have R:=h.gB;have S:=h.pB;have T:=h.qB;have N:=(t.cell (p:=⟨q,2,I⟩) H (u q h.qB.2)).trans h.q2
 have O:∀o,a.frozen? ⟨q,o,I⟩=false:=fun o=>(t.frozen (p:=⟨q,o,I⟩) H (u q h.qB.2)).trans (h.fq o)
 have J:=h.wp.fr t (u p h.pB.2);have r:=h.wt.fr t (u q h.qB.2) (u g az);have y:Fr (fun j=>j=q) a (a.setCell ⟨q,2,I⟩ V):=(Fr.refl (fun j=>j=q) a).setCell (p:=⟨q,2,I⟩) (L rfl) _;have z:(w.alloc o).drew.ownsRow b 170 13 s l.length C:=(h.lo.alloc _).drew
 have m:∀v n D,w.ownsRow b 3 1 v n D->(a.setCell ⟨q,2,I⟩ V).ownsRow b 3 1 v n D:=fun v n D U=>by
  have A:(w.alloc o).drew.ownsRow b 3 1 v n D:=(U.alloc _).drew;exact oB (A.kept G (WP A z aB)) aF _
 refine⟨N,O,⟨J.fr y (fun e=>h.ne e.symm),?_,?_,z9 _ _ _ N,fun o=>by simp[O o],?_,?_,TU.snoc (F.keep m) (TU.keep m h.ru),h.gB,h.pB,h.qB,h.ne,?_⟩,?_⟩
 ·refine⟨?_,nL r.lt y.size,r.row.fr y r.lt az⟩;rw[cO _ _ _ _ aA];exact r.c0
 ·rw[cO _ _ _ _ aA];exact(t.cell (p:=⟨q,1,I⟩) H (u q h.qB.2)).trans h.q1
 ·have A:(w.alloc o).drew.ownsRow b 189 3 E d.length (Ym d):=(h.ro.alloc _).drew;exact oB (A.kept G (WP A z aB)) aF _
 ·rw[lA];exact oB P aF _
 ·exact z5 h.b2 (z5 t.size y.size)
 exact(t.mono (fun k m=>aj (x k m))).trans (y.mono (fun k e=>az))
def uh (a:Nat->z1)(o:Option (Tk×Tk)):Nat->z1:=
 match o with
 |none=>a
 |some b=>VA (VA (VA a 7 (E true)) 8 (Y J (Zd b.1))) 9 (Y J (Zd b.2))
def ui {w W B x p q g i y X f z b t A C a m D E}(h:NU w B x p q g i f b t A C a m D)(c:Tj w W p q X y z E)(F:a.length<=7):∃o n s,xG W p q g X b t o n s a:=by
 obtain⟨o,s,e,d⟩:=Nk h.ro;have G:q<w.heap.size:=bL w _ h.q1;have H:=h.wt.lt;have k:g≠p:=ak h.gB h.pB;have J:=c.xl;refine⟨o,a.length,s,h.wt.fr c.fr h.ne k,?_,⟨h.ne,k,az,az,c.ne⟩,⟨rfl,F⟩,fun j r K=>?_⟩
 ·have u:=(c.fr.cell (p:=⟨q,1,I⟩) G h.ne).trans h.q1;rw[e]at u;exact u
 obtain⟨g3,L,N,v,M⟩:=d j r K;have l:g3≠p:=aj h.pB;exact⟨g3,L,l,az,nL v c.fr.size,(c.fr.cell (p:=⟨g3,j*3,I⟩) v l).trans M⟩
def Fr.get {w W:A}(h:F0 w W){p:Addr}{v:z1}(a:w.cell? p=Z v):W.cell? p=Z v:=(h.cell (bL w _ a)).trans a
def CR {P F a u b W Q}(H:∀W,F0 b W->z3 P F a W fun e c=>e=T u/\F0 W c)(d:F0 b W)(k:∀c,F0 b c->Q (T u) c):z3 P F a W Q:=
 (H W d).mono (by rintro e c ⟨rfl,f⟩;exact k c (d.trans f))
def xH (n:Nat):Code->Bool
 | .region m _ _=>m==n
 | .seq a _=>xH n a
 |_=>false
def GW (n:Nat):Code->Option Code
 | .seq a b=>if xH n a then Z (.seq a b)else GW n b
 |_=>I
def sP (f:Func)(n:Nat):Code:=(f.body.bind (GW n)).getD .skip
set_option maxRecDepth 1000000 in
def IK (w B B2 p q g i f d cv vr vl F g0 xs r j5)(hb:d.length<=3000)(h7:F.length<=7)(h0:O (NU w B B2 p q g i f d cv vr vl F g0 xs))(HA:O (Ij d i r j5))(HQ:O (q≠p/\g≠p))(j0:O (∀W,Fr (fun j=>j=p) w W->zL W q g d cv))(la lc)(W1:O (vl=U la g0.length lc))(n)(HN:O (g0.length=n))(b8)(K2:O (decide (8<=n)=b8))(x4:n<=8)(L2:O (p<w.heap.size))(X fn)(M2:O (fn=Ys r.name.text r.name.line (ZZ f b8 6 r.name.line) (g0.map Xh.name)))(x)(W3:O (x=i+1))(f6 y)(N2:O (f6=ZZ fn (decide (1000<Zd r.rank)) 5 r.rank.line))(HY:O (y=x+1+1))(v1:Nat)(X3:O (v1=Zd r.rank))(O2)(m0:O (O2=VA (AI r.name.text) 1 (Y J v1)))(P2)(s1:Nat)(n0:O (P2=VA O2 2 (Y J s1)))(Y1:O (s1=r.bin.1.text.size))(b6)(Q2:O (decide (6<s1)=b6))(Z1)(K1:O (Z1=ZZ f6 b6 5 r.bin.1.line))(v3:Nat)(c2:O (v3=Zd r.bin.1))(R2)(o0:O (R2=VA P2 3 (Y J v3)))(z)(HZ:O (z=y+2))(z4:z+3<=3000)(v4:Nat)(d2:O (v4=Zd r.bin.2))(y0)(p0:O (y0=VA R2 4 (Y J v4)))(s2)(S2:O (s2=r.bin.2.text.size))(wc)(hcut:O (Tj w wc p q X (z+2) (ZZ Z1 (decide (6<s2)||decide (s2≠s1)||decide (v4<v3)) 5 r.bin.2.line) y0))(u1 u4 u5 u6 u7 u8 u9 u10 u11 u12 u13 u14 u15 u16 u17 u18 u19 u20 u21 u22 u23 u24 u25 u26 u27 u28 u29 u30 u31 u32 u33 u34 u35 u36 u37 u38 u39 u40 u41 u42 u43 u44 u45 u46 u47 u48 u49 u50 u51 u52 u53 u54 u55 u56 u57 u58 u59 u60 u61 u62 u63 u64 u65 u66 u67 u68 u69 u70 u71 u72 u73 u74 u75 u76 u77 u78 u79 u80 u81 u82 u83 u84 u85 u86 u87 u88 u89 u90 u91 u92 u93 u94 u95 u96 u97 u98 u99 u100 u101 u102 u103 u104 u105 u106 u107 u108 u109 u110 u111 u112 u113 u114 u115 u116 u117 u118 u119 u120 u121 u122 u123 u124 u125 u126 u127 u128 u129 u130 u131 u132 u133 u134 u135 u136 u137 u138 u139 u140 u141 u142 u143 u144 u145 u146 u147 u148 u149 u150 u151 u152 u153 u154 u155 u156 u157 u158 u159 u160 u161 u162 u163 u164 u165 u166 u167 u168 u169 u170 u171 u172 u173 u174 u175 u176 u177 u178 u179 u180 u181 u182 u183 u184 u185 u186 u187 u188 u189 u190 u191 u192 u193 u194):
  Code.wp N (sP f82 17) (bodyPost N f82 fun e w'=>e=T (.tuple #[])/\(∃Y3 c,NU w' B B2 p q g j5 (XD F (g0.map Xh.name) f r) d cv vr Y3 F (g0++[Vw F r]) (xs++c))/\Fr (fun j=>B<=j) w w') ⟨#[M (Z ⟨p,0,I⟩),u1,M (Z ⟨q,0,I⟩),M (Z ⟨X,0,I⟩),u4,u5,u6,u7,u8,u9,u10,u11,u12,u13,u14,u15,u16,u17,u18,u19,u20,u21,u22,u23,u24,u25,u26,u27,u28,u29,u30,u31,u32,u33,u34,u35,u36,u37,u38,u39,u40,u41,u42,u43,u44,u45,u46,u47,u48,u49,u50,u51,u52,u53,u54,u55,u56,u57,u58,u59,u60,u61,u62,u63,u64,u65,u66,u67,u68,u69,u70,u71,u72,u73,u74,u75,u76,u77,u78,u79,u80,u81,u82,u83,u84,u85,u86,u87,u88,u89,u90,u91,u92,u93,u94,u95,u96,u97,u98,u99,u100,u101,u102,u103,u104,u105,u106,u107,u108,u109,u110,u111,u112,u113,u114,u115,u116,u117,u118,u119,u120,u121,u122,u123,u124,u125,u126,u127,u128,u129,u130,u131,u132,u133,u134,u135,u136,u137,u138,u139,u140,u141,u142,u143,u144,u145,u146,u147,u148,u149,u150,u151,u152,u153,u154,u155,u156,u157,u158,u159,u160,u161,u162,u163,u164,u165,u166,u167,u168,u169,u170,u171,u172,u173,u174,u175,u176,u177,u178,u179,u180,u181,u182,u183,u184,u185,u186,u187,u188,u189,u190,u191,u192,u193,u194],[]⟩ wc:=by
 obtain⟨ii,hi,T2,V2,W2⟩:=info_parts Rz
 conv=>arg 2;whnf
 have q0:=hcut;clear hcut;obtain⟨r0,P0⟩:=ae (ZZ Z1 (decide (6<s2)||decide (s2≠s1)||decide (v4<v3)) 5 r.bin.2.line);obtain⟨u,hu⟩:=ae (z+2);rw[<-P0,<-hu]at q0;have L1:=b P0;have HU:=b hu;have Z3:u+1<=3000:=az
 have s0:O (Tj w (wc.setCell ⟨p,1,I⟩ (Y J ((u:Int)+1))) p q X (u+1) r0 y0):=by have e:=q0.o.move (u+1);rw[D]at e;exact e
 have c1:=q0.o.wp.c1;have fz:=q0.o.wp.fz;clear P0 hu;go_wp2_with fail
 have ei:i+8=u+1:=by have:=W3.o;have:=HY.o;have:=HZ.o;have:=HU.o;omega
 obtain⟨a1,X2⟩:=ae (u+1);rw[<-X2]at s0;have Y2:O (a1=i+8):=aQ;have Z2:=HA.o.mc;rw[<-Y2.o]at Z2;obtain⟨tm,b3,Q0⟩:=Z2;have b4:=b b3;obtain⟨qm,c3⟩:=ad (tm.text.toList==[109,99,99]);rw[c3]at Q0;have f2:=b Q0;refine(XN _ p q g a1 r0 d cv tm s0.o.wp (j0.o _ s0.o.fr) b4.o).mono ?_;rintro e d3 ⟨rfl,hf⟩;have d0:=b (s0.o.look hf);clear hf c1 fz s0 q0 ei X2 b3 Q0 Z3
 go_upto_if 123 with fail
 go_cut [] (fun wx=>∃vm,O (Tj w wx p q X (a1+2*r.mcc.length) (Yg 9999 1 r0 r.mcc) (VA y0 5 vm))/\O (wx.ownsRow (X+1) 3 1 vm r.mcc.length (Zg (r.mcc.map Zd))))
 case first=>
  cases qm with
  |true=>
   have h2:O (tU d a1 r.mcc):=by rcases f2.o with⟨_,R0⟩|⟨hk,_⟩;exact R0;cases hk
   go_wp2_with fail;refine(GV d3 p q g a1 r0 d cv r.mcc 9999 _ d0.o.wp (j0.o _ d0.o.fr) HQ.o.1 HQ.o.2 hb h2.o HA.o.dg.2.2.2.1 aD).mono ?_;rintro e D1 ⟨⟨v,rfl,hO⟩,hP,hF⟩;have S0:=b (d0.o.call hP hF);have T0:=bL d3 _ (d0.o.xb.cell 0 az);obtain⟨va,vc,rfl⟩:=oL hO;have hs:=S0.o.set (k:=5) az (U va (r.mcc.map Zd).length vc)
   have A0:(D1.setCell ⟨X,5,I⟩ (U va (r.mcc.map Zd).length vc)).ownsRow (X+1) 3 1 (U va (r.mcc.map Zd).length vc) r.mcc.length (Zg (r.mcc.map Zd)):=by
    have e:=oS (oF hO ((Fr.refl (fun j=>j=X) D1).setCell (p:=⟨X,5,I⟩) (L rfl) (U va (r.mcc.map Zd).length vc)) (fun k e=>by rw[e];exact T0)) (y4 T0);rw[R]at e ⊢;exact e
   obtain⟨ml,V0⟩:=ad (r.mcc.map Zd).length;rw[V0]at hs A0 ⊢;have C:O (Tj w (D1.setCell ⟨X,5,I⟩ (U va ml vc)) p q X (a1+2*r.mcc.length) (Yg 9999 1 r0 r.mcc) (VA y0 5 (U va ml vc))/\(D1.setCell ⟨X,5,I⟩ (U va ml vc)).ownsRow (X+1) 3 1 (U va ml vc) r.mcc.length (Zg (r.mcc.map Zd))):=⟨hs,A0⟩;have x5:=S0.o.xb.cell 5 az;have xf:=S0.o.xb.fz;clear hs A0 hO hP hF V0;go_wp2;go_meet;exact⟨_,C.o.1,C.o.2⟩
  |false=>
   have W0:O (r.mcc=[]):=by rcases f2.o with⟨hk,_⟩|⟨_,X0⟩;cases hk;exact X0
   have h5:O (y0 5=U I 0 0):=by show _=_;rw[p0.o,o0.o,n0.o,m0.o];rfl
   go_wp2;go_meet;refine⟨U I 0 0,?_,?_⟩
   ·show Tj _ _ _ _ _ _ _ _
    rw[W0.o];have e:=d0.o;exact⟨e.wp,e.xb.congr (fun o _=>by unfold VA;by_cases h:o=5<;>simp[h,h5.o]),e.fr,e.xl,e.ne⟩
   show z8 _ _ _ _ _ _ _
   rw[W0.o];exact oZ _ _ _ _
 obtain⟨vm,Y0,f3⟩:=hcut;obtain⟨Q,Z0⟩:=ae (VA y0 5 vm);obtain⟨c0,b1⟩:=ae (Yg 9999 1 r0 r.mcc);obtain⟨a2,i2⟩:=ae (a1+2*r.mcc.length);rw[<-Z0,<-b1,<-i2]at Y0;have E0:=b Z0;have M1:=b b1
 have g3:O (a2=i+8+2*r.mcc.length):=by show _=_;rw[i2,Y2.o]
 have h3:=HA.o.am;rw[<-g3.o]at h3;obtain⟨ta,j2,l2⟩:=h3;have c4:=b j2;obtain⟨qa,i3⟩:=ad (ta.text.toList==[97,109,111,117,110,116]);rw[i3]at l2;have m2:=b l2;have r4:a2+4<=3010:=aj (iG.1 j2).1;clear Z0 b1 i2 j2 l2 d0 f2 c3;go_wp2_with fail;refine(XN _ p q g a2 c0 d cv ta Y0.o.wp (j0.o _ Y0.o.fr) c4.o).mono ?_;rintro e j3 ⟨rfl,hf⟩;have e0:=b (Y0.o.look hf);have d1:=b (oF f3.o hf);clear hf Y0 f3
 go_upto_if 129 with fail
 go_cut [5] (fun _ wx=>O (Tj w wx p q X (a2+SP r.amount) (Xi c0 r.amount) (uh Q r.amount))/\O (wx.ownsRow (X+1) 3 1 vm r.mcc.length (Zg (r.mcc.map Zd))))
 case first=>
  cases hA:r.amount with
  |none=>
   have hq:qa=false:=by have:=m2.o;rw[hA]at this;exact this
   subst hq;go_wp2;go_meet;refine⟨?_,d1⟩
   show Tj _ _ _ _ _ _ _ _
   rw[hA];exact e0.o
  |some ab=>
   have hq:qa=true/\d[a2+1]?=Z ab.1/\d[a2+3]?=Z ab.2:=by have:=m2.o;rw[hA]at this;exact this
   obtain⟨d4,l3,m3⟩:=hq;subst d4;have f4:=b l3;have g4:=b m3;have HD:=b (HA.o.dg.2.2.2.2.2 ab hA);have h4:=b hA
   have E1:O (Tj w (j3.setCell ⟨p,1,I⟩ (Y J ((a2:Int)+1))) p q X (a2+1) c0 Q):=by have e:=e0.o.move (a2+1);rw[D]at e;exact e
   have F1:O (Tj w ((j3.setCell ⟨p,1,I⟩ (Y J ((a2:Int)+1))).setCell ⟨X,7,I⟩ (E true)) p q X (a2+1) c0 (VA Q 7 (E true))):=E1.o.set az _;have c1:=e0.o.wp.c1;have fz:=e0.o.wp.fz;have x7:=E1.o.xb.cell 7 az;have xf:=E1.o.xb.fz;clear l3 m3 hA;go_wp2_with fail;refine(LC _ p q g (a2+1) c0 d cv ab.1 1000000000 _ _ F1.o.wp (j0.o _ F1.o.fr) HQ.o.1 HQ.o.2 f4.o HD.o.1 az aD aD).mono ?_;rintro e n3 ⟨rfl,hP,hF⟩;have a0:p<X+1:=ak L2.o e0.o.xl;obtain⟨t0,f1⟩:=ae (ZZ c0 (decide (1000000000<Zd ab.1)) 5 ab.1.line);obtain⟨t1,n2⟩:=ae (a2+1+1);rw[<-f1,<-n2]at hP;have o3:=b f1;have p3:=b n2;have s4:t1+2<=3010:=az;have F0:=b (F1.o.call hP hF);have q3:=b (oF (ownsRow_setCell_below (ownsRow_setCell_below d1.o (by simpa using a0) _) aA _) hF (fun k e=>by rw[e];exact a0));obtain⟨v8,o2⟩:=ae (Zd ab.1);rw[<-o2];have p2:=b o2;have G0:O (Tj w (n3.setCell ⟨X,8,I⟩ (Y J v8)) p q X t1 t0 (VA (VA Q 7 (E true)) 8 (Y J v8))):=F0.o.set az _
   have H0:O (Tj w ((n3.setCell ⟨X,8,I⟩ (Y J v8)).setCell ⟨p,1,I⟩ (Y J ((t1:Int)+1))) p q X (t1+1) t0 (VA (VA Q 7 (E true)) 8 (Y J v8))):=by have e:=G0.o.move (t1+1);rw[D]at e;exact e
   clear c1 fz x7 xf;have x8:=F0.o.xb.cell 8 az;have xf:=F0.o.xb.fz;have c1:=G0.o.wp.c1;have fz:=G0.o.wp.fz;clear hP hF f1 n2 o2 E1 F1;go_wp2_with fail
   have N1:O (d[t1+1]?=Z ab.2):=by have e:=g4.o;rw[p3.o];exact e
   refine(XN _ p q g (t1+1) t0 d cv ab.2 H0.o.wp (j0.o _ H0.o.fr) N1.o).mono ?_;rintro e r2 ⟨rfl,hf⟩;have I0:=b (H0.o.look hf);have r3:=b (oF (oB (oB q3.o aA _) (by simpa using a0) _) hf);clear hf c1 fz x8 xf H0 G0 F0;go_wp2_with fail;refine(Ti ab.2.text r2 HD.o.2).mono ?_;rintro e A4 ⟨rfl,he⟩;replace he:=he.symm;subst he;obtain⟨v9,G1⟩:=ae (Zd ab.2);rw[show ZA ab.2.text.data.toList=v9 from G1.symm];have s3:=b G1
   have t4:v9<1000000000:=by rw[G1];exact Wp ab.2 HD.o.2
   have e1:decide ((1000000000:Int)<(v9:Int))=false:=aF;obtain⟨bb,v2⟩:=ad (decide (v9<v8))
   have t3:decide ((v9:Int)<(v8:Int))=bb:=by rw[<-v2];by_cases hq:v9<v8<;>simp[hq]<;>omega
   have i4:=b v2;have x8:r2.cell? ⟨X,8,I⟩=Z (Y J v8):=I0.o.xb.cell 8 az;clear G1;go_wp2_with fail;refine(X1 _ p q g (t1+1) t0 d cv ab.2 bb 5 _ I0.o.wp (j0.o _ I0.o.fr) HQ.o.1 HQ.o.2 N1.o aB aD).mono ?_;rintro e w2 ⟨rfl,hP,hF⟩;obtain⟨g1,i1⟩:=ae (ZZ t0 bb 5 ab.2.line);obtain⟨t2,x2⟩:=ae (t1+1);rw[<-i1,<-x2]at hP;have w3:=b i1;have j4:=b x2;have w4:t2+1<=3010:=az;have j1:=b ((show Tj w r2 p q X (t1+1) t0 _ from I0.o).call hP hF);have x3:=b (oF r3.o hF (fun k e=>by rw[e];exact a0));have l1:O (Tj w (w2.setCell ⟨X,9,I⟩ (Y J v9)) p q X t2 g1 (VA (VA (VA Q 7 (E true)) 8 (Y J v8)) 9 (Y J v9))):=j1.o.set az _
   have y3:O (Tj w ((w2.setCell ⟨X,9,I⟩ (Y J v9)).setCell ⟨p,1,I⟩ (Y J ((t2:Int)+1))) p q X (t2+1) g1 (VA (VA (VA Q 7 (E true)) 8 (Y J v8)) 9 (Y J v9))):=by have e:=l1.o.move (t2+1);rw[D]at e;exact e
   have A3:O (((w2.setCell ⟨X,9,I⟩ (Y J v9)).setCell ⟨p,1,I⟩ (Y J ((t2:Int)+1))).ownsRow (X+1) 3 1 vm r.mcc.length (Zg (r.mcc.map Zd))):=oB (oB x3.o aA _) (by simpa using a0) _;have x9:=j1.o.xb.cell 9 az;have xf:=j1.o.xb.fz;have c1:=l1.o.wp.c1;have fz:=l1.o.wp.fz;clear hP hF i1 x2 x8 v2 t3;go_wp2;go_meet;refine⟨?_,A3⟩
   show Tj _ _ _ _ _ _ _ _
   rw[h4.o]
   have e2:Xi c0 (Z ab)=g1:=by
    simp only[Xi];rw[w3.o,o3.o,<-s3.o,<-p2.o,show decide (1000000000<v9)=false from aF,Bool.false_or,i4.o,p2.o]
   have e3:uh Q (Z ab)=VA (VA (VA Q 7 (E true)) 8 (Y J v8)) 9 (Y J v9):=by rw[p2.o,s3.o];rfl
   have e4:a2+SP (Z ab)=t2+1:=by have:=j4.o;have:=p3.o;simp only[SP];omega
   rw[e2,e3,e4];exact y3.o
 obtain⟨L0,B3⟩:=hcut;obtain⟨M0,m1⟩:=ae (uh Q r.amount);obtain⟨B0,n1⟩:=ae (Xi c0 r.amount);obtain⟨a3,y2⟩:=ae (a2+SP r.amount);rw[<-m1,<-n1,<-y2]at L0;have J0:=b m1;have O1:=b n1
 have C3:O (a3=i+8+2*r.mcc.length+SP r.amount):=by show _=_;rw[y2,g3.o]
 have D3:=HA.o.cu;rw[<-C3.o]at D3;obtain⟨tu,E3,A2⟩:=D3;have l4:=b E3;obtain⟨qc,F3⟩:=ad (tu.text.toList==[99,117,114]);rw[F3]at A2;have C2:=b A2;have a0:p<X+1:=ak L2.o L0.o.xl;clear m1 n1 y2 E3 A2 e0 d1 m2 i3;go_wp2_with fail;refine(XN _ p q g a3 B0 d cv tu L0.o.wp (j0.o _ L0.o.fr) l4.o).mono ?_;rintro e G3 ⟨rfl,hf⟩;have f0:=b (L0.o.look hf);have o1:=b (oF B3.o hf);clear hf L0 B3
 go_upto_if 172 with fail
 go_cut [] (fun wx=>∃vu,O (Tj w wx p q X (a3+2*r.cur.length) (Yg 999 1 B0 r.cur) (VA M0 6 vu))/\O (wx.ownsRow (X+1) 3 1 vu r.cur.length (Zg (r.cur.map Zd)))/\O (wx.ownsRow (X+1) 3 1 vm r.mcc.length (Zg (r.mcc.map Zd))))
 case first=>
  cases qc with
  |true=>
   have h2:O (tU d a3 r.cur):=by rcases C2.o with⟨_,R0⟩|⟨hk,_⟩;exact R0;cases hk
   go_wp2_with fail;refine(GV G3 p q g a3 B0 d cv r.cur 999 _ f0.o.wp (j0.o _ f0.o.fr) HQ.o.1 HQ.o.2 hb h2.o HA.o.dg.2.2.2.2.1 aD).mono ?_;rintro e N0 ⟨⟨v,rfl,hO⟩,hP,hF⟩;have p1:=b (f0.o.call hP hF);have T0:=bL G3 _ (f0.o.xb.cell 0 az);obtain⟨va,vc,rfl⟩:=oL hO;have hs:=p1.o.set (k:=6) az (U va (r.cur.map Zd).length vc)
   have A0:(N0.setCell ⟨X,6,I⟩ (U va (r.cur.map Zd).length vc)).ownsRow (X+1) 3 1 (U va (r.cur.map Zd).length vc) r.cur.length (Zg (r.cur.map Zd)):=by
    have e:=oS (oF hO ((Fr.refl (fun j=>j=X) N0).setCell (p:=⟨X,6,I⟩) (L rfl) (U va (r.cur.map Zd).length vc)) (fun k e=>by rw[e];exact T0)) (y4 T0);rw[R]at e ⊢;exact e
   have D2:(N0.setCell ⟨X,6,I⟩ (U va (r.cur.map Zd).length vc)).ownsRow (X+1) 3 1 vm r.mcc.length (Zg (r.mcc.map Zd)):=oB (oF o1.o hF (fun k e=>by rw[e];exact a0)) aA _;obtain⟨ml,V0⟩:=ad (r.cur.map Zd).length;rw[V0]at hs A0 D2 ⊢;have C:O (Tj w (N0.setCell ⟨X,6,I⟩ (U va ml vc)) p q X (a3+2*r.cur.length) (Yg 999 1 B0 r.cur) (VA M0 6 (U va ml vc))/\(N0.setCell ⟨X,6,I⟩ (U va ml vc)).ownsRow (X+1) 3 1 (U va ml vc) r.cur.length (Zg (r.cur.map Zd))/\(N0.setCell ⟨X,6,I⟩ (U va ml vc)).ownsRow (X+1) 3 1 vm r.mcc.length (Zg (r.mcc.map Zd))):=⟨hs,A0,D2⟩;have x6:=p1.o.xb.cell 6 az;have xf:=p1.o.xb.fz;clear hs A0 D2 hO hP hF V0;go_wp2;go_meet;exact⟨_,C.o.1,C.o.2.1,C.o.2.2⟩
  |false=>
   have W0:O (r.cur=[]):=by rcases C2.o with⟨hk,_⟩|⟨_,X0⟩;cases hk;exact X0
   have h6:O (M0 6=U I 0 0):=by show _=_;rw[J0.o,E0.o,p0.o,o0.o,n0.o,m0.o];cases r.amount<;>rfl
   go_wp2;go_meet;refine⟨U I 0 0,?_,?_,o1⟩
   ·show Tj _ _ _ _ _ _ _ _
    rw[W0.o];have e:=f0.o;exact⟨e.wp,e.xb.congr (fun o _=>by unfold VA;by_cases h:o=6<;>simp[h,h6.o]),e.fr,e.xl,e.ne⟩
   show z8 _ _ _ _ _ _ _
   rw[W0.o];exact oZ _ _ _ _
 obtain⟨vu,H1,H3,I3⟩:=hcut;obtain⟨H,r1⟩:=ae (VA M0 6 vu);obtain⟨l0,x1⟩:=ae (Yg 999 1 B0 r.cur);obtain⟨a4,E2⟩:=ae (a3+2*r.cur.length);rw[<-r1,<-x1,<-E2]at H1;have y1:=b r1;have P1:=b x1
 have m4:O (a4=i+8+2*r.mcc.length+SP r.amount+2*r.cur.length):=by show _=_;rw[E2,C3.o]
 have I1:=HA.o.ac;rw[<-m4.o]at I1
 have J3:a4+1<=3000:=by
  obtain⟨t,ht,_⟩:=I1;have:=(iG.1 ht).1;omega
 have s:O (Tj w (wc.setCell ⟨p,1,I⟩ (Y J ((a4:Int)+1))) p q X (a4+1) l0 H):=by have e:=H1.o.move (a4+1);rw[D]at e;exact e
 have C0:H 10=U I 0 0/\H 11=E false/\H 12=E false:=by rw[y1.o,J0.o,E0.o,p0.o,o0.o,n0.o,m0.o];cases r.amount<;>exact⟨rfl,rfl,rfl⟩
 have K3:O (z3 N 135 #[M (Z ⟨p,0,I⟩),M (Z ⟨X,0,I⟩)] (wc.setCell ⟨p,1,I⟩ (Y J ((a4:Int)+1))) (Dp (wc.setCell ⟨p,1,I⟩ (Y J ((a4:Int)+1))) p q X j5 (Xs F 1 l0 r.act.routes) H (r.act.routes.map (fun t=>ZC t.text (-1) 0 F)) r.act.decline r.act.cheapest)):=by
  show z3 _ _ _ _ _
  obtain⟨t,ht,Q0⟩:=I1;rcases Q0 with⟨ea,hk,ej⟩|⟨ed,n4,o4,i0,ei,R0,ej⟩
  ·rw[ea,ej];exact NI _ p q g X (a4+1) l0 d cv H t s.o.wp (j0.o _ s.o.fr) s.o.xb s.o.ne C0.1 C0.2.1 C0.2.2 J3 ht hk
  obtain⟨va,nr,vc,hV⟩:=ui h0.o s.o h7;rw[ed,ej];exact KF _ p q g X (a4+1) i0 d cv va nr vc F r.act.routes l0 H r.act.cheapest s.o.wp hV s.o.xb C0.1 C0.2.1 C0.2.2 R0 hb t ht n4 o4 ei
 have c1:=H1.o.wp.c1;have fz:=H1.o.wp.fz;clear r1 x1 E2 I1 C0 f0 o1 C2 F3;go_wp2_with fail;refine K3.o.mono ?_;rintro e l ⟨rfl,hP,⟨vp,hX,hO⟩,hF⟩;have Q1:=b hX;have R1:=b hO;have S1:=b hP;have v0:=b (s.o.fr.monoNew hF (fun k e=>by rcases e with e|e;exact L e;exact z7 (by rw[e];exact s.o.xl)));obtain⟨y7,F2⟩:=ae (H 7);obtain⟨y8,G2⟩:=ae (H 8);obtain⟨y9,H2⟩:=ae (H 9)
 have T1:O (l.cell? ⟨X,0,I⟩=Z (G r.name.text)/\l.cell? ⟨X,1,I⟩=Z (Y J v1)/\l.cell? ⟨X,2,I⟩=Z (Y J s1)/\l.cell? ⟨X,3,I⟩=Z (Y J v3)/\l.cell? ⟨X,4,I⟩=Z (Y J v4)/\l.cell? ⟨X,5,I⟩=Z vm/\l.cell? ⟨X,6,I⟩=Z vu/\l.cell? ⟨X,7,I⟩=Z y7/\l.cell? ⟨X,8,I⟩=Z y8/\l.cell? ⟨X,9,I⟩=Z y9/\l.cell? ⟨X,10,I⟩=Z vp/\l.cell? ⟨X,11,I⟩=Z (E r.act.decline)/\l.cell? ⟨X,12,I⟩=Z (E r.act.cheapest)):=by
  have e:=Q1.o
  have eq:∀o,(VA (VA (VA H 11 (E r.act.decline)) 12 (E r.act.cheapest)) 10 vp) o=if o=10 then vp else if o=12 then E r.act.cheapest else if o=11 then E r.act.decline else H o:=fun o=>by unfold VA;rfl
  have lo:∀o,o<7->H o=(VA (VA (VA (VA (VA (VA (AI r.name.text) 1 (Y J v1)) 2 (Y J s1)) 3 (Y J v3)) 4 (Y J v4)) 5 vm) 6 vu) o:=fun o ho=>by
   rw[y1.o,J0.o,E0.o,p0.o,o0.o,n0.o,m0.o]
   cases r.amount with
   |none=>rfl
   |some ab=>simp only[uh,VA];(repeat' split)<;>first|rfl|omega
  have c:=fun o ho=>(e.cell o ho).trans (by rw[eq o])
  refine⟨(c 0 az).trans (by rw[lo 0 az];rfl),(c 1 az).trans (by rw[lo 1 az];rfl),(c 2 az).trans (by rw[lo 2 az];rfl),(c 3 az).trans (by rw[lo 3 az];rfl),(c 4 az).trans (by rw[lo 4 az];rfl),(c 5 az).trans (by rw[lo 5 az];rfl),(c 6 az).trans (by rw[lo 6 az];rfl),(c 7 az).trans (by rw[F2];rfl),(c 8 az).trans (by rw[G2];rfl),(c 9 az).trans (by rw[H2];rfl),c 10 az,c 11 az,c 12 az⟩
 have K0:O (NU l B B2 p q g j5 (Xs F 1 l0 r.act.routes) d cv vr (U la n lc) F g0 xs):=by have e:=h0.o.step S1.o v0.o;rw[W1.o,HN.o]at e;exact e
 have A1:O (l.ownsRow B2 170 13 (U la n lc) n xs):=by have e:=K0.o.lo;rw[HN.o]at e;exact e
 have B4:=K0.o.b2
 have C4:X≠q:=by have:=s.o.xl;have:q<w.heap.size:=bL w _ h0.o.q1;omega
 have L3:=bL l _ (Q1.o.cell 0 az);have V1:B2<=X+1:=ak h0.o.b2 s.o.xl
 have M3:O (∀W:A,l.heap.size<=W.heap.size->∀w1,W.grownBy w1 (Value.slice la n lc).ownBlock->(∀o v,W.cell? ⟨X,o,I⟩=Z v->w1.cell? ⟨X,o,I⟩=Z v)):=fun W hW w1 hg o v hv=>(hg.cell_far ⟨X,o,I⟩ (nL L3 hW) (fun e=>by
  have h1:=h0.o.lo;rw[W1.o,HN.o]at h1;have:=(h1.lt X e.symm).2;have:=s.o.xl
  omega)).trans hv
 have N3:vm.oneCell'=true:=by obtain⟨a,c,e⟩:=oL I3.o;rw[e];rfl
 have O3:vu.oneCell'=true:=by obtain⟨a,c,e⟩:=oL H3.o;rw[e];rfl
 have P3:vp.oneCell'=true:=by obtain⟨a,c,e⟩:=oL R1.o;rw[e];rfl
 have D0:y7=E r.amount.isSome/\y8=Y J ((r.amount.map fun ab=>(Zd ab.1,Zd ab.2)).getD (0,0)).1/\y9=Y J ((r.amount.map fun ab=>(Zd ab.1,Zd ab.2)).getD (0,0)).2:=by
  rw[F2,G2,H2,y1.o,J0.o,E0.o,p0.o,o0.o,n0.o,m0.o]
  cases r.amount<;>exact⟨rfl,rfl,rfl⟩
 have J1:y7.oneCell'=true/\y8.oneCell'=true/\y9.oneCell'=true:=by rw[D0.1,D0.2.1,D0.2.2];exact⟨rfl,rfl,rfl⟩
 have Q3:O (∀u,u∈([G r.name.text,Y J v1,Y J s1,Y J v3,Y J v4,vm,vu,y7,y8,y9,vp,E r.act.decline,E r.act.cheapest]:List z1)->u.oneCell'=true):=fun u hu=>by
  simp only[List.mem_cons,List.not_mem_nil,or_false]at hu
  rcases hu with h|h|h|h|h|h|h|h|h|h|h|h|h<;>subst h<;>first|rfl|exact N3|exact O3|exact P3|exact J1.1|exact J1.2.1|exact J1.2.2
 have R3:O (tA B2 l (Vw F r) [G r.name.text,Y J v1,Y J s1,Y J v3,Y J v4,vm,vu,y7,y8,y9,vp,E r.act.decline,E r.act.cheapest]):=by
  refine⟨vm,vu,vp,?_,?_,?_,?_⟩
  ·simp only[Vw];rw[D0.1,D0.2.1,D0.2.2,X3.o,Y1.o,c2.o,d2.o];simp
  ·simp only[Vw];rw[R];exact oS (oF (oB I3.o (by simpa using a0) _) hF (fun k e=>by rcases e with e|e<;>rw[e];exact a0;omega)) V1
  ·simp only[Vw];rw[R];exact oS (oF (oB H3.o (by simpa using a0) _) hF (fun k e=>by rcases e with e|e<;>rw[e];exact a0;omega)) V1
  exact oS R1.o (ak s.o.fr.size h0.o.b2)
 clear F2 G2 H2 D0 J1 N3 O3 P3;clear hP hX hO hF c1 fz
 have q2:l.cell? ⟨q,2,I⟩=Z (U la n lc):=by have e:=(h0.o.step S1.o v0.o).q2;rw[W1.o,HN.o]at e;exact e
 have p4:=v0.o.size;go_wp2_with fail;obtain⟨k0,k1,k2,k3,k4,k5,k6,k7,k8,k9,S3,T3,V3⟩:=T1.o;have O0:=b (fun(W:A)(m:∀o v,l.cell? ⟨X,o,I⟩=Z v->W.cell? ⟨X,o,I⟩=Z v)=>z0 (m _ _ k0) (z0 (m _ _ k1) (z0 (m _ _ k2) (z0 (m _ _ k3) (z0 (m _ _ k4) (z0 (m _ _ k5) (z0 (m _ _ k6) (z0 (m _ _ k7) (z0 (m _ _ k8) (z0 (m _ _ k9) (z0 (m _ _ S3) (z0 (m _ _ T3) (m _ _ V3)))))))))))));clear k0 k1 k2 k3 k4 k5 k6 k7 k8 k9 S3 T3 V3;refine wp_region_held_drew (S:=fun W=>W.cell? ⟨X,0,I⟩=Z (G r.name.text)/\W.cell? ⟨X,1,I⟩=Z (Y J v1)/\W.cell? ⟨X,2,I⟩=Z (Y J s1)/\W.cell? ⟨X,3,I⟩=Z (Y J v3)/\W.cell? ⟨X,4,I⟩=Z (Y J v4)/\W.cell? ⟨X,5,I⟩=Z vm/\W.cell? ⟨X,6,I⟩=Z vu/\W.cell? ⟨X,7,I⟩=Z y7/\W.cell? ⟨X,8,I⟩=Z y8/\W.cell? ⟨X,9,I⟩=Z y9/\W.cell? ⟨X,10,I⟩=Z vp/\W.cell? ⟨X,11,I⟩=Z (E r.act.decline)/\W.cell? ⟨X,12,I⟩=Z (E r.act.cheapest)) aC ?_ (fun hH=>?_)
 ·exact T1.o
 iterate 4 (refine Yy 0 hH ?_;try go_frame)
 refine ZJ 5 hH ?_
 try go_frame
 refine XA [4,6] ?_;refine Zb rfl (fun K hK=>?_) ?_
 ·rw[if_pos aD];go_simp;refine hK.out _ _ hH (fun _=>?_);clear hK K
  try go_frame
  refine WI 6 (fun K hK=>?_);go_simp;refine hK.out _ _ (O0.o _ fun o v hv=>(Kk l _).1.get hv) (fun hH=>?_);clear hK K
  try go_frame
  refine XA [7] ?_;refine Zb rfl (fun K hK=>?_) AllReadyH.nil;refine step_append_lies _ rfl (.tmp 189) (.tmp 191) 69 rfl B2 170 ii _ 13 152 underlying69 hi T2 V2 W2 rfl aB (U la n lc) n xs rfl ?h1a ⟨l.heap.size,0,I⟩ 1 1 [G r.name.text,Y J v1,Y J s1,Y J v3,Y J v4,vm,vu,y7,y8,y9,vp,E r.act.decline,E r.act.cheapest] rfl rfl ?h2a ?h3a aB ?h4a ?h5a ?h6a _ rfl ?_
  case h1a=>exact(A1.o.alloc _).drew
  case h2a=>exact z2 (aN l (.cells #[G r.name.text,Y J v1,Y J s1,Y J v3,Y J v4,vm,vu,y7,y8,y9,vp,E r.act.decline,E r.act.cheapest] 170))
  case h3a=>exact Q3.o
  case h4a=>unfold maxLen;omega
  case h5a=>omega
  case h6a=>simp;omega
  intro g2 b0 w1 w0 P _ _;obtain⟨e1,ef,x0⟩:=K0.o.rules (V:=U (Z ⟨g2,0,I⟩) (n+1) b0) R3.o P (by rw[HN.o];exact w0);have m:=M3.o _ aA w1 P;have C:=b x0
  have B1:=O0.o _ fun o v hv=>m o v ((Kk l _).1.get hv)
  have I2:=b m;clear m x0 P w0 q2;refine hK.out _ _ B1 (fun hH=>?_);clear hK K B1
  try go_frame
  iterate 2 (refine Yy 0 hH ?_;try go_frame)
  refine WI 10 (fun K hK=>?_);go_simp
  have C1:∀o v,w1.cell? ⟨X,o,I⟩=Z v->(w1.setCell ⟨q,2,I⟩ (U (Z ⟨g2,0,I⟩) (n+1) b0)).cell? ⟨X,o,I⟩=Z v:=fun o v hv=>by rw[cO _ _ _ _ (by first|(simp;done)|(simp;omega))];exact hv
  refine hK.out _ _ (O0.o _ fun o v hv=>C1 o v (I2.o o v ((Kk l _).1.get hv))) (fun hH=>?_);clear C1;clear hK K hH
  try go_frame
  refine wpAnyH_done aC ?_ _;go_wp2
  go_end0
  refine⟨rfl,⟨U (Z ⟨g2,0,I⟩) (n+1) b0,[G r.name.text,Y J v1,Y J s1,Y J v3,Y J v4,vm,vu,y7,y8,y9,vp,E r.act.decline,E r.act.cheapest],?_⟩,(v0.o.mono (fun k e=>aj h0.o.pB)).trans C.o.2⟩;have e:=C.o.1
  have J2:Xs F 1 l0 r.act.routes=XD F (g0.map Xh.name) f r:=by
   unfold XD;rw[P1.o,O1.o,M1.o,L1.o,K1.o,N2.o,M2.o,S2.o,d2.o,c2.o,<-Q2.o,Y1.o,R,HN.o,K2.o]
  rw[J2]at e;exact e
 refine Zb rfl (fun K hK=>?_) AllReadyH.nil;rw[if_pos aD];go_simp;refine hK.out _ _ (O0.o _ fun o v hv=>(Kk l _).1.get hv) (fun hH=>?_);clear hK K
 try go_frame
 refine WI 4 (fun K hK=>?_)
 have q4:=fun o=>(Kk l o).1.get q2
 go_simp;refine hK.out _ _ hH (fun _=>?_);clear hK K q4
 try go_frame
 refine XA [7] ?_;refine Zb rfl (fun K hK=>?_) AllReadyH.nil;refine step_append_lies _ rfl (.tmp 189) (.tmp 191) 69 rfl B2 170 ii _ 13 152 underlying69 hi T2 V2 W2 rfl aB (U la n lc) n xs rfl ?h1b ⟨l.heap.size,0,I⟩ 1 1 [G r.name.text,Y J v1,Y J s1,Y J v3,Y J v4,vm,vu,y7,y8,y9,vp,E r.act.decline,E r.act.cheapest] rfl rfl ?h2b ?h3b aB ?h4b ?h5b ?h6b _ rfl ?_
 case h1b=>exact(A1.o.alloc _).drew
 case h2b=>exact z2 (aN l (.cells #[G r.name.text,Y J v1,Y J s1,Y J v3,Y J v4,vm,vu,y7,y8,y9,vp,E r.act.decline,E r.act.cheapest] 170))
 case h3b=>exact Q3.o
 case h4b=>unfold maxLen;omega
 case h5b=>omega
 case h6b=>simp;omega
 intro g2 b0 w1 w0 P _ _;obtain⟨e1,ef,x0⟩:=K0.o.rules (V:=U (Z ⟨g2,0,I⟩) (n+1) b0) R3.o P (by rw[HN.o];exact w0);have m:=M3.o _ aA w1 P;have C:=b x0
 have B1:=O0.o _ fun o v hv=>m o v ((Kk l _).1.get hv)
 have I2:=b m;clear m x0 P w0 q2;refine hK.out _ _ B1 (fun hH=>?_);clear hK K B1
 try go_frame
 iterate 2 (refine Yy 0 hH ?_;try go_frame)
 refine WI 10 (fun K hK=>?_);go_simp
 have C1:∀o v,w1.cell? ⟨X,o,I⟩=Z v->(w1.setCell ⟨q,2,I⟩ (U (Z ⟨g2,0,I⟩) (n+1) b0)).cell? ⟨X,o,I⟩=Z v:=fun o v hv=>by rw[cO _ _ _ _ (by first|(simp;done)|(simp;omega))];exact hv
 refine hK.out _ _ (O0.o _ fun o v hv=>C1 o v (I2.o o v ((Kk l _).1.get hv))) (fun hH=>?_);clear C1;clear hK K hH
 try go_frame
 refine wpAnyH_done aC ?_ _;go_wp2
 go_end0
 refine⟨rfl,⟨U (Z ⟨g2,0,I⟩) (n+1) b0,[G r.name.text,Y J v1,Y J s1,Y J v3,Y J v4,vm,vu,y7,y8,y9,vp,E r.act.decline,E r.act.cheapest],?_⟩,(v0.o.mono (fun k e=>aj h0.o.pB)).trans C.o.2⟩;have e:=C.o.1
 have J2:Xs F 1 l0 r.act.routes=XD F (g0.map Xh.name) f r:=by
  unfold XD;rw[P1.o,O1.o,M1.o,L1.o,K1.o,N2.o,M2.o,S2.o,d2.o,c2.o,<-Q2.o,Y1.o,R,HN.o,K2.o]
 rw[J2]at e;exact e
def AJ (w B B2 p q g i f body cv vr vl f0 a xs r j5)(h:NU w B B2 p q g i f body cv vr vl f0 a xs)(hb:body.length<=3000)(h7:f0.length<=7)(h8:a.length<=8)(hr:Ij body i r j5):
  z3 N 82 #[M (Z ⟨p,0,I⟩)] w fun e w'=>e=T (.tuple #[])/\(∃w1 c,NU w' B B2 p q g j5 (XD f0 (a.map Xh.name) f r) body cv vr w1 f0 (a++[Vw f0 r]) (xs++c))/\Fr (fun j=>B<=j) w w':=by
 obtain⟨ii,hi,l2,n2,o2⟩:=info_parts Rz;have Y0:=Za h;have HA:=Za hr;have HQ:O (q≠p/\g≠p):=⟨h.ne,ak h.gB h.pB⟩
 have k:O (∀W,Fr (fun j=>j=p) w W->zL W q g body cv):=fun W s=>h.wt.fr s h.ne (ak h.gB h.pB)
 have p2:i+7<body.length:=(iG.1 hr.b2).1;obtain⟨la,lc,M0,I0⟩:=Dq h.lo;have Z0:=Za M0
 have a1:O (∀j y,a[j]?=Z y->∃g3,la=Z ⟨g3,0,I⟩/\g3≠p/\g3<w.heap.size/\w.cell? ⟨g3,j*13,I⟩=Z (G y.name)):=fun j y hj=>by
  obtain⟨g3,e,h1,h2,h3⟩:=I0 j _ (iG.1 hj).1 (CQ h.ru hj);exact⟨g3,e,aj h.pB,h2,h3⟩
 obtain⟨n,hn⟩:=ad a.length;have HN:=Za hn;obtain⟨b8,e1⟩:=ad (decide (8<=n))
 have Z1:decide ((8:Int)<=(n:Int))=b8:=by rw[<-e1];by_cases hq:8<=n<;>simp[hq]<;>omega
 have y1:=Za e1;have z1:n<=8:=az;have f1:=Za (bL w _ h.wp.c0);have c0:=h.wp.c0;have c1:=h.wp.c1;have fz:=h.wp.fz;have l0:=h.wp.move (i+1);rw[D]at l0;have N0:=Za l0
 have A1:(w.setCell ⟨p,1,I⟩ (Y J ((i:Int)+1))).cell? ⟨q,2,I⟩=Z (U la n lc):=by have e:=(h.step l0.1 l0.2).q2;rw[M0,hn]at e;exact e
 clear h hr I0 M0 hn l0;go_enter func82,ntmps82;go_wp2_with fail;refine(X1 _ p q g (i+1) f body cv r.name b8 6 _ N0.o.1 (k.o _ N0.o.2) HQ.o.1 HQ.o.2 HA.o.nm aB aD).mono ?_;rintro e w3 ⟨rfl,i1,j1⟩;have k1:=Za i1;have l1:=Za (N0.o.2.trans j1);clear i1 j1 c0 c1 fz A1;go_wp2_with fail;refine(XN w3 p q g (i+1) _ body cv r.name k1.o (k.o _ l1.o) HA.o.nm).mono ?_;rintro e w4 ⟨rfl,hf⟩;have B1:=Za (k1.o.fr hf);have O0:=Za (l1.o.trans hf.no);clear hf;go_wp2_with fail
 have C1:O (Tj w (w4.alloc (.cells #[G r.name.text,Y J 0,Y J 0,Y J 0,Y J 0,U I 0 0,U I 0 0,E false,Y J 0,Y J 0,U I 0 0,E false,E false] 170)) p q w4.heap.size (i+1) (ZZ f b8 6 r.name.line) (AI r.name.text)):=
  ⟨B1.o.fr ((Fr.refl (fun _=>False) w4).alloc _),sO w4 _,O0.o.alloc _,O0.o.size,ak f1.o O0.o.size⟩
 generalize w4.alloc _=w5 at*;generalize w4.heap.size=X at*
 go_loopg [4] n (fun m o wr=>∃j,j<=n/\m=n-j/\o=Y J (j:Nat)/\O (Tj w wr p q X (i+1) (Ys r.name.text r.name.line (ZZ f b8 6 r.name.line) ((a.map Xh.name).take j)) (AI r.name.text)))
 case atStart=>exact⟨0,z6 _,rfl,rfl,C1⟩
 obtain⟨j,hj,rfl,rfl,HR⟩:=hrel
 have q2:wr.cell? ⟨q,2,I⟩=Z (U la n lc):=by have e:=(Y0.o.step HR.o.wp HR.o.fr).q2;rw[Z0.o,HN.o]at e;exact e
 by_cases r2:j<n
 ·obtain⟨y,hy⟩:∃y,a[j]?=Z y:=⟨_,gE (aj HN.o)⟩
  obtain⟨g3,m1,D1,E1,r0⟩:=a1.o j y hy;rw[<-HR.o.fr.cell (p:=⟨g3,j*13,I⟩) E1 (by simpa using D1)]at r0
  have F1:O ((a.map Xh.name)[j]?=Z y.name):=by show _=_;rw[y3,hy];rfl
  have x0:wr.cell? ⟨X,0,I⟩=Z (G r.name.text):=HR.o.xb.cell 0 az;rw[m1]at q2;obtain⟨bx,G1⟩:=ad (y.name.toList==r.name.text.toList);have H1:=Za G1;have n1:=af j n
  have I1:O (∀W,F0 wr W->z3 N 131 #[M (Z ⟨p,0,I⟩),E bx,Y J 4] W (CP W p q (i+1) (ZZ (Ys r.name.text r.name.line (ZZ f b8 6 r.name.line) ((a.map Xh.name).take j)) bx 4 r.name.line))):=fun W s=>X1 W p q g (i+1) _ body cv r.name bx 4 4 (HR.o.wp.fr s) (k.o _ (HR.o.fr.trans s.no)) HQ.o.1 HQ.o.2 HA.o.nm aB rfl
  clear hy m1;go_wp2
  go_region_with (go_at_call 131;refine(I1.o _ (by exact Zo.drew)).mono ?_;rintro e w6 ⟨rfl,g0,m0⟩;have HZ:O (Tj w w6 p q X (i+1) (ZZ (Ys r.name.text r.name.line (ZZ f b8 6 r.name.line) ((a.map Xh.name).take j)) bx 4 r.name.line) (AI r.name.text)):=HR.o.call g0 ((Zo.drew).trans m0);clear g0 m0)
  all_goals
   clear q2 r0 x0;go_wp2;go_roundg (n-(j+1))
   case measure=>omega
   refine⟨j+1,az,rfl,aE,?_⟩
   show Tj _ _ _ _ _ _ _ _
   rw[Qw F1.o,H1.o];exact HZ.o
 have n1:=ai j n
 have h0:O (Tj w wr p q X (i+1) (Ys r.name.text r.name.line (ZZ f b8 6 r.name.line) (a.map Xh.name)) (AI r.name.text)):=by
  have e:=HR.o;rw[C (by rw[R];have:=HN.o;omega)]at e;exact e
 obtain⟨fn,P0⟩:=ae (Ys r.name.text r.name.line (ZZ f b8 6 r.name.line) (a.map Xh.name));rw[<-P0]at h0;have J1:=Za P0;obtain⟨x,hx⟩:=ae (i+1);rw[<-hx]at h0;have n0:=Za hx;have t2:x+7<=3000:=az;have c1:=h0.o.wp.c1;have fz:=h0.o.wp.fz;clear hx P0 HR n1 hj
 have B0:O (Tj w (wr.setCell ⟨p,1,I⟩ (Y J ((x:Int)+1))) p q X (x+1) fn (AI r.name.text)):=by have e:=h0.o.move (x+1);rw[D]at e;exact e
 have K1:O (body[x+1]?=Z r.rank):=by have e:=HA.o.rk;rw[n0.o];exact e
 go_wp2_with fail;refine(LC _ p q g (x+1) fn body cv r.rank 1000 _ _ B0.o.wp (k.o _ B0.o.fr) HQ.o.1 HQ.o.2 K1.o HA.o.dg.1 az aD aD).mono ?_;rintro e w6 ⟨rfl,g0,m0⟩;obtain⟨f6,Q0⟩:=ae (ZZ fn (decide (1000<Zd r.rank)) 5 r.rank.line);obtain⟨y,hy⟩:=ae (x+1+1);rw[<-Q0,<-hy]at g0;have L1:=Za Q0;have HY:=Za hy;have v2:y+5<=3000:=aj n0.o;have C0:=Za (B0.o.call g0 m0);obtain⟨v1,R0⟩:=ae (Zd r.rank);rw[<-R0];have M1:=Za R0;obtain⟨i0,o0⟩:=ae (VA (AI r.name.text) 1 (Y J v1));have o1:=Za o0
 have D0:O (Tj w (w6.setCell ⟨X,1,I⟩ (Y J v1)) p q X y f6 i0):=by rw[o0];exact C0.o.set az _
 have E0:O (Tj w ((w6.setCell ⟨X,1,I⟩ (Y J v1)).setCell ⟨p,1,I⟩ (Y J ((y:Int)+2))) p q X (y+2) f6 i0):=by have e:=D0.o.move (y+2);rw[D]at e;exact e
 have x1:=C0.o.xb.cell 1 az;have xf:=C0.o.xb.fz;clear c1 fz;have c1:=D0.o.wp.c1;have fz:=D0.o.wp.fz;clear g0 m0 Q0 hy R0 o0 h0 B0;go_wp2_with fail
 have p0:O (body[y+2]?=Z r.bin.1):=by have e:=HA.o.b1;rw[HY.o,n0.o];exact e
 refine(XN _ p q g (y+2) f6 body cv r.bin.1 E0.o.wp (k.o _ E0.o.fr) p0.o).mono ?_;rintro e w9 ⟨rfl,hf⟩;have G0:=Za (E0.o.look hf);clear hf c1 fz x1 xf E0 D0 C0;obtain⟨q0,s0⟩:=ae (VA i0 2 (Y J r.bin.1.text.size));have t0:=Za s0
 have u:O (Tj w (w9.setCell ⟨X,2,I⟩ (Y J r.bin.1.text.size)) p q X (y+2) f6 q0):=by rw[s0];exact G0.o.set az _
 have x2:=G0.o.xb.cell 2 az;have xf:=G0.o.xb.fz;obtain⟨t,H0⟩:=ae r.bin.1.text.size;have N1:=Za H0;rw[<-H0]at u t0;have a2:=H0.symm;have c2:t<=9:=aj HA.o.dg.2.1.1;obtain⟨b6,S0⟩:=ad (decide (6<t))
 have p1:decide ((6:Int)<(t:Int))=b6:=by rw[<-S0];by_cases hq:6<t<;>simp[hq]<;>omega
 have O1:=Za S0;clear s0 H0;go_wp2_with fail;refine(X1 _ p q g (y+2) f6 body cv r.bin.1 b6 5 _ u.o.wp (k.o _ u.o.fr) HQ.o.1 HQ.o.2 p0.o aB aD).mono ?_;rintro e w2 ⟨rfl,v0,J0⟩;obtain⟨d,w0⟩:=ae (ZZ f6 b6 5 r.bin.1.line);rw[<-w0]at v0;have q1:=Za w0;have a0:=Za (u.o.call v0 J0);clear v0 J0 w0 x2 xf S0 p1 u G0;go_wp2_with fail;refine(XN _ p q g (y+2) d body cv r.bin.1 a0.o.wp (k.o _ a0.o.fr) p0.o).mono ?_;rintro e T0 ⟨rfl,hf⟩;have v:=Za (a0.o.look hf);clear hf a0;go_wp2_with fail;refine(Ti r.bin.1.text T0 HA.o.dg.2.1).mono ?_;rintro e y2 ⟨rfl,he⟩;replace he:=he.symm;subst he;obtain⟨F,V0⟩:=ae (Zd r.bin.1);rw[show ZA r.bin.1.text.data.toList=F from V0.symm];have P1:=Za V0;obtain⟨j0,y0⟩:=ae (VA q0 3 (Y J F));have K0:=Za y0;obtain⟨z,hz⟩:=ae (y+2);rw[<-hz]at v;have HZ:=Za hz;have Q1:z+3<=3000:=az
 have b0:O (Tj w (T0.setCell ⟨X,3,I⟩ (Y J F)) p q X z d j0):=by rw[y0];exact v.o.set az _
 have d0:O (Tj w ((T0.setCell ⟨X,3,I⟩ (Y J F)).setCell ⟨p,1,I⟩ (Y J ((z:Int)+2))) p q X (z+2) d j0):=by have e:=b0.o.move (z+2);rw[D]at e;exact e
 have x3:=v.o.xb.cell 3 az;have xf:=v.o.xb.fz;have c1:=b0.o.wp.c1;have fz:=b0.o.wp.fz;clear V0 y0 hz;go_wp2_with fail
 have z0:O (body[z+2]?=Z r.bin.2):=by have e:=HA.o.b2;rw[HZ.o,HY.o,n0.o];exact e
 refine(XN _ p q g (z+2) d body cv r.bin.2 d0.o.wp (k.o _ d0.o.fr) z0.o).mono ?_;rintro e W0 ⟨rfl,hf⟩;have e0:=Za (d0.o.look hf);clear hf c1 fz x3 xf d0 b0 v;go_wp2_with fail;refine(Ti r.bin.2.text W0 HA.o.dg.2.2.1).mono ?_;rintro e z2 ⟨rfl,he⟩;replace he:=he.symm;subst he;obtain⟨H,X0⟩:=ae (Zd r.bin.2);rw[show ZA r.bin.2.text.data.toList=H from X0.symm];have R1:=Za X0;obtain⟨P,A0⟩:=ae (VA j0 4 (Y J H));have L0:=Za A0
 have l:O (Tj w (W0.setCell ⟨X,4,I⟩ (Y J H)) p q X (z+2) d P):=by rw[A0];exact e0.o.set az _
 have x4:=e0.o.xb.cell 4 az;have xf:=e0.o.xb.fz;clear X0 A0 e0;go_wp2_with fail;generalize W0.setCell ⟨X,4,I⟩ (Y J H)=k0 at*;clear x4 xf
 have r1:O (∀W i' f',Tj w W p q X i' f' P->W.cell? ⟨X,2,I⟩=Z (Y J t)/\W.cell? ⟨X,3,I⟩=Z (Y J F)/\W.cell? ⟨X,4,I⟩=Z (Y J H)):=fun W i' f' s=>by
  have e2:=s.xb.cell 2 az;have e3:=s.xb.cell 3 az;have e4:=s.xb.cell 4 az;rw[L0.o,K0.o,t0.o]at e2 e3 e4;exact⟨e2,e3,e4⟩
 have HC:O (∀W,F0 k0 W->W.cell? ⟨X,2,I⟩=Z (Y J t)/\W.cell? ⟨X,3,I⟩=Z (Y J F)/\W.cell? ⟨X,4,I⟩=Z (Y J H)):=fun W s=>by
  exact r1.o W _ _ (l.o.look s)
 have t1:O (∀W,F0 k0 W->z3 N 80 #[M (Z ⟨p,0,I⟩)] W fun e w'=>e=T (G r.bin.2.text)/\F0 W w'):=fun W s=>XN W p q g (z+2) d body cv r.bin.2 (l.o.look s).wp (k.o _ (l.o.look s).fr) z0.o
 have S1:O (∀b W,F0 k0 W->z3 N 131 #[M (Z ⟨p,0,I⟩),E b,Y J 5] W fun e w'=>e=T (.tuple #[])/\Tj w w' p q X (z+2) (ZZ d b 5 r.bin.2.line) P/\w'.cell? ⟨X,2,I⟩=Z (Y J t)/\w'.cell? ⟨X,3,I⟩=Z (Y J F)/\w'.cell? ⟨X,4,I⟩=Z (Y J H)):=fun b W s=>(X1 W p q g (z+2) d body cv r.bin.2 b 5 5 (l.o.look s).wp (k.o _ (l.o.look s).fr) HQ.o.1 HQ.o.2 z0.o aB rfl).mono fun e w' h=>⟨h.1,(l.o.look s).call h.2.1 h.2.2,r1.o _ _ _ ((l.o.look s).call h.2.1 h.2.2)⟩
 obtain⟨A,T1⟩:=ad r.bin.2.text.size;have V1:=Za T1.symm;have f2:A<=9:=aj HA.o.dg.2.2.1.1;obtain⟨k2,k3,k4⟩:=HC.o k0 Zo
 go_cut [] (fun wx=>O (Tj w wx p q X (z+2) (ZZ d (decide (6<A)||decide (A≠t)||decide (H<F)) 5 r.bin.2.line) P))
 case first=>
  clear k2 k3 k4;obtain⟨b,HW⟩:∃b,O ((decide (6<A)||decide (A≠t)||decide (H<F))=b):=⟨_,rfl⟩
  have W1:(decide ((6:Int)<(A:Int))=true/\b=true)\/decide ((6:Int)<(A:Int))=false/\(((A:Int) !=(t:Int))=true/\((A:Int)==(t:Int))=false/\b=true\/((A:Int) !=(t:Int))=false/\((A:Int)==(t:Int))=true/\decide ((H:Int)<(F:Int))=b):=by
   rw[<-HW.o];by_cases g1:6<A
   ·exact L ⟨aF,by simp[g1]⟩
   refine z7 ⟨aF,?_⟩;by_cases g2:A=t
   ·exact z7 ⟨by simp[g2],by simp[g2],by rw[Bool.eq_iff_iff];simp[g2];omega⟩
   exact L ⟨aF,aF,by simp[g2]⟩
  rcases W1 with⟨d1,rfl⟩|⟨d1,⟨d2,Y1,rfl⟩|⟨d2,Y1,d3⟩⟩
  all_goals
   refine wp_region_held_drew (S:=fun W=>W.cell? ⟨X,2,I⟩=Z (Y J t)/\W.cell? ⟨X,3,I⟩=Z (Y J F)/\W.cell? ⟨X,4,I⟩=Z (Y J H)) aC (HC.o _ Zo.drew) (fun hH=>?_);have Q:O (F0 k0 k0.drew):=Zo.drew
   iterate 2 (refine Yy 0 hH ?_;try go_frame)
   refine WI 2 (fun K hK=>?_);go_simp;refine CR t1.o Q.o ?_;intro i2 V;refine hK.out _ _ (HC.o _ V) (fun hH=>?_);clear hK K Q;have Q:=Za V;clear V
   try go_frame
  case' inl=>iterate 17 ((first|refine tN 0 hH ?_|refine Yy 0 hH ?_);try go_frame)
  case' inr.inl|inr.inr=>
   iterate 4 (refine Yy 0 hH ?_;try go_frame)
   iterate 2 (refine Yy 2 hH ?_;try go_frame)
   refine WI 7 (fun K hK=>?_);go_simp;refine CR t1.o Q.o ?_;intro j2 V;refine hK.out _ _ (HC.o _ V) (fun hH=>?_);clear hK K Q;have Q:=Za V;clear V
   try go_frame
   iterate 10 ((first|refine tN 0 hH ?_|refine Yy 0 hH ?_);try go_frame)
  all_goals
   refine WI 20 (fun K hK=>?_);go_simp;refine(S1.o _ _ Q.o).mono ?_;rintro e A2 ⟨rfl,hL,m2,m3,m4⟩;refine hK.out _ _ ⟨m2,m3,m4⟩ (fun hH=>?_);have HL:=Za hL;clear hK K hL m2 m3 m4
   try go_frame
   refine wpAnyH_done aC ?_ _;go_wp2;go_meet;rw[HW.o]
   first|exact HL|(rw[show b=decide (H<F)from by rw[<-d3];simp];exact HL)
 clear k2 k3 k4
 apply_assumption
 exact IK w B B2 p q g i f body cv vr vl f0 a xs r j5 hb h7 Y0 HA HQ k la lc Z0 n HN b8 y1 z1 f1 X fn J1 x n0 f6 y L1 HY v1 M1 i0 o1 q0 t t0 N1 b6 O1 d q1 F P1 j0 K0 z HZ Q1 H R1 P L0 A V1 wc hcut _ _ _ _ _ _ _ _ _ _ _ _ _ _ _ _ _ _ _ _ _ _ _ _ _ _ _ _ _ _ _ _ _ _ _ _ _ _ _ _ _ _ _ _ _ _ _ _ _ _ _ _ _ _ _ _ _ _ _ _ _ _ _ _ _ _ _ _ _ _ _ _ _ _ _ _ _ _ _ _ _ _ _ _ _ _ _ _ _ _ _ _ _ _ _ _ _ _ _ _ _ _ _ _ _ _ _ _ _ _ _ _ _ _ _ _ _ _ _ _ _ _ _ _ _ _ _ _ _ _ _ _ _ _ _ _ _ _ _ _ _ _ _ _ _ _ _ _ _ _ _ _ _ _ _ _ _ _ _ _ _ _ _ _ _ _ _ _ _ _ _ _ _ _ _ _ _ _ _ _ _ _ _ _ _ _ _ _ _ _ _ _
