import Derived.Test.YtccikgogjfbpeaaGreatDoorAk
import Derived.Test.YtccikgogjfbpeaaGreatDoorAm
open Option renaming none->I,some->J
open Go.IntKind renaming i64->Y,i64->y5
open Go.Value renaming int->Z,slice->U,bool->E,string->G,pointer->M,oneCell'->z9
open Go.RowKit renaming Hid->O
open Int renaming natCast_add->D
open List renaming length_map->N,take_of_length_le->z2,take_add_one->z3,map_append->y4
open Go renaming World->R,Value->z0,Calls->z4
open Go.Proofs.Tryz renaming prog->T
open Or renaming inl->L,inr->y0
open Go.Ending renaming returned->A
open And renaming intro->C
open Go.World renaming news_of_block->z1,ownsRow->z6,cell?_setCell_same->z7
open Nat renaming le_trans->z5,zero_le->z8,eq_zero_or_pos->y1,zero_add->y2,succ_le_of_lt->y3
namespace Go.Proofs.YtccikgogjfbpeaaGreatDoor
set_option maxRecDepth 30000
set_option maxHeartbeats 8000000
open Go.RowKit
def vZ (f:Fa):Nat:=match f with|none=>0|some x=>x.1
def uJ (f:Fa):Nat:=match f with|none=>0|some x=>x.2
def tL (f:Fa):Prop:=∀x,f=J x->x.1≠0
structure Sw (w:R)(p q i:Nat)(f:Fa):Prop where
 c0:w.cell? ⟨p,0,I⟩=J (M (J ⟨q,0,I⟩))
 c1:w.cell? ⟨p,1,I⟩=J (Z Y i)
 c2:w.cell? ⟨p,2,I⟩=J (Z Y (vZ f))
 c3:w.cell? ⟨p,3,I⟩=J (Z Y (uJ f))
 fz:∀o,w.frozen? ⟨p,o,I⟩=false
 ok:tL f
structure BV (w:R)(q g:Nat)(body:List Tk)(cv:Nat):Prop where
 c0:w.cell? ⟨q,0,I⟩=J (U (J ⟨g,0,I⟩) body.length cv)
 lt:g<w.heap.size
 row:xV w g body
theorem Sw.fr {w w' p q i f S}(h:Sw w p q i f)(a:Fr S w w')(b:¬S p:=by simp):Sw w' p q i f:=by
 have c:=bL w _ h.c0;exact⟨(a.cell (p:=⟨p,0,I⟩) c b).trans h.c0,(a.cell (p:=⟨p,1,I⟩) c b).trans h.c1,(a.cell (p:=⟨p,2,I⟩) c b).trans h.c2,(a.cell (p:=⟨p,3,I⟩) c b).trans h.c3,fun o=>(a.frozen (p:=⟨p,o,I⟩) c b).trans (h.fz o),h.ok⟩
theorem BV.fr {w w' q g body b S}(h:BV w q g body b)(a:Fr S w w')(c:¬S q:=by simp)(d:¬S g:=by simp):BV w' q g body b:=by
 have e:=bL w _ h.c0;exact⟨(a.cell (p:=⟨q,0,I⟩) e c).trans h.c0,nL h.lt a.size,h.row.fr a h.lt d⟩
theorem Sw.move {w p q i f}(h:Sw w p q i f)(k:Nat):Sw (w.setCell ⟨p,1,I⟩ (Z Y k)) p q k f/\Fr (fun j=>j=p) w (w.setCell ⟨p,1,I⟩ (Z Y k)):=by
 refine⟨⟨?_,?_,?_,?_,fun o=>by simp[h.fz o],h.ok⟩,(Fr.refl (fun j=>j=p) w).setCell (L rfl) _⟩
 ·rw[cO _ _ _ _ (by simp)];exact h.c0
 ·exact cS _ _ _ h.c1
 ·rw[cO _ _ _ _ (by simp)];exact h.c2
 rw[cO _ _ _ _ (by simp)];exact h.c3
theorem Sw.note {w p q i}(h:Sw w p q i I)(k l:Nat)(a:k≠0):
  Sw ((w.setCell ⟨p,2,I⟩ (Z Y k)).setCell ⟨p,3,I⟩ (Z Y l)) p q i (J (k,l))/\Fr (fun j=>j=p) w ((w.setCell ⟨p,2,I⟩ (Z Y k)).setCell ⟨p,3,I⟩ (Z Y l)):=by
 refine⟨⟨?_,?_,?_,?_,fun o=>by simp[h.fz o],fun x e=>by injection e with e;subst e;exact a⟩,((Fr.refl (fun j=>j=p) w).setCell (p:=⟨p,2,I⟩) (L rfl) _).setCell (p:=⟨p,3,I⟩) (L rfl) _⟩
 ·rw[cO _ _ _ _ (by simp),cO _ _ _ _ (by simp)];exact h.c0
 ·rw[cO _ _ _ _ (by simp),cO _ _ _ _ (by simp)];exact h.c1
 ·rw[cO _ _ _ _ (by simp)];exact cS _ _ _ h.c2
 exact cS _ _ _ (by rw[cO _ _ _ _ (by simp)];exact h.c3)
theorem XC (w p q g i f body b t)(c:Sw w p q i f)(d:BV w q g body b)(a:body[i]?=J t):
  z4 T 80 #[M (J ⟨p,0,I⟩)] w fun e w'=>e=A (G t.text)/\F0 w w':=by
 obtain⟨l,c1,m,n,o,r⟩:=c;obtain⟨s,u,h⟩:=d;obtain⟨v,x,y⟩:=h i t a;have j:i<body.length:=(iG.1 a).1
 have k:(i:Int)<(body.length:Int):=by omega
 go_enter Tryz.func80,Tryz.ntmps80;go_wp2_with fail
 go_big_quiet ((fail))
 go_wp2_with fail
 go_big_quiet ((fail))
 go_wp2;go_ret;exact⟨rfl,⟨rfl,rfl,rfl,Nat.le_refl _,fun _ _ _=>rfl⟩⟩
def Dd (w:R)(p q i:Nat)(f:Fa)(e:Ending)(w':R):Prop:=e=A (.tuple #[])/\Sw w' p q i f/\Fr (fun j=>j=p) w w'
theorem XM (w p q g i f body m t a)(k:Nat)(r:Int)(b:Sw w p q i f)(C:BV w q g body m)(D:q≠p)(F:g≠p)(s:body[i]?=J t)(G:k≠0)(d:r=k):
  z4 T 131 #[M (J ⟨p,0,I⟩),E a,Z Y r] w (Dd w p q i (ZW f a k t.line)):=by
 subst d
 cases a with
 |false=>
  have e:O (Dd w p q i (ZW f false k t.line) (A (.tuple #[])) w):=by
   refine⟨rfl,?_,Zt⟩
   cases f<;>exact b
  go_enter Tryz.func131,Tryz.ntmps131;go_wp2
  go_end0
  exact e.o
 |true=>
  cases f with
  |some x=>
   have e:O (Dd w p q i (J x) (A (.tuple #[])) w):=⟨rfl,b,Zt⟩;obtain⟨u,c1,v,y,z,B⟩:=b
   have S:((vZ (J x):Int)==0)=false:=by
    have:=B x rfl;simp[vZ];omega
   generalize vZ (J x)=n at*;go_enter Tryz.func131,Tryz.ntmps131;go_wp2
   go_end0
   exact e.o
  |none=>
   have H:=Za b;obtain⟨u,c1,v,y,z,B⟩:=b;obtain⟨K,V,L⟩:=C;obtain⟨W,X,N⟩:=L i t s;have P:i<body.length:=(iG.1 s).1
   have Q:(i:Int)<(body.length:Int):=by omega
   have e0:(w.setCell ⟨p,2,I⟩ (Z Y k)).cell? ⟨p,0,I⟩=J (M (J ⟨q,0,I⟩)):=by rw[cO _ _ _ _ (by simp)];exact u
   have e1:(w.setCell ⟨p,2,I⟩ (Z Y k)).cell? ⟨p,1,I⟩=J (Z Y i):=by rw[cO _ _ _ _ (by simp)];exact c1
   have e3:(w.setCell ⟨p,2,I⟩ (Z Y k)).cell? ⟨p,3,I⟩=J (Z Y (uJ I)):=by rw[cO _ _ _ _ (by simp)];exact y
   have eq:(w.setCell ⟨p,2,I⟩ (Z Y k)).cell? ⟨q,0,I⟩=J (U (J ⟨g,0,I⟩) body.length m):=by rw[cO _ _ _ _ (fun h=>D (by injection h with c;first|exact c|exact c.symm))];exact K
   have er:(w.setCell ⟨p,2,I⟩ (Z Y k)).cell? ⟨g,i*3+2,I⟩=J (Z Y t.line):=by rw[cO _ _ _ _ (fun h=>F (by injection h with c;first|exact c|exact c.symm))];exact N
   have ef:∀o,(w.setCell ⟨p,2,I⟩ (Z Y k)).frozen? ⟨p,o,I⟩=false:=fun o=>by simp[z o]
   have R:=v;go_enter Tryz.func131,Tryz.ntmps131;go_wp2_with fail;generalize j:w.setCell ⟨p,2,I⟩ (Z Y k)=w1 at*
   go_region
   go_end0
   have l:=H.o.note k t.line G;rw[j]at l;exact⟨rfl,l.1.fr ((Fr.refl (fun _=>False) _).drew),l.2.drew⟩
def vo (w:R)(p q i v:Nat)(f:Fa)(e:Ending)(w':R):Prop:=e=A (Z Y v)/\Sw w' p q i f/\Fr (fun j=>j=p) w w'
theorem Md (w p q g i f body h t)(a:Nat)(u v:Int)(C:Sw w p q i f)(E:BV w q g body h)(F:q≠p)(G:g≠p)(H:body[i]?=J t)(K:Dg t.text)(hi:i<=4000)(L:u=0)(N:v=a):
  z4 T 132 #[M (J ⟨p,0,I⟩),Z Y u,Z Y v] w (vo w p q (i+1) (Zd t) (ZW f (decide (a<Zd t)) 5 t.line)):=by
 subst L N;have x:=Za C;have y:=Za E;have z:=Za H;have P:=Za K;have A:O (q≠p/\g≠p):=⟨F,G⟩
 cases Q:decide (a<Zd t)
 all_goals
  have R:¬((Zd t:Nat):Int)<0:=by omega
  go_enter Tryz.func132,Tryz.ntmps132;go_wp2_with fail;refine(XC w p q g i f body h t x.o y.o z.o).mono ?_;rintro e B ⟨rfl,S⟩;have b:=Za S;go_wp2_with fail;refine(UX t.text B P.o).mono ?_;rintro e w2 ⟨rfl,j⟩;replace j:=j.symm;subst j;have d:Yu t.text.data.toList=Zd t:=rfl;rw[d];simp only[decide_eq_true_eq,decide_eq_false_iff_not]at Q
  have U:(a:Int)<(Zd t:Int)↔a<Zd t:=by omega
  generalize Zd t=n at*
  first
  |(have k:(a:Int)<(n:Int):=by omega)
  |(have k:¬(a:Int)<(n:Int):=by omega)
  go_wp2_with fail;refine(XM B p q g i f body h t _ 5 _ (x.o.fr b.o) (y.o.fr b.o (by simp)) A.o.1 A.o.2 z.o (by decide) (by rfl)).mono ?_;rintro e V ⟨rfl,c,l⟩;have m:=Za c;have r:=Za ((b.o.mono).trans l);have c1:=c.c1;have W:=c.fz;go_wp2;go_ret;have s:=m.o.move (i+1);rw[D]at s;exact⟨rfl,s.1,r.o.trans s.2⟩
def uh (w:R)(p q i:Nat)(ns:List Nat)(f:Fa)(e:Ending)(w':R):Prop:=
 (∃v,e=A v/\w'.ownsRow w.heap.size 3 1 v ns.length (Zg ns))/\Sw w' p q i f/\Fr (fun j=>j=p) w w'
theorem wh {j a b}(h:a=((j+1:Nat):Int))(d:decide (4<j+1)=b):decide ((4:Int)<a)=b:=by
 rw[h,<-d];by_cases c:4<j+1
 ·simp[c];omega
 simp[c];omega
theorem I3 (w p q g i f body cv l)(a:Nat)(i2:Int)(hp:Sw w p q i f)(hT:BV w q g body cv)(hq:q≠p)(hg:g≠p)(hb:body.length<=3000)(hl:wW body i l)(hd:∀t,t∈l->Dg t.text)(e2:i2=a):
  z4 T 134 #[M (J ⟨p,0,I⟩),Z Y i2] w (uh w p q (i+2*l.length) (l.map Zd) (Yd a 1 f l)):=by
 subst e2;obtain⟨ii,hi,p0,q0,r0⟩:=info_parts Y2;have HP:=Za hp;have HT:=Za hT;have HL:=Za hl;have HD:=Za hd;have v:O (q≠p/\g≠p):=⟨hq,hg⟩
 have E0:i+2*l.length<body.length:=by
  obtain⟨t,H,_⟩:=hl.en;exact(iG.1 H).1
 have F0:=hl.ps;clear hp hT hq hg hl hd;go_enter Tryz.func134,Tryz.ntmps134;go_wp2_with fail
 go_loopg [5,6] l.length (fun m o r wr=>∃j F s,j<=l.length/\m=l.length-j/\r=Z Y ((j+1:Nat):Int)/\O (s=(l.take j).map Zd)/\O (wr.ownsRow w.heap.size 3 1 o j (Zg s))/\O (Sw wr p q (i+2*j) F)/\O (Fr (fun j=>j=p) w wr)/\O (Yd a 1 f l=Yd a (j+1) F (l.drop j)))
 case atStart=>exact⟨0,f,[],z8 _,rfl,rfl,rfl,oZ _ _ _ _,HP,Zt,rfl⟩
 obtain⟨j,F,s,hj,rfl,rfl,b0,HO,z,HF,HR⟩:=hrel;have A:=Za (HT.o.fr HF.o v.o.1 v.o.2);have c1:=z.o.c1;have fz:=z.o.fz;by_cases d0:j<l.length
 ·obtain⟨t,H⟩:∃t,l[j]?=J t:=⟨_,gE d0⟩
  have K:O (body[i+2*j+1]?=J t):=by
   have:=HL.o.it j t H;rw[show i+1+2*j=i+2*j+1 from by omega]at this;exact this
  have s0:=Za (HD.o t (mG H));have t0:=Za (O0 H)
  have e0:O ((l.take (j+1)).map Zd=(l.take j).map Zd++[Zd t]):=by
   show _=_
   rw[z3,H,y4];rfl
  clear H;obtain⟨x,B⟩:∃x,x=i+2*j:=⟨_,rfl⟩;obtain⟨r,c⟩:∃r:Int,r=((j+1:Nat):Int):=⟨_,rfl⟩;rw[<-c];rw[<-B]at c1 z K
  have G0:x+2<=3000:=by omega
  have P:=Za B;have f0:=Za c;have H0:y5.wrap (r+1)=r+1:=IntWalk.i64_in _ (by omega)
  have Q:O (∀k,k=p->k<w.heap.size):=fun k e=>by rw[e];exact bL w _ HP.o.c0
  obtain⟨b4,g0⟩:∃b,decide (4<j+1)=b:=⟨_,rfl⟩;have h0:=Za g0;have I0:=wh f0.o h0.o;clear g0;rcases y1 j with R|R
  case' inl=>
   have S:(r==1)=true:=by simp;omega
   have h:=Za z;have i0:=Za A;have C:=Za HF;have E:=HO;clear R B c;go_wp2_with fail
  case' inr=>
   have S:(r==1)=false:=by simp;omega
   obtain⟨tc,U,v0⟩:=HL.o.cm j (by omega) d0;rw[<-B]at U;have HC:=Za U;clear U R B c;clear c1 fz;go_wp2_with fail;refine(XC wr p q g x F body cv tc z.o A.o HC.o).mono ?_;rintro e w1 ⟨rfl,y⟩;have C:=Za (HF.o.trans (y.mono));have h:=Za (z.o.fr y);have i0:=Za (A.o.fr y (by simp));have E:=Za (oF HO.o y);clear y;have c1:=h.o.c1;have fz:=h.o.fz;go_wp2_with fail
  all_goals
   have hm:=h.o.move (x+1);rw[D]at hm;refine(XM _ p q g (x+1) F body cv t b4 6 _ hm.1 (i0.o.fr hm.2 v.o.1 v.o.2) v.o.1 v.o.2 K.o (by decide) (by rfl)).mono ?_;rintro e w3 ⟨rfl,j0,V⟩;have w0:=Za j0;have k0:=Za ((C.o.trans hm.2).trans V);have x0:=Za (oF E.o (hm.2.trans V) Q.o);clear j0 V hm;go_wp2_with fail;refine(Md w3 p q g (x+1) _ body cv t a _ _ w0.o (HT.o.fr k0.o v.o.1 v.o.2) v.o.1 v.o.2 K.o s0.o (by omega) (by rfl) (by rfl)).mono ?_;rintro e w4 ⟨rfl,l0,W⟩;have m0:=Za l0;have n0:=Za (k0.o.trans W);have J0:=n0.o.size;have o0:=Za (oF x0.o W Q.o);clear l0 W;obtain⟨n,X⟩:∃n,n=Zd t:=⟨_,rfl⟩;rw[<-X]at m0 e0 ⊢;have z0:=Za X.symm;clear X
   go_wp2_with (at_builtin;refine wpList_append_lies _ rfl (.tmp 31) (.tmp 33) 25 rfl w.heap.size 3 ii _ 1 8 Tryz.underlying25 hi p0 q0 r0 rfl (by decide) u5 j (Zg s) rfl ?h1 ⟨w4.heap.size,0,I⟩ 1 1 [Z Y n] rfl rfl ?h2 ?h3 (by decide) ?h4 ?h5 ?h6 _ rfl ?_)
   case h1=>exact o0.o.alloc _
   case h2=>exact z1 (aN w4 _)
   case h3=>simp[z9]
   case h4=>unfold maxLen;omega
   case h5=>omega
   case h6=>first|omega|(simp;omega)
   intro g2 D0 w5 G d _ _
   have u:∀k,u5.ownBlock=J k->w.heap.size<=k:=fun k hk=>(o0.o.lt k hk).1
   have A0:=Za G;have B0:=Za ((n0.o.alloc _).grown d (fun k hk=>y0 (u k hk)));have C0:=Za (m0.o.fr (((Fr.refl (fun k=>u5.ownBlock=J k) w4).alloc _).grown d (fun k hk=>L hk)) (fun hk=>by have:=u p hk;have:=Q.o p rfl;omega));clear d G u;go_wp2;go_roundg (l.length-(j+1))
   case measure=>omega
   refine⟨j+1,ZW (ZW F b4 6 t.line) (decide (a<n)) 5 t.line,s++[n],by omega,rfl,by rw[f0.o];go_num,?_,?_,?_,B0,?_⟩
   ·show _=_
    rw[b0.o,e0.o]
   ·show z6 _ _ _ _ _ _ _
    rw[XU];exact A0.o
   ·show Sw _ _ _ _ _
    have e:i+2*(j+1)=x+1+1:=by have:=P.o;omega
    rw[e];exact C0.o
   show _=_
   rw[HR.o,t0.o];simp only[Yd];rw[h0.o,z0.o]
 obtain⟨te,a0,v0⟩:=HL.o.en
 have ej:j=l.length:=by omega
 rw[<-ej]at a0
 have S:((((j+1:Nat):Int))==1)=false:=by simp;omega
 have HC:=Za a0;clear a0;obtain⟨x,B⟩:∃x,x=i+2*j:=⟨_,rfl⟩;obtain⟨r,c⟩:∃r:Int,r=((j+1:Nat):Int):=⟨_,rfl⟩;rw[<-c]at S ⊢;rw[<-B]at HC z;have P:=Za B;clear c1 fz B c;go_wp2_with fail;refine(XC wr p q g x F body cv te z.o A.o HC.o).mono ?_;rintro e w1 ⟨rfl,y⟩;have C:=Za (HF.o.trans (y.mono));have h:=Za (z.o.fr y);have E:=Za (oF HO.o y);clear y;go_wp2;go_ret;refine⟨⟨_,rfl,?_⟩,?_,C.o⟩
 ·have e:=E.o
  rw[b0.o,z2 (by omega)]at e;rw[N,<-ej];exact e
 have e:=h.o
 have e2:F=Yd a 1 f l:=by rw[HR.o,dL (by omega)];rfl
 rw[<-e2,<-ej,<-P.o];exact e
def UH (ns:List Int):List z0:=ns.map fun n:Int=>Value.int Y n
def wk (base:Nat)(w:R)(r:Xa)(d:List z0):Prop:=
 ∃a b c,d=[G r.name,Z Y r.rank,Z Y r.width,Z Y r.lo,Z Y r.hi,a,b,E r.am.isSome,Z Y (r.am.getD (0,0)).1,Z Y (r.am.getD (0,0)).2,c,E r.decline,E r.cheapest]/\
  w.ownsRow base 3 1 a r.mcc.length (Zg r.mcc)/\w.ownsRow base 3 1 b r.cur.length (Zg r.cur)/\w.ownsRow base 3 1 c r.routes.length (UH r.routes)
def TB (base:Nat)(w:R):List Xa->List z0->Prop
 |[],xs=>xs=[]
 |r::rs,xs=>∃c a,xs=c++a/\wk base w r c/\TB base w rs a
theorem wk.keep {base w w' r b}(h:wk base w r b)(a:∀v n c,w.ownsRow base 3 1 v n c->w'.ownsRow base 3 1 v n c):wk base w' r b:=by
 obtain⟨d,f,g,e,i,j,k⟩:=h;exact⟨d,f,g,e,a _ _ _ i,a _ _ _ j,a _ _ _ k⟩
theorem TB.keep {base:Nat}{w w':R}(b:∀v n a,w.ownsRow base 3 1 v n a->w'.ownsRow base 3 1 v n a):∀{rs:List Xa}{a:List z0},TB base w rs a->TB base w' rs a
 |[],_,h=>h
 |_::_,_,⟨c,rest,e,h1,h2⟩=>⟨c,rest,e,h1.keep b,TB.keep b h2⟩
theorem TB.snoc {base:Nat}{w:R}{r:Xa}{c:List z0}(a:wk base w r c):∀{rs:List Xa}{b:List z0},TB base w rs b->TB base w (rs++[r]) (b++c)
 |[],_,h=>by
  have f:=h;subst f;exact⟨c,[],by simp,a,rfl⟩
 |_::_,_,⟨d,rest,e,h1,h2⟩=>⟨d,rest++c,by rw[e,List.append_assoc],h1,TB.snoc a h2⟩
structure O5 (w:R)(B B2 p q g i:Nat)(f:Fa)(body:List Tk)(cv:Nat)(vr vl:z0)(rts:List Zf)(rrs:List Xa)(xs:List z0):Prop where
 wp:Sw w p q i f
 wt:BV w q g body cv
 q1:w.cell? ⟨q,1,I⟩=J vr
 q2:w.cell? ⟨q,2,I⟩=J vl
 fq:∀o,w.frozen? ⟨q,o,I⟩=false
 ro:w.ownsRow B2 189 3 vr rts.length (Yh rts)
 lo:w.ownsRow B2 170 13 vl rrs.length xs
 ru:TB B2 w rrs xs
 gB:g<B
 pB:B<=p/\p<B2
 qB:B<=q/\q<B2
 ne:q≠p
 b2:B2<=w.heap.size
theorem O5.step {w w' B c p q g i r f f' body s t u rts b x}(h:O5 w B c p q g i f body s t u rts b x)(y:Sw w' p q r f')(a:Fr (fun j=>j=p) w w'):O5 w' B c p q g r f' body s t u rts b x:=by
 have d:=bL w _ h.q1
 have l:g≠p:=by have:=h.gB;have:=h.pB;omega
 have m:∀k,k=p->k<c:=fun k e=>by rw[e];exact h.pB.2
 exact⟨y,h.wt.fr a h.ne l,(a.cell (p:=⟨q,1,I⟩) d h.ne).trans h.q1,(a.cell (p:=⟨q,2,I⟩) d h.ne).trans h.q2,fun o=>(a.frozen (p:=⟨q,o,I⟩) d h.ne).trans (h.fq o),
  oF h.ro a m,oF h.lo a m,TB.keep (fun v n A z=>oF z a m) h.ru,h.gB,h.pB,h.qB,h.ne,z5 h.b2 a.size⟩
theorem O5.routes {w a B b p q g i f body G l A V rts m C rt o}(h:O5 w B b p q g i f body G l A rts m C)(D:(w.alloc o).grownBy a l.ownBlock)(M:a.ownsRow b 189 3 V (rts.length+1) (Yh rts++T7 rt)):
  a.cell? ⟨q,1,I⟩=J l/\(∀o,a.frozen? ⟨q,o,I⟩=false)/\O5 (a.setCell ⟨q,1,I⟩ V) B b p q g i f body G V A (rts++[rt]) m C/\Fr (fun j=>B<=j) w (a.setCell ⟨q,1,I⟩ V):=by
 have t:∀k,l.ownBlock=J k->b<=k:=fun k d=>(h.ro.lt k d).1
 have r:=((Fr.refl (fun k=>l.ownBlock=J k) w).alloc o).grown D (fun k d=>L d)
 have s:∀k,k<b->¬l.ownBlock=J k:=fun k d e=>by have:=t k e;omega
 have E:=bL w _ h.q1;have N:=h.wt.lt;have O:=h.gB;have P:=h.pB;have Q:=h.qB;have H:=(r.cell (p:=⟨q,1,I⟩) E (s q h.qB.2)).trans h.q1
 have K:∀o,a.frozen? ⟨q,o,I⟩=false:=fun o=>(r.frozen (p:=⟨q,o,I⟩) E (s q h.qB.2)).trans (h.fq o)
 have F:=h.wp.fr r (s p h.pB.2);have c:=h.wt.fr r (s q h.qB.2) (s g (by omega));have u:Fr (fun j=>j=q) a (a.setCell ⟨q,1,I⟩ V):=(Fr.refl (fun j=>j=q) a).setCell (p:=⟨q,1,I⟩) (L rfl) _;have x:(w.alloc o).ownsRow b 189 3 l rts.length (Yh rts):=h.ro.alloc _
 have d:∀v n z,w.ownsRow b 3 1 v n z->(a.setCell ⟨q,1,I⟩ V).ownsRow b 3 1 v n z:=fun v n z R=>by
  have y:(w.alloc o).ownsRow b 3 1 v n z:=R.alloc _;exact oB (y.kept D (WI y x (by decide))) (by simp;omega) _
 refine⟨H,K,⟨F.fr u (fun e=>h.ne e.symm),?_,z7 _ _ _ H,?_,fun o=>by simp[K o],?_,?_,TB.keep d h.ru,h.gB,h.pB,h.qB,h.ne,?_⟩,?_⟩
 ·refine⟨?_,nL c.lt u.size,c.row.fr u c.lt (by omega)⟩
  rw[cO _ _ _ _ (by simp)];exact c.c0
 ·rw[cO _ _ _ _ (by simp)]
  exact(r.cell (p:=⟨q,2,I⟩) E (s q h.qB.2)).trans h.q2
 ·rw[Ns,lA]
  exact oB M (by simp;omega) _
 ·have y:(w.alloc o).ownsRow b 170 13 A m.length C:=h.lo.alloc _
  exact oB (y.kept D (WI y x (by decide))) (by simp;omega) _
 ·exact z5 h.b2 (z5 r.size u.size)
 exact(r.mono (fun k d=>by have:=t k d;omega)).trans (u.mono (fun k e=>by omega))
theorem OM (b a f c d):Yn b a f (c++d)=Yn b a (Yn b a f c) d:=by
 induction c generalizing f with
 |nil=>rfl
 |cons x r e=>exact e _
theorem RM {b a f}{l:List ByteArray}{j x}(h:l[j]?=J x):Yn b a f (l.take (j+1))=ZW (Yn b a f (l.take j)) (x.toList==b.toList) 4 a:=by
 rw[z3,h,OM];rfl
theorem ON:(T.info? 189).map (fun i=>(i.zero,i.size,i.bytes))=J (J (.agg #[G ByteArray.empty,Z Y 0,Z Y 0]),3,32):=by kernel_rfl
theorem On {w:R}{base v rs}(h:w.ownsRow base 189 3 v rs.length (Yh rs)):
  ∃a c,v=U a rs.length c/\∀j r,rs[j]?=J r->∃g,a=J ⟨g,0,I⟩/\base<=g/\g<w.heap.size/\w.cell? ⟨g,j*3,I⟩=J (G r.name):=by
 obtain⟨a,c,e⟩:=oL h;refine⟨a,c,e,fun j r b=>?_⟩
 have f:0<rs.length:=by have:=(iG.1 b).1;omega
 obtain⟨g,cap,d,i,k⟩:=h.form f;rw[e]at d;injection d with l _ m;subst l m;subst e;refine⟨g,rfl,i,k,?_⟩;obtain⟨a,_,_⟩:=TI rs j r b;have:=h.cells (g:=g) rfl _ _ a
 rwa [TM,y2]at this
theorem FK (w B B2 p q g i f body v vr vl rts K xs tn l r)(h:O5 w B B2 p q g i f body v vr vl rts K xs)(hb:body.length<=3000)(h6:rts.length<=6)(t1:body[i+1]?=J tn)(t2:body[i+2]?=J l)(t3:body[i+3]?=J r)(d2:Dg l.text)(d3:Dg r.text):
  z4 T 81 #[M (J ⟨p,0,I⟩)] w fun e w'=>e=A (.tuple #[])/\(∃s0,O5 w' B B2 p q g (i+4) (Wm rts f ⟨tn,l,r⟩) body v s0 vl (rts++[⟨tn.text,Zd l,Zd r⟩]) K xs)/\Fr (fun j=>B<=j) w w':=by
 obtain⟨ii,hi,t0,v0,w0⟩:=info_parts ON;have HS:=Za h;have L:=Za t1;have x0:=Za t2;have y0:=Za t3;have HD:O (Dg l.text/\Dg r.text):=⟨d2,d3⟩;have O0:i+3<body.length:=(iG.1 t3).1;have y:O (q≠p/\g≠p):=⟨h.ne,by have:=h.gB;have:=h.pB;omega⟩;obtain⟨va,vc,rfl,z⟩:=On h.ro;have W:=Za z;obtain⟨n,hn⟩:∃n,rts.length=n:=⟨_,rfl⟩;have X:=Za hn
 have a:O (O5 w B B2 p q g i f body v (U va n vc) vl rts K xs):=by rw[<-hn];exact h
 obtain⟨b6,a0⟩:∃b,decide (6<=n)=b:=⟨_,rfl⟩
 have N0:decide ((6:Int)<=(n:Int))=b6:=by rw[<-a0];by_cases hq:6<=n<;>simp[hq]<;>omega
 have z0:=Za a0
 have P0:n<=6:=by omega
 have c0:=h.wp.c0;have c1:=h.wp.c1;have fz:=h.wp.fz;have q1:=a.o.q1;have c:=h.wp.move (i+1);rw[D]at c;have s:=Za c;have A0:(w.setCell ⟨p,1,I⟩ (Z Y ((i:Int)+1))).cell? ⟨q,1,I⟩=J (U va n vc):=(a.o.step c.1 c.2).q1;clear h t1 t2 t3 d2 d3 z hn HS c;go_enter Tryz.func81,Tryz.ntmps81;go_wp2_with fail;refine(XM _ p q g (i+1) f body v tn _ 6 _ s.o.1 (a.o.step s.o.1 s.o.2).wt y.o.1 y.o.2 L.o (by decide) (by rfl)).mono ?_;rintro e w3 ⟨rfl,b0,d0⟩;have P:=Za b0;have e0:=Za (s.o.2.trans d0);have B0:=Za ((a.o.step P.o e0.o).wt);clear b0 d0 c0 c1 fz q1 A0;go_wp2_with fail;refine(XC w3 p q g (i+1) _ body v tn P.o B0.o L.o).mono ?_;rintro e w4 ⟨rfl,hf⟩;have C0:=Za (P.o.fr hf);have D0:=Za (e0.o.trans (hf.mono));clear hf;go_wp2_with fail
 go_loopg [4] n (fun m o wr=>∃j,j<=n/\m=n-j/\o=Z Y (j:Nat)/\O (Sw wr p q (i+1) (Yn tn.text tn.line (ZW f b6 6 tn.line) ((rts.map Zf.name).take j)))/\O (Fr (fun j=>j=p) w wr))
 case atStart=>exact⟨0,z8 _,rfl,rfl,C0,D0⟩
 obtain⟨j,hj,rfl,rfl,HW,HF⟩:=hrel;have f0:=Za (a.o.step HW.o HF.o);have q1:=f0.o.q1;by_cases Q0:j<n
 ·obtain⟨x,Q⟩:∃x,rts[j]?=J x:=⟨_,gE (by have:=X.o;omega)⟩
  obtain⟨g3,rfl,R0,E0,r0⟩:=W.o j x Q;rw[<-HF.o.cell (p:=⟨g3,j*3,I⟩) E0 (by have:=a.o.pB;simp;omega)]at r0
  have F0:O ((rts.map Zf.name)[j]?=J x.name):=by show _=_;rw[List.getElem?_map,Q];rfl
  obtain⟨bx,G0⟩:∃b,(x.name.toList==tn.text.toList)=b:=⟨_,rfl⟩;have H0:=Za G0
  have I0:(j:Int)<(n:Int):=by omega
  clear Q;go_wp2_with fail;refine(XM _ p q g (i+1) _ body v tn bx 4 _ HW.o f0.o.wt y.o.1 y.o.2 L.o (by decide) (by rfl)).mono ?_;rintro e w5 ⟨rfl,g0,h0⟩;have J0:=Za g0;have K0:=Za (HF.o.trans h0);clear g0 h0 q1 r0;go_wp2;go_roundg (n-(j+1))
  case measure=>omega
  refine⟨j+1,by omega,rfl,by go_num,?_,K0⟩
  show Sw _ _ _ _ _
  rw[RM F0.o,H0.o];exact J0.o
 have I0:¬(j:Int)<(n:Int):=by omega
 have ej:j=n:=by omega
 have t:O (Sw wr p q (i+1) (Yn tn.text tn.line (ZW f b6 6 tn.line) (rts.map Zf.name))):=by
  have e:=HW.o;rw[z2 (by rw[N];have:=X.o;omega)]at e;exact e
 obtain⟨fn,R⟩:∃fn,fn=Yn tn.text tn.line (ZW f b6 6 tn.line) (rts.map Zf.name):=⟨_,rfl⟩;rw[<-R]at t;have L0:=Za R;have c1:=t.o.c1;have fz:=t.o.fz;have hm:=t.o.move (i+1+1);rw[D (i+1)]at hm;have HM:=Za hm;clear hm HW R ej;obtain⟨x,Q⟩:∃x,x=i+1:=⟨_,rfl⟩;have S:=Za Q;rw[<-Q]at c1 HM
 have S0:x+3<=3000:=by omega
 clear Q;go_wp2_with fail
 have i0:O (body[x+1]?=J l):=by have:=x0.o;rw[S.o];exact this
 have j0:O (body[x+1+1]?=J r):=by have:=y0.o;rw[S.o];exact this
 refine(Md _ p q g (x+1) fn body v l 1000000 _ _ HM.o.1 ((a.o.step HM.o.1 (HF.o.trans HM.o.2)).wt) y.o.1 y.o.2 i0.o HD.o.1 (by omega) (by rfl) (by rfl)).mono ?_;rintro e w6 ⟨rfl,k0,l0⟩;have m0:=Za k0;have n0:=Za ((HF.o.trans HM.o.2).trans l0);clear k0 l0 c1 fz;go_wp2_with fail;refine(Md _ p q g (x+1+1) _ body v r 1000 _ _ m0.o ((a.o.step m0.o n0.o).wt) y.o.1 y.o.2 j0.o HD.o.2 (by omega) (by rfl) (by rfl)).mono ?_;rintro e w7 ⟨rfl,o0,p0⟩;have M0:=Za o0;have q0:=Za (n0.o.trans p0);have u:=Za (a.o.step M0.o q0.o);have q1:=u.o.q1;have T0:=u.o.b2;clear o0 p0
 go_wp2_with (at_builtin;refine wpList_append_lies _ rfl (.tmp 64) (.tmp 69) 68 rfl B2 189 ii _ 3 32 Tryz.underlying68 hi t0 v0 w0 rfl (by decide) (U va n vc) n (Yh rts) rfl ?h1 ⟨w7.heap.size,0,I⟩ 1 1 [G tn.text,Z Y (Zd l),Z Y (Zd r)] rfl rfl ?h2 ?h3 (by decide) ?h4 ?h5 ?h6 _ rfl ?_)
 case h1=>have e:=u.o.ro;rw[X.o]at e;exact e.alloc _
 try case h2=>exact z1 (aN w7 (.cells #[G tn.text,Z Y (Zd l),Z Y (Zd r)] 189))
 case h3=>simp[z9]
 case h4=>unfold maxLen;omega
 case h5=>omega
 case h6=>first|omega|(simp;omega)
 intro g2 C w8 E d _ _;obtain⟨e1,ef,F⟩:=u.o.routes (rt:=⟨tn.text,Zd l,Zd r⟩) (V:=U (J ⟨g2,0,I⟩) (n+1) C) d (by rw[X.o];exact E);have H:=Za F;clear F d E q1;go_wp2
 go_end0
 refine⟨rfl,⟨U (J ⟨g2,0,I⟩) (n+1) C,?_⟩,(q0.o.mono (fun k e=>by have:=a.o.pB;omega)).trans H.o.2⟩;have e:=H.o.1;rw[S.o]at e;unfold Wm;rw[X.o,z0.o];rw[L0.o]at e;exact e
structure XB (w:R)(X:Nat)(cs:Nat->z0):Prop where
 cell:∀o,o<13->w.cell? ⟨X,o,I⟩=J (cs o)
 fz:∀o,w.frozen? ⟨X,o,I⟩=false
def Vp (a:Nat->z0)(k:Nat)(v:z0):Nat->z0:=fun o=>if o=k then v else a o
theorem XB.set {w X a}(h:XB w X a){k}(c:k<13)(v):XB (w.setCell ⟨X,k,I⟩ v) X (Vp a k v)/\Fr (fun j=>j=X) w (w.setCell ⟨X,k,I⟩ v):=by
 refine⟨⟨fun o b=>?_,fun o=>by simp[h.fz o]⟩,(Fr.refl (fun j=>j=X) w).setCell (p:=⟨X,k,I⟩) (L rfl) _⟩;unfold Vp;by_cases e:o=k
 ·subst e
  rw[if_pos rfl];exact cS _ _ _ (h.cell o b)
 rw[if_neg e,cO _ _ _ _ (by simp)]
 exact h.cell o b
theorem XB.fr {w w' X a S}(h:XB w X a)(b:Fr S w w')(c:¬S X:=by simp):XB w' X a:=by
 have d:=bL w _ (h.cell 0 (by omega));exact⟨fun o e=>(b.cell (p:=⟨X,o,I⟩) d c).trans (h.cell o e),fun o=>(b.frozen (p:=⟨X,o,I⟩) d c).trans (h.fz o)⟩
theorem Me (b l):∀i a x,Zz b a i (l++[x])=if(x.name.toList==b.toList)=true then((i+l.length:Nat):Int)else Zz b a i l:=by
 induction l with
 |nil=>intro i a x;simp[Zz]
 |cons y r c=>
  intro i a x;simp only[List.cons_append,Zz];rw[c (i+1)];simp only[List.length_cons];rw[show i+1+r.length=i+(r.length+1)from by omega]
theorem Mf {nm}{l:List Zf}{j x}(h:l[j]?=J x):Zz nm (-1) 0 (l.take (j+1))=if(x.name.toList==nm.toList)=true then(j:Int)else Zz nm (-1) 0 (l.take j):=by
 have a:=(iG.1 h).1;rw[z3,h]
 show Zz nm (-1) 0 (l.take j++[x])=_
 rw[Me,List.length_take,y2,Nat.min_eq_left (by omega)]
theorem JC (ns)(n:Int):UH (ns++[n])=UH ns++[Z Y n]:=by simp[UH]
def FL (w:R)(p q X i:Nat)(f:Fa)(c:Nat->z0)(a:List Int)(d g:Bool)(e:Ending)(w':R):Prop:=
 e=A (.tuple #[])/\Sw w' p q i f/\(∃b,XB w' X (Vp (Vp (Vp c 11 (E d)) 12 (E g)) 10 b)/\w'.ownsRow w.heap.size 3 1 b a.length (UH a))/\Fr (fun j=>j=p\/j=X) w w'
theorem OO (w p q g X i f body x a t)(y:Sw w p q i f)(F:BV w q g body x)(G:XB w X a)(H:X≠p)(m:a 10=U I 0 0)(n:a 11=E false)(r:a 12=E false)(hi:i<=3000)(K:body[i]?=J t)(W:(t.text.toList==[100,101,99,108,105,110,101])=true):
  z4 T 135 #[M (J ⟨p,0,I⟩),M (J ⟨X,0,I⟩)] w (FL w p q X (i+1) f a [] true false):=by
 have N:=Za y;have P:=Za G;have Q:O (a 10=U I 0 0/\a 11=E false/\a 12=E false):=⟨m,n,r⟩;have z:=Za H;have R:=Za (XC w p q g i f body x t y F K);go_enter Tryz.func135,Tryz.ntmps135;go_wp2_with fail;refine R.o.mono ?_;rintro e Y ⟨rfl,s⟩;have u:=Za s;have b:=Za (P.o.fr s);have v:=Za (N.o.fr s);have A:=b.o.set (k:=11) (by omega) (E true);have B:=Za A;have c:=Za (v.o.fr A.2 (fun e=>z.o e.symm));have S:=b.o.cell 11 (by omega);have Z:=b.o.fz;have c1:=c.o.c1;have fz:=c.o.fz;go_wp2
 go_end0
 have l:=c.o.move (i+1);rw[D]at l;refine⟨rfl,l.1,⟨U I 0 0,?_,oZ _ _ _ _⟩,?_⟩
 ·have e:=B.o.1.fr l.2 z.o
  refine⟨fun o V=>(e.cell o V).trans ?_,e.fz⟩;have C:=Q.o;unfold Vp;by_cases d:o=10
  ·subst d;simp[C.1]
  by_cases h:o=11
  ·subst h;simp
  by_cases j:o=12
  ·subst j;simp[C.2.2]
  simp[d,h,j]
 exact((u.o.mono).trans (B.o.2.mono (fun k e=>y0 e))).trans (l.2.mono (fun k e=>L e))
theorem XB.congr {w X a b}(h:XB w X a)(e:∀o,o<13->a o=b o):XB w X b:=⟨fun o c=>(h.cell o c).trans (by rw[e o c]),h.fz⟩
structure AX (w:R)(p q g X:Nat)(body:List Tk)(cv:Nat)(va:Option Addr)(n vc:Nat)(rts:List Zf):Prop where
 wt:BV w q g body cv
 q1:w.cell? ⟨q,1,I⟩=J (U va n vc)
 n1:q≠p/\g≠p/\q≠X/\g≠X/\X≠p
 ln:rts.length=n/\n<=7
 row:∀j r,rts[j]?=J r->∃g3,va=J ⟨g3,0,I⟩/\g3≠p/\g3≠X/\g3<w.heap.size/\w.cell? ⟨g3,j*3,I⟩=J (G r.name)
theorem AX.fr {w w' p q g X body b c n d rts}(h:AX w p q g X body b c n d rts)(a:Fr (fun j=>j=p\/j=X) w w'):AX w' p q g X body b c n d rts:=by
 obtain⟨f,n2,i,o,v⟩:=h.n1;have s:=bL w _ h.q1;refine⟨h.wt.fr a (by simp[f,i]) (by simp[n2,o]),(a.cell (p:=⟨q,1,I⟩) s (by simp[f,i])).trans h.q1,h.n1,h.ln,fun j r t=>?_⟩;obtain⟨g3,e,k,l,m,u⟩:=h.row j r t;exact⟨g3,e,k,l,Nat.lt_of_lt_of_le m a.size,(a.cell (p:=⟨g3,j*3,I⟩) m (by simp[k,l])).trans u⟩
theorem Fr.no {S w w'}(h:F0 w w'):Fr S w w':=h.mono
theorem CH (a k u v):Vp (Vp a k u) k v=Vp a k v:=by
 funext o
 unfold Vp
 by_cases h:o=k<;>simp[h]
theorem LC (w p q g X i u body cv va n vc rts l f cs ch)(hp:Sw w p q i f)(hv:AX w p q g X body cv va n vc rts)(Q:XB w X cs)(L0:cs 10=U I 0 0)(M0:cs 11=E false)(N0:cs 12=E false)(hl:wW body u l)(hb:body.length<=3000)(t0)(q0:body[i]?=J t0)(e0:(t0.text.toList==[100,101,99,108,105,110,101])=false)(j2:(t0.text.toList==[99,104,101,97,112,101,115,116])=ch)(hi:i=if ch then u else u+1):
  z4 T 135 #[M (J ⟨p,0,I⟩),M (J ⟨X,0,I⟩)] w (FL w p q X (u+2*l.length) (Xi rts 1 f l) cs (l.map (fun t=>Zz t.text (-1) 0 rts)) false ch):=by
 obtain⟨ii,v1,x1,A1,B1⟩:=info_parts Y2;have HP:=Za hp;have R:=Za hv;have HX:=Za Q;have HL:=Za hl;have H1:O (cs 10=U I 0 0/\cs 11=E false/\cs 12=E false):=⟨L0,M0,N0⟩;have HN:=Za hv.n1.2.2.2.2;have S:=Za (bL w _ hp.c0);have P0:=Za (bL w _ (Q.cell 0 (by omega)));have Q0:=Za q0;have HI:=Za hi;have l2:i<body.length:=(iG.1 q0).1;have m2:=hl.ps
 have n2:u+2*l.length<body.length:=by
  obtain⟨t,ht,_⟩:=hl.en;exact(iG.1 ht).1
 clear hp hv Q L0 M0 N0 hl q0 hi;go_enter Tryz.func135,Tryz.ntmps135;go_wp2_with fail;refine(XC w p q g i f body cv t0 HP.o R.o.wt Q0.o).mono ?_;rintro e w1 ⟨rfl,c⟩;have f0:=Za c;clear c;go_wp2_with fail;refine(XC w1 p q g i f body cv t0 (HP.o.fr f0.o) (R.o.fr f0.o.no).wt Q0.o).mono ?_;rintro e w2 ⟨rfl,c⟩;have a:=Za (f0.o.trans c);clear c f0
 go_upto_if 22 with fail
 go_cut [] (fun wc=>O (Sw wc p q (u+1) f)/\O (XB wc X (Vp cs 12 (E ch)))/\O (Fr (fun j=>j=p\/j=X) w wc))
 case first=>
  cases ch with
  |false=>
   have s0:O (Sw w2 p q (u+1) f):=by have e:=HP.o.fr a.o;rw[HI.o]at e;exact e
   go_wp2_with fail;go_meet
   exact⟨s0,(HX.o.fr a.o).congr (fun o _=>by unfold Vp;by_cases h:o=12<;>simp[h,H1.o.2.2]),a.o.no⟩
  |true=>
   have s0:O (Sw w2 p q u f):=by have e:=HP.o.fr a.o;rw[HI.o]at e;exact e
   have hs:=(HX.o.fr a.o).set (k:=12) (by omega) (E true);have HS:=Za hs;have v:=Za (s0.o.fr hs.2 (fun e=>HN.o e.symm));have o2:=(HX.o.fr a.o).cell 12 (by omega);have xf:=(HX.o.fr a.o).fz;have c1:=v.o.c1;have fz:=v.o.fz;clear hs;go_wp2_with fail;go_meet
   have r:=v.o.move (u+1);rw[D]at r;exact⟨r.1,HS.o.1.fr r.2 HN.o,(a.o.no.trans (HS.o.2.mono (fun k e=>y0 e))).trans (r.2.mono (fun k e=>L e))⟩
 obtain⟨C1,R0,D1⟩:=hcut;obtain⟨ds,g0⟩:∃ds,ds=Vp cs 12 (E ch):=⟨_,rfl⟩;rw[<-g0]at R0;have E1:=Za g0
 have S0:O (ds 10=U I 0 0):=by show _=_;rw[g0];unfold Vp;simp[H1.o.1]
 clear g0;go_wp2_with fail
 go_loopg [4] l.length (fun m ko wr=>∃j V a0 vp,j<=l.length/\m=l.length-j/\ko=Z Y ((j+1:Nat):Int)/\O (a0=(l.take j).map (fun t=>Zz t.text (-1) 0 rts))/\O (XB wr X (Vp ds 10 vp))/\O (wr.ownsRow w.heap.size 3 1 vp j (UH a0))/\O (Sw wr p q (if j=0 then u+1 else u+2*j) V)/\O (Fr (fun j=>j=p\/j=X) w wr)/\O (Xi rts 1 f l=Xi rts (j+1) V (l.drop j)))
 case atStart=>exact⟨0,f,[],U I 0 0,z8 _,rfl,rfl,rfl,R0.o.congr (fun o _=>by unfold Vp;by_cases h:o=10<;>simp[h,S0.o]),World.ownsRow_nil _ _ _ _,C1,D1,rfl⟩
 obtain⟨j,V,a0,vp,hj,p2,rfl,T0,v0,w0,x0,P,HR⟩:=hrel;by_cases V0:j<l.length
 ·obtain⟨t,ht⟩:∃t,l[j]?=J t:=⟨_,gE V0⟩
  obtain⟨x,Q⟩:∃x,x=u+2*j:=⟨_,rfl⟩;obtain⟨kk,z⟩:∃kk:Int,kk=((j+1:Nat):Int):=⟨_,rfl⟩;rw[<-z]
  have z0:O (body[x+1]?=J t):=by
   have:=HL.o.it j t ht;rw[show u+1+2*j=x+1 from by omega]at this;exact this
  have F1:=Za (O0 ht)
  have G1:O ((l.take (j+1)).map (fun t=>Zz t.text (-1) 0 rts)=(l.take j).map (fun t=>Zz t.text (-1) 0 rts)++[Zz t.text (-1) 0 rts]):=by
   show _=_
   rw[z3,ht,y4];rfl
  have q2:x+2<=3000:=by omega
  have b0:=Za Q;have W0:=Za z;have r2:y5.wrap (kk+1)=kk+1:=IntWalk.i64_in _ (by omega);obtain⟨b4,X0⟩:∃b,decide (4<j+1)=b:=⟨_,rfl⟩;have Y0:=Za X0;have s2:=wh W0.o Y0.o;clear X0 a;rcases y1 j with d0|d0
  case' inl=>
   have e0:(kk==1)=true:=by simp;omega
   have Z0:decide ((1:Int)<kk)=false:=by simp;omega
   have a1:O (Sw wr p q (x+1) V):=by have e:=x0.o;rw[if_pos d0]at e;rw[b0.o,d0];exact e
   have a:=P;have b1:=v0;have d1:=w0;have e1:=Za (R.o.fr P.o);clear d0 Q z ht;go_wp2_with fail
  case' inr=>
   have e0:(kk==1)=false:=by simp;omega
   obtain⟨tc,A0,I1⟩:=HL.o.cm j (by omega) V0;rw[<-Q]at A0;have HC:=Za A0
   have d:O (Sw wr p q x V):=by have e:=x0.o;rw[if_neg (by omega)]at e;rw[b0.o];exact e
   have Z0:decide ((1:Int)<kk)=true:=by simp;omega
   clear A0 d0 Q z ht;go_wp2_with fail;refine(XC wr p q g x V body cv tc d.o (R.o.fr P.o).wt HC.o).mono ?_;rintro e w1 ⟨rfl,c⟩;have B0:=Za (d.o.fr c);have J1:=Za (P.o.trans c.no);have K1:=Za (v0.o.fr c);have L1:=Za (oF w0.o c);have c1:=B0.o.c1;have fz:=B0.o.fz;have r:=B0.o.move (x+1);rw[D]at r;have a1:=Za r.1;have a:=Za (J1.o.trans (r.2.mono (fun k e=>L e)));have b1:=Za (K1.o.fr r.2 HN.o);have d1:=Za (oF L1.o r.2 (fun k e=>by rw[e];exact S.o));have e1:=Za (R.o.fr a.o);clear c r;go_wp2_with fail
  all_goals
   refine(XM _ p q g (x+1) V body cv t b4 6 _ a1.o e1.o.wt R.o.n1.1 R.o.n1.2.1 z0.o (by decide) (by rfl)).mono ?_;rintro e w3 ⟨rfl,f1,h0⟩;have M1:=Za f1;have j0:=Za (a.o.trans (h0.mono (fun k e=>L e)));have C0:=Za (b1.o.fr h0 HN.o);have D0:=Za (oF d1.o h0 (fun k e=>by rw[e];exact S.o));have g1:=Za (R.o.fr j0.o);clear f1 h0;have t2:=g1.o.ln.2;go_wp2_with fail
   go_loopg [5,6] n (fun m fo ix wi=>∃b,b<=n/\m=n-b/\ix=Z Y (b:Nat)/\(∃lp,fo=Z Y lp/\O (lp=Zz t.text (-1) 0 (rts.take b)))/\O (F0 w3 wi))
   case atStart=>exact⟨0,z8 _,rfl,rfl,⟨-1,rfl,rfl⟩,Zt⟩
   obtain⟨b,v2,N1,rfl,⟨lp,rfl,E0⟩,B⟩:=hrel;have l0:=Za (M1.o.fr B.o);have C:=Za (g1.o.fr B.o.no);have c0:=l0.o.c0;have q1:=C.o.q1;by_cases f2:b<n
   ·obtain⟨y,hy⟩:∃y,rts[b]?=J y:=⟨_,gE (by have:=C.o.ln.1;omega)⟩
    obtain⟨g3,G0,x2,y2,O1,r0⟩:=C.o.row b y hy;have P1:=Za G0;rw[G0]at q1;have i1:O (Zz t.text (-1) 0 (rts.take (b+1))=if(y.name.toList==t.text.toList)=true then(b:Int)else Zz t.text (-1) 0 (rts.take b)):=Mf hy;obtain⟨bx,Q1⟩:∃bx,(y.name.toList==t.text.toList)=bx:=⟨_,rfl⟩;have j1:=Za Q1
    have R1:(b:Int)<(n:Int):=by omega
    have H0:O (∀W,F0 wr W->W.cell? ⟨p,0,I⟩=J (M (J ⟨q,0,I⟩))/\W.cell? ⟨q,1,I⟩=J (U (J ⟨g3,0,I⟩) n vc)/\W.cell? ⟨g3,b*3,I⟩=J (G y.name)):=fun W hW=>⟨(l0.o.fr hW).c0,by have e:=(C.o.fr hW.no).q1;rw[P1.o]at e;exact e,(hW.cell (p:=⟨g3,b*3,I⟩) O1).trans r0⟩
    have HA:O (∀W,F0 wr W->z4 T 80 #[M (J ⟨p,0,I⟩)] W fun e w'=>e=A (G t.text)/\F0 W w'):=fun W hW=>XC W p q g (x+1) _ body cv t (l0.o.fr hW) (C.o.fr hW.no).wt z0.o
    clear hy G0;go_wp2_with fail
    go_cut [80]from 55 to 81 (fun s wx=>s=E bx/\O (F0 wr wx))
    case first=>
     go_region_with (go_at_call 80;refine(HA.o _ (by exact Zt.drew)).mono ?_;rintro e w5 ⟨rfl,c⟩;have F:O (F0 wr w5):=(Zt.drew).trans c;have k0:=(H0.o w5 F.o).1;have k1:=(H0.o w5 F.o).2.1;have k2:=(H0.o w5 F.o).2.2;clear c)
     all_goals(go_wp2_with fail;go_meet;exact⟨rfl,F⟩)
    obtain⟨rfl,l1⟩:=hcut;clear c0 q1 r0
    cases bx with
    |true=>
     go_wp2;go_roundg (n-(b+1))
     case measure=>omega
     exact⟨b+1,by omega,rfl,by go_num,⟨b,rfl,by show _=_;rw[i1.o,j1.o];rfl⟩,B.o.trans l1.o⟩
    |false=>
     go_wp2;go_roundg (n-(b+1))
     case measure=>omega
     exact⟨b+1,by omega,rfl,by go_num,⟨lp,rfl,by show _=_;rw[i1.o,j1.o];exact E0.o⟩,B.o.trans l1.o⟩
   have R1:¬(b:Int)<(n:Int):=by omega
   have n0:O (lp=Zz t.text (-1) 0 rts):=by
    have e:=E0.o;rw[z2 (by have:=C.o.ln.1;omega)]at e;exact e
   obtain⟨bf,S1⟩:∃bf,decide (lp<0)=bf:=⟨_,rfl⟩;have T1:=Za S1;have V1:=Za (j0.o.trans B.o.no);have W1:=Za (C0.o.fr B.o);have X1:=Za (oF D0.o B.o);clear E0 N1;go_wp2_with fail;refine(XM _ p q g (x+1) _ body cv t bf 4 _ l0.o C.o.wt R.o.n1.1 R.o.n1.2.1 z0.o (by decide) (by rfl)).mono ?_;rintro e w5 ⟨rfl,m1,m0⟩;have Y1:=Za m1;have F:=Za (V1.o.trans (m0.mono (fun k e=>L e)));have o1:=Za (W1.o.fr m0 HN.o);have p1:=Za (oF X1.o m0 (fun k e=>by rw[e];exact S.o));have A2:=F.o.size
   have Z1:w5.cell? ⟨X,10,I⟩=J vp:=by have e:=o1.o.cell 10 (by omega);unfold Vp at e;simpa using e
   clear m1 m0 c0 q1
   go_wp2_with (at_builtin;refine wpList_append_lies _ rfl (.tmp 90) (.tmp 92) 25 rfl w.heap.size 3 ii _ 1 8 Tryz.underlying25 v1 x1 A1 B1 rfl (by decide) vp j (UH a0) rfl ?h1 ⟨w5.heap.size,0,I⟩ 1 1 [Z Y lp] rfl rfl ?h2 ?h3 (by decide) ?h4 ?h5 ?h6 _ rfl ?_)
   case h1=>exact p1.o.alloc _
   try case h2=>exact z1 (aN w5 (.cells #[Z Y lp] 3))
   case h3=>simp[z9]
   case h4=>unfold maxLen;omega
   case h5=>omega
   case h6=>first|omega|(simp;omega)
   intro g2 o0 w6 p0 H _ _
   have K:∀k,vp.ownBlock=J k->w.heap.size<=k:=fun k hk=>(p1.o.lt k hk).1
   have I0:Fr (fun k=>vp.ownBlock=J k) w5 w6:=((Fr.refl (fun k=>vp.ownBlock=J k) w5).alloc _).grown H (fun k hk=>L hk);have a2:=Za p0;have b2:=Za ((F.o.alloc _).grown H (fun k hk=>y0 (K k hk)));have J0:=Za (o1.o.fr I0 (fun e=>by have:=K X e;have:=P0.o;omega));have c2:=Za (Y1.o.fr I0 (fun e=>by have:=K p e;have:=S.o;omega))
   have i2:w6.cell? ⟨X,10,I⟩=J vp:=by have e:=J0.o.cell 10 (by omega);unfold Vp at e;simpa using e
   have xf:=J0.o.fz;have hs:=J0.o.set (k:=10) (by omega) (U (J ⟨g2,0,I⟩) (j+1) o0);rw[CH]at hs;have HS:=Za hs;have v:=Za (c2.o.fr hs.2 (fun e=>HN.o e.symm));have c1:=v.o.c1;have fz:=v.o.fz;clear H p0 K I0 hs Z1;go_wp2;go_roundg (l.length-(j+1))
   case measure=>omega
   have r:=v.o.move (x+1+1);rw[D (x+1)]at r;refine⟨j+1,ZW (ZW V b4 6 t.line) bf 4 t.line,a0++[lp],U (J ⟨g2,0,I⟩) (j+1) o0,by omega,rfl,by rw[W0.o];go_num,?_,?_,?_,?_,?_,?_⟩
   ·show _=_
    rw[T0.o,G1.o,n0.o]
   ·exact HS.o.1.fr r.2 HN.o
   ·show z6 _ _ _ _ _ _ _
    rw[JC];exact oF (oB a2.o (by have:=P0.o;simpa using this) _) r.2 (fun k e=>by rw[e];exact S.o)
   ·show Sw _ _ _ _ _
    rw[if_neg (by omega),show u+2*(j+1)=x+1+1 from by have:=b0.o;omega];exact r.1
   ·exact(b2.o.trans (HS.o.2.mono (fun k e=>y0 e))).trans (r.2.mono (fun k e=>L e))
   show _=_
   rw[HR.o,F1.o];simp only[Xi];rw[Y0.o,<-n0.o,T1.o]
 obtain⟨te,K0,I1⟩:=HL.o.en
 have ej:j=l.length:=by omega
 rw[<-ej]at K0
 have e0:((((j+1:Nat):Int))==1)=false:=by simp;omega
 have HC:=Za K0
 have d:O (Sw wr p q (u+2*j) V):=by have e:=x0.o;rw[if_neg (by omega)]at e;exact e
 clear K0;obtain⟨x,Q⟩:∃x,x=u+2*j:=⟨_,rfl⟩;obtain⟨kk,z⟩:∃kk:Int,kk=((j+1:Nat):Int):=⟨_,rfl⟩;rw[<-z]at e0 ⊢;rw[<-Q]at HC d;have b0:=Za Q;clear Q z;go_wp2_with fail;refine(XC wr p q g x V body cv te d.o (R.o.fr P.o).wt HC.o).mono ?_;rintro e w3 ⟨rfl,c⟩;have j0:=Za (P.o.trans c.no);have d2:=Za (d.o.fr c);have C0:=Za (v0.o.fr c);have D0:=Za (oF w0.o c);clear c;go_wp2
 go_end0
 refine⟨rfl,?_,⟨vp,?_,?_⟩,j0.o⟩
 ·have e2:V=Xi rts 1 f l:=by rw[HR.o,dL (by omega)];rfl
  rw[<-e2,<-ej,<-b0.o];exact d2.o
 ·refine C0.o.congr (fun o _=>?_)
  rw[E1.o];have h1:=H1.o;unfold Vp;by_cases r1:o=10
  ·simp[r1]
  by_cases s1:o=12
  ·simp[s1]
  by_cases t1:o=11
  ·simp[t1,h1.2.1]
  simp[r1,t1,s1]
 have e:=D0.o
 rw[T0.o,z2 (by omega)]at e;rw[N,<-ej];exact e
structure U2 (w0 w:R)(p q X i:Nat)(f:Fa)(cs:Nat->z0):Prop where
 wp:Sw w p q i f
 xb:XB w X cs
 fr:Fr (fun j=>j=p) w0 w
 xl:w0.heap.size<=X
 ne:X≠p
theorem U2.move {w0 w p q X i f b}(h:U2 w0 w p q X i f b)(k:Nat):U2 w0 (w.setCell ⟨p,1,I⟩ (Z Y k)) p q X k f b:=by
 have a:=h.wp.move k;exact⟨a.1,h.xb.fr a.2 h.ne,h.fr.trans a.2,h.xl,h.ne⟩
theorem U2.set {w0 w p q X i f a}(h:U2 w0 w p q X i f a){k}(c:k<13)(v):U2 w0 (w.setCell ⟨X,k,I⟩ v) p q X i f (Vp a k v):=by
 have b:=h.xb.set c v;exact⟨h.wp.fr b.2 (fun e=>h.ne e.symm),b.1,h.fr.setCell (p:=⟨X,k,I⟩) (y0 h.xl) v,h.xl,h.ne⟩
theorem U2.call {w0 w w' p q X i a f f' b}(h:U2 w0 w p q X i f b)(d:Sw w' p q a f')(c:Fr (fun j=>j=p) w w'):U2 w0 w' p q X a f' b:=⟨d,h.xb.fr c h.ne,h.fr.trans c,h.xl,h.ne⟩
theorem U2.look {w0 w w' p q X i f a}(h:U2 w0 w p q X i f a)(b:F0 w w'):U2 w0 w' p q X i f a:=h.call (h.wp.fr b) b.no
theorem De {base:Nat}{w:R}:∀{rs:List Xa}{a:List z0}{j:Nat}{r:Xa},TB base w rs a->rs[j]?=J r->a[j*13]?=J (G r.name)
 |[],_,j,_,_,hj=>by simp at hj
 |r::rs,a,0,r',⟨c,rest,e,h1,h2⟩,hj=>by
  simp at hj;subst hj;obtain⟨d,f,g,b,_⟩:=h1;rw[e,b];rfl
 |r::rs,a,j+1,r',⟨c,rest,e,h1,h2⟩,hj=>by
  have:=De h2 (j:=j) (r:=r') (by simpa using hj);obtain⟨d,f,g,b,_⟩:=h1
  have l:c.length=13:=by rw[b];rfl
  rw[e,aR (by omega),l,show(j+1)*13-13=j*13 from by omega];exact this
theorem FM {w:R}{base v n b}(h:w.ownsRow base 170 13 v n b):
  ∃a c,v=U a n c/\∀j u,j<n->b[j*13]?=J u->∃g,a=J ⟨g,0,I⟩/\base<=g/\g<w.heap.size/\w.cell? ⟨g,j*13,I⟩=J u:=by
 obtain⟨a,c,e⟩:=oL h;refine⟨a,c,e,fun j u o f=>?_⟩;obtain⟨g,cap,d,i,k⟩:=h.form (by omega);rw[e]at d;injection d with l _ m;subst l m;subst e;refine⟨g,rfl,i,k,?_⟩;have:=h.cells (g:=g) rfl _ _ f
 rwa [TM,y2]at this
theorem SV:(T.info? 170).map (fun i=>(i.zero,i.size,i.bytes))=J (J (.agg #[G ByteArray.empty,Z Y 0,Z Y 0,Z Y 0,Z Y 0,U I 0 0,U I 0 0,E false,Z Y 0,Z Y 0,U I 0 0,E false,E false]),13,152):=by kernel_rfl
def AY (a:ByteArray):Nat->z0
 |0=>G a
 |1=>Z Y 0
 |2=>Z Y 0
 |3=>Z Y 0
 |4=>Z Y 0
 |5=>U I 0 0
 |6=>U I 0 0
 |7=>E false
 |8=>Z Y 0
 |9=>Z Y 0
 |10=>U I 0 0
 |_=>E false
theorem vt (w:R)(a):XB (w.alloc (.cells #[G a,Z Y 0,Z Y 0,Z Y 0,Z Y 0,U I 0 0,U I 0 0,E false,Z Y 0,Z Y 0,U I 0 0,E false,E false] 170)) w.heap.size (AY a):=by
 have b:=aN w (.cells #[G a,Z Y 0,Z Y 0,Z Y 0,Z Y 0,U I 0 0,U I 0 0,E false,Z Y 0,Z Y 0,U I 0 0,E false,E false] 170);refine⟨fun o c=>bC b o _ ?_,bF b⟩
 match o,c with
 |0,_=>rfl
 |1,_=>rfl
 |2,_=>rfl
 |3,_=>rfl
 |4,_=>rfl
 |5,_=>rfl
 |6,_=>rfl
 |7,_=>rfl
 |8,_=>rfl
 |9,_=>rfl
 |10,_=>rfl
 |11,_=>rfl
 |12,_=>rfl
theorem O5.rules {w a B b p q g i f body K D r V rts d A c M o}(h:O5 w B b p q g i f body K D r rts d A)(E:wk b w M c)(F:(w.alloc o).drew.grownBy a r.ownBlock)(P:a.ownsRow b 170 13 V (d.length+1) (A++c)):
  a.cell? ⟨q,2,I⟩=J r/\(∀o,a.frozen? ⟨q,o,I⟩=false)/\O5 (a.setCell ⟨q,2,I⟩ V) B b p q g i f body K D V rts (d++[M]) (A++c)/\Fr (fun j=>B<=j) w (a.setCell ⟨q,2,I⟩ V):=by
 have u:∀k,r.ownBlock=J k->b<=k:=fun k l=>(h.lo.lt k l).1
 have s:=(((Fr.refl (fun k=>r.ownBlock=J k) w).alloc o).drew).grown F (fun k l=>L l)
 have t:∀k,k<b->¬r.ownBlock=J k:=fun k l e=>by have:=u k e;omega
 have G:=bL w _ h.q1;have Q:=h.wt.lt;have R:=h.gB;have S:=h.pB;have T:=h.qB;have N:=(s.cell (p:=⟨q,2,I⟩) G (t q h.qB.2)).trans h.q2
 have O:∀o,a.frozen? ⟨q,o,I⟩=false:=fun o=>(s.frozen (p:=⟨q,o,I⟩) G (t q h.qB.2)).trans (h.fq o)
 have H:=h.wp.fr s (t p h.pB.2);have m:=h.wt.fr s (t q h.qB.2) (t g (by omega));have x:Fr (fun j=>j=q) a (a.setCell ⟨q,2,I⟩ V):=(Fr.refl (fun j=>j=q) a).setCell (p:=⟨q,2,I⟩) (L rfl) _;have y:(w.alloc o).drew.ownsRow b 170 13 r d.length A:=(h.lo.alloc _).drew
 have l:∀v n C,w.ownsRow b 3 1 v n C->(a.setCell ⟨q,2,I⟩ V).ownsRow b 3 1 v n C:=fun v n C U=>by
  have z:(w.alloc o).drew.ownsRow b 3 1 v n C:=(U.alloc _).drew;exact oB (z.kept F (WI z y (by decide))) (by simp;omega) _
 refine⟨N,O,⟨H.fr x (fun e=>h.ne e.symm),?_,?_,z7 _ _ _ N,fun o=>by simp[O o],?_,?_,TB.snoc (E.keep l) (TB.keep l h.ru),h.gB,h.pB,h.qB,h.ne,?_⟩,?_⟩
 ·refine⟨?_,nL m.lt x.size,m.row.fr x m.lt (by omega)⟩
  rw[cO _ _ _ _ (by simp)];exact m.c0
 ·rw[cO _ _ _ _ (by simp)]
  exact(s.cell (p:=⟨q,1,I⟩) G (t q h.qB.2)).trans h.q1
 ·have z:(w.alloc o).drew.ownsRow b 189 3 D rts.length (Yh rts):=(h.ro.alloc _).drew
  exact oB (z.kept F (WI z y (by decide))) (by simp;omega) _
 ·rw[lA]
  exact oB P (by simp;omega) _
 ·exact z5 h.b2 (z5 s.size x.size)
 exact(s.mono (fun k l=>by have:=u k l;omega)).trans (x.mono (fun k e=>by omega))
def yV (a:Nat->z0)(o:Option (Tk×Tk)):Nat->z0:=
 match o with
 |none=>a
 |some b=>Vp (Vp (Vp a 7 (E true)) 8 (Z Y (Zd b.1))) 9 (Z Y (Zd b.2))
theorem yW {w W B u p q g i v X f f' body o x y rts k z A}(h:O5 w B u p q g i f body o x y rts k z)(a:U2 w W p q X v f' A)(C:rts.length<=7):∃l n m,AX W p q g X body o l n m rts:=by
 obtain⟨l,m,e,b⟩:=On h.ro;have D:q<w.heap.size:=bL w _ h.q1;have E:=h.wt.lt
 have c:g≠p:=by have:=h.gB;have:=h.pB;omega
 have F:=a.xl;refine⟨l,rts.length,m,h.wt.fr a.fr h.ne c,?_,⟨h.ne,c,by omega,by omega,a.ne⟩,⟨rfl,C⟩,fun j r G=>?_⟩
 ·have s:=(a.fr.cell (p:=⟨q,1,I⟩) D h.ne).trans h.q1
  rw[e]at s;exact s
 obtain⟨g3,H,K,t,J⟩:=b j r G
 have d:g3≠p:=by have:=h.pB;omega
 exact⟨g3,H,d,by omega,nL t a.fr.size,(a.fr.cell (p:=⟨g3,j*3,I⟩) t d).trans J⟩
theorem Fr.get {w W:R}(h:F0 w W){p:Addr}{v:z0}(a:w.cell? p=J v):W.cell? p=J v:=(h.cell (bL w _ a)).trans a
theorem Df {P F args u a W Q}(H:∀W,F0 a W->z4 P F args W fun e w'=>e=A u/\F0 W w')(b:F0 a W)(k:∀w',F0 a w'->Q (A u) w'):z4 P F args W Q:=
 (H W b).mono (by rintro e w' ⟨rfl,c⟩;exact k w' (b.trans c))
def AZ (n:Nat):Code->Bool
 | .region m _ _=>m==n
 | .seq a _=>AZ n a
 |_=>false
def I4 (n:Nat):Code->Option Code
 | .seq a b=>if AZ n a then J (.seq a b)else I4 n b
 |_=>I
def vv (f:Func)(n:Nat):Code:=(f.body.bind (I4 n)).getD .skip
set_option maxRecDepth 1000000 in
theorem JD (w B B2 p q g i f body cv vr vl rts g0 xs r j5)(hb:body.length<=3000)(h7:rts.length<=7)(h0:O (O5 w B B2 p q g i f body cv vr vl rts g0 xs))(HA:O (Jw body i r j5))(HQ:O (q≠p/\g≠p))(j0:O (∀W,Fr (fun j=>j=p) w W->BV W q g body cv))(la lc)(X1:O (vl=U la g0.length lc))(n)(HN:O (g0.length=n))(b8)(J2:O (decide (8<=n)=b8))(x4:n<=8)(K2:O (p<w.heap.size))(X fn)(L2:O (fn=Yn r.name.text r.name.line (ZW f b8 6 r.name.line) (g0.map Xa.name)))(x)(W3:O (x=i+1))(f6 y)(M2:O (f6=ZW fn (decide (1000<Zd r.rank)) 5 r.rank.line))(HY:O (y=x+1+1))(v1:Nat)(X3:O (v1=Zd r.rank))(N2)(m0:O (N2=Vp (AY r.name.text) 1 (Z Y v1)))(O2)(s1:Nat)(n0:O (O2=Vp N2 2 (Z Y s1)))(Y1:O (s1=r.bin.1.text.size))(b6)(P2:O (decide (6<s1)=b6))(Z1)(L1:O (Z1=ZW f6 b6 5 r.bin.1.line))(v3:Nat)(c2:O (v3=Zd r.bin.1))(Q2)(o0:O (Q2=Vp O2 3 (Z Y v3)))(z)(HZ:O (z=y+2))(y4:z+3<=3000)(v4:Nat)(d2:O (v4=Zd r.bin.2))(A0)(p0:O (A0=Vp Q2 4 (Z Y v4)))(s2)(R2:O (s2=r.bin.2.text.size))(wc)(hcut:O (U2 w wc p q X (z+2) (ZW Z1 (decide (6<s2)||decide (s2≠s1)||decide (v4<v3)) 5 r.bin.2.line) A0))(u1 u4 u5 u6 u7 u8 u9 u10 u11 u12 u13 u14 u15 u16 u17 u18 u19 u20 u21 u22 u23 u24 u25 u26 u27 u28 u29 u30 u31 u32 u33 u34 u35 u36 u37 u38 u39 u40 u41 u42 u43 u44 u45 u46 u47 u48 u49 u50 u51 u52 u53 u54 u55 u56 u57 u58 u59 u60 u61 u62 u63 u64 u65 u66 u67 u68 u69 u70 u71 u72 u73 u74 u75 u76 u77 u78 u79 u80 u81 u82 u83 u84 u85 u86 u87 u88 u89 u90 u91 u92 u93 u94 u95 u96 u97 u98 u99 u100 u101 u102 u103 u104 u105 u106 u107 u108 u109 u110 u111 u112 u113 u114 u115 u116 u117 u118 u119 u120 u121 u122 u123 u124 u125 u126 u127 u128 u129 u130 u131 u132 u133 u134 u135 u136 u137 u138 u139 u140 u141 u142 u143 u144 u145 u146 u147 u148 u149 u150 u151 u152 u153 u154 u155 u156 u157 u158 u159 u160 u161 u162 u163 u164 u165 u166 u167 u168 u169 u170 u171 u172 u173 u174 u175 u176 u177 u178 u179 u180 u181 u182 u183 u184 u185 u186 u187 u188 u189 u190 u191 u192 u193 u194):
  Code.wp T (vv Tryz.f82 17) (bodyPost T Tryz.f82 fun e w'=>e=A (.tuple #[])/\(∃Y3 c,O5 w' B B2 p q g j5 (Xr rts (g0.map Xa.name) f r) body cv vr Y3 rts (g0++[Vl rts r]) (xs++c))/\Fr (fun j=>B<=j) w w') ⟨#[M (J ⟨p,0,I⟩),u1,M (J ⟨q,0,I⟩),M (J ⟨X,0,I⟩),u4,u5,u6,u7,u8,u9,u10,u11,u12,u13,u14,u15,u16,u17,u18,u19,u20,u21,u22,u23,u24,u25,u26,u27,u28,u29,u30,u31,u32,u33,u34,u35,u36,u37,u38,u39,u40,u41,u42,u43,u44,u45,u46,u47,u48,u49,u50,u51,u52,u53,u54,u55,u56,u57,u58,u59,u60,u61,u62,u63,u64,u65,u66,u67,u68,u69,u70,u71,u72,u73,u74,u75,u76,u77,u78,u79,u80,u81,u82,u83,u84,u85,u86,u87,u88,u89,u90,u91,u92,u93,u94,u95,u96,u97,u98,u99,u100,u101,u102,u103,u104,u105,u106,u107,u108,u109,u110,u111,u112,u113,u114,u115,u116,u117,u118,u119,u120,u121,u122,u123,u124,u125,u126,u127,u128,u129,u130,u131,u132,u133,u134,u135,u136,u137,u138,u139,u140,u141,u142,u143,u144,u145,u146,u147,u148,u149,u150,u151,u152,u153,u154,u155,u156,u157,u158,u159,u160,u161,u162,u163,u164,u165,u166,u167,u168,u169,u170,u171,u172,u173,u174,u175,u176,u177,u178,u179,u180,u181,u182,u183,u184,u185,u186,u187,u188,u189,u190,u191,u192,u193,u194],[]⟩ wc:=by
 obtain⟨ii,hi,S2,T2,V2⟩:=info_parts SV
 conv=>arg 2;whnf
 have q0:=hcut;clear hcut;obtain⟨r0,Q0⟩:∃r0,r0=ZW Z1 (decide (6<s2)||decide (s2≠s1)||decide (v4<v3)) 5 r.bin.2.line:=⟨_,rfl⟩;obtain⟨u,hu⟩:∃u,u=z+2:=⟨_,rfl⟩;rw[<-Q0,<-hu]at q0;have M1:=Za Q0;have HU:=Za hu
 have Z3:u+1<=3000:=by omega
 have s0:O (U2 w (wc.setCell ⟨p,1,I⟩ (Z Y ((u:Int)+1))) p q X (u+1) r0 A0):=by have e:=q0.o.move (u+1);rw[D]at e;exact e
 have c1:=q0.o.wp.c1;have fz:=q0.o.wp.fz;clear Q0 hu;go_wp2_with fail
 have ei:i+8=u+1:=by have:=W3.o;have:=HY.o;have:=HZ.o;have:=HU.o;omega
 obtain⟨a1,W2⟩:∃a1,a1=u+1:=⟨_,rfl⟩;rw[<-W2]at s0
 have X2:O (a1=i+8):=by show _=_;omega
 have Y2:=HA.o.mc;rw[<-X2.o]at Y2;obtain⟨tm,Z2,R0⟩:=Y2;have b4:=Za Z2;obtain⟨qm,b3⟩:∃b,(tm.text.toList==[109,99,99])=b:=⟨_,rfl⟩;rw[b3]at R0;have f2:=Za R0;refine(XC _ p q g a1 r0 body cv tm s0.o.wp (j0.o _ s0.o.fr) b4.o).mono ?_;rintro e c3 ⟨rfl,hf⟩;have d0:=Za (s0.o.look hf);clear hf c1 fz s0 q0 ei W2 Z2 R0 Z3
 go_upto_if 123 with fail
 go_cut [] (fun wx=>∃vm,O (U2 w wx p q X (a1+2*r.mcc.length) (Yd 9999 1 r0 r.mcc) (Vp A0 5 vm))/\O (wx.ownsRow (X+1) 3 1 vm r.mcc.length (Zg (r.mcc.map Zd))))
 case first=>
  cases qm with
  |true=>
   have h2:O (wW body a1 r.mcc):=by rcases f2.o with⟨_,S0⟩|⟨hk,_⟩;exact S0;cases hk
   go_wp2_with fail;refine(I3 c3 p q g a1 r0 body cv r.mcc 9999 _ d0.o.wp (j0.o _ d0.o.fr) HQ.o.1 HQ.o.2 hb h2.o HA.o.dg.2.2.2.1 (by rfl)).mono ?_;rintro e E1 ⟨⟨v,rfl,hO⟩,hP,hF⟩;have T0:=Za (d0.o.call hP hF);have V0:=bL c3 _ (d0.o.xb.cell 0 (by omega));obtain⟨va,vc,rfl⟩:=oL hO;have hs:=T0.o.set (k:=5) (by omega) (U va (r.mcc.map Zd).length vc)
   have B0:(E1.setCell ⟨X,5,I⟩ (U va (r.mcc.map Zd).length vc)).ownsRow (X+1) 3 1 (U va (r.mcc.map Zd).length vc) r.mcc.length (Zg (r.mcc.map Zd)):=by
    have e:=oS (oF hO ((Fr.refl (fun j=>j=X) E1).setCell (p:=⟨X,5,I⟩) (L rfl) (U va (r.mcc.map Zd).length vc)) (fun k e=>by rw[e];exact V0)) (y3 V0);rw[N]at e ⊢;exact e
   obtain⟨ml,W0⟩:∃ml,(r.mcc.map Zd).length=ml:=⟨_,rfl⟩;rw[W0]at hs B0 ⊢;have s:O (U2 w (E1.setCell ⟨X,5,I⟩ (U va ml vc)) p q X (a1+2*r.mcc.length) (Yd 9999 1 r0 r.mcc) (Vp A0 5 (U va ml vc))/\(E1.setCell ⟨X,5,I⟩ (U va ml vc)).ownsRow (X+1) 3 1 (U va ml vc) r.mcc.length (Zg (r.mcc.map Zd))):=⟨hs,B0⟩;have x5:=T0.o.xb.cell 5 (by omega);have xf:=T0.o.xb.fz;clear hs B0 hO hP hF W0;go_wp2_with fail;go_meet
   exact⟨_,s.o.1,s.o.2⟩
  |false=>
   have X0:O (r.mcc=[]):=by rcases f2.o with⟨hk,_⟩|⟨_,Y0⟩;cases hk;exact Y0
   have h5:O (A0 5=U I 0 0):=by show _=_;rw[p0.o,o0.o,n0.o,m0.o];rfl
   go_wp2_with fail;go_meet
   refine⟨U I 0 0,?_,?_⟩
   ·show U2 _ _ _ _ _ _ _ _
    rw[X0.o];have e:=d0.o;exact⟨e.wp,e.xb.congr (fun o _=>by unfold Vp;by_cases h:o=5<;>simp[h,h5.o]),e.fr,e.xl,e.ne⟩
   show z6 _ _ _ _ _ _ _
   rw[X0.o];exact oZ _ _ _ _
 obtain⟨vm,Z0,d3⟩:=hcut;obtain⟨P,b1⟩:∃P,P=Vp A0 5 vm:=⟨_,rfl⟩;obtain⟨c0,d1⟩:∃c0,c0=Yd 9999 1 r0 r.mcc:=⟨_,rfl⟩;obtain⟨a2,i2⟩:∃a2,a2=a1+2*r.mcc.length:=⟨_,rfl⟩;rw[<-b1,<-d1,<-i2]at Z0;have F0:=Za b1;have N1:=Za d1
 have f3:O (a2=i+8+2*r.mcc.length):=by show _=_;rw[i2,X2.o]
 have g3:=HA.o.am;rw[<-f3.o]at g3;obtain⟨ta,j2,l2⟩:=g3;have c4:=Za j2;obtain⟨qa,h3⟩:∃b,(ta.text.toList==[97,109,111,117,110,116])=b:=⟨_,rfl⟩;rw[h3]at l2;have m2:=Za l2
 have r4:a2+4<=3010:=by have:=(iG.1 j2).1;omega
 clear b1 d1 i2 j2 l2 d0 f2 b3;go_wp2_with fail;refine(XC _ p q g a2 c0 body cv ta Z0.o.wp (j0.o _ Z0.o.fr) c4.o).mono ?_;rintro e i3 ⟨rfl,hf⟩;have e0:=Za (Z0.o.look hf);have f1:=Za (oF d3.o hf);clear hf Z0 d3
 go_upto_if 129 with fail
 go_cut [5] (fun _ wx=>O (U2 w wx p q X (a2+St r.amount) (Xb c0 r.amount) (yV P r.amount))/\O (wx.ownsRow (X+1) 3 1 vm r.mcc.length (Zg (r.mcc.map Zd))))
 case first=>
  cases hA:r.amount with
  |none=>
   have hq:qa=false:=by have:=m2.o;rw[hA]at this;exact this
   subst hq;go_wp2_with fail;go_meet
   refine⟨?_,f1⟩
   show U2 _ _ _ _ _ _ _ _
   rw[hA];exact e0.o
  |some Q=>
   have hq:qa=true/\body[a2+1]?=J Q.1/\body[a2+3]?=J Q.2:=by have:=m2.o;rw[hA]at this;exact this
   obtain⟨d4,j3,l3⟩:=hq;subst d4;have f4:=Za j3;have g4:=Za l3;have HD:=Za (HA.o.dg.2.2.2.2.2 Q hA);have h4:=Za hA
   have F1:O (U2 w (i3.setCell ⟨p,1,I⟩ (Z Y ((a2:Int)+1))) p q X (a2+1) c0 P):=by have e:=e0.o.move (a2+1);rw[D]at e;exact e
   have G1:O (U2 w ((i3.setCell ⟨p,1,I⟩ (Z Y ((a2:Int)+1))).setCell ⟨X,7,I⟩ (E true)) p q X (a2+1) c0 (Vp P 7 (E true))):=F1.o.set (by omega) _;have c1:=e0.o.wp.c1;have fz:=e0.o.wp.fz;have x7:=F1.o.xb.cell 7 (by omega);have xf:=F1.o.xb.fz;clear j3 l3 hA;go_wp2_with fail;refine(Md _ p q g (a2+1) c0 body cv Q.1 1000000000 _ _ G1.o.wp (j0.o _ G1.o.fr) HQ.o.1 HQ.o.2 f4.o HD.o.1 (by omega) (by rfl) (by rfl)).mono ?_;rintro e m3 ⟨rfl,hP,hF⟩
   have a0:p<X+1:=by have:=K2.o;have:=e0.o.xl;omega
   obtain⟨t0,g1⟩:∃t0,t0=ZW c0 (decide (1000000000<Zd Q.1)) 5 Q.1.line:=⟨_,rfl⟩;obtain⟨t1,n2⟩:∃t1,t1=a2+1+1:=⟨_,rfl⟩;rw[<-g1,<-n2]at hP;have n3:=Za g1;have o3:=Za n2
   have s4:t1+2<=3010:=by omega
   have G0:=Za (G1.o.call hP hF);have p3:=Za (oF (ownsRow_setCell_below (ownsRow_setCell_below f1.o (by simpa using a0) _) (by simp) _) hF (fun k e=>by rw[e];exact a0));obtain⟨v8,o2⟩:∃v8,v8=Zd Q.1:=⟨_,rfl⟩;rw[<-o2];have p2:=Za o2;have H0:O (U2 w (m3.setCell ⟨X,8,I⟩ (Z Y v8)) p q X t1 t0 (Vp (Vp P 7 (E true)) 8 (Z Y v8))):=G0.o.set (by omega) _
   have I0:O (U2 w ((m3.setCell ⟨X,8,I⟩ (Z Y v8)).setCell ⟨p,1,I⟩ (Z Y ((t1:Int)+1))) p q X (t1+1) t0 (Vp (Vp P 7 (E true)) 8 (Z Y v8))):=by have e:=H0.o.move (t1+1);rw[D]at e;exact e
   clear c1 fz x7 xf;have x8:=G0.o.xb.cell 8 (by omega);have xf:=G0.o.xb.fz;have c1:=H0.o.wp.c1;have fz:=H0.o.wp.fz;clear hP hF g1 n2 o2 F1 G1;go_wp2_with fail
   have O1:O (body[t1+1]?=J Q.2):=by have e:=g4.o;rw[o3.o];exact e
   refine(XC _ p q g (t1+1) t0 body cv Q.2 I0.o.wp (j0.o _ I0.o.fr) O1.o).mono ?_;rintro e r2 ⟨rfl,hf⟩;have J0:=Za (I0.o.look hf);have q3:=Za (oF (oB (oB p3.o (by simp) _) (by simpa using a0) _) hf);clear hf c1 fz x8 xf I0 H0 G0;go_wp2_with fail;refine(UX Q.2.text r2 HD.o.2).mono ?_;rintro e A4 ⟨rfl,he⟩;replace he:=he.symm;subst he;obtain⟨v9,H1⟩:∃v9,v9=Zd Q.2:=⟨_,rfl⟩;rw[show Yu Q.2.text.data.toList=v9 from H1.symm];have r3:=Za H1
   have t4:v9<1000000000:=by rw[H1];exact Wh Q.2 HD.o.2
   have e1:decide ((1000000000:Int)<(v9:Int))=false:=by simp;omega
   obtain⟨bb,v2⟩:∃bb,decide (v9<v8)=bb:=⟨_,rfl⟩
   have s3:decide ((v9:Int)<(v8:Int))=bb:=by rw[<-v2];by_cases hq:v9<v8<;>simp[hq]<;>omega
   have i4:=Za v2;have x8:r2.cell? ⟨X,8,I⟩=J (Z Y v8):=J0.o.xb.cell 8 (by omega);clear H1;go_wp2_with fail;refine(XM _ p q g (t1+1) t0 body cv Q.2 bb 5 _ J0.o.wp (j0.o _ J0.o.fr) HQ.o.1 HQ.o.2 O1.o (by decide) (by rfl)).mono ?_;rintro e w2 ⟨rfl,hP,hF⟩;obtain⟨i1,j1⟩:∃i1,i1=ZW t0 bb 5 Q.2.line:=⟨_,rfl⟩;obtain⟨t2,x2⟩:∃t2,t2=t1+1:=⟨_,rfl⟩;rw[<-j1,<-x2]at hP;have t3:=Za j1;have j4:=Za x2
   have w4:t2+1<=3010:=by omega
   have l1:=Za ((show U2 w r2 p q X (t1+1) t0 _ from J0.o).call hP hF);have w3:=Za (oF q3.o hF (fun k e=>by rw[e];exact a0));have m1:O (U2 w (w2.setCell ⟨X,9,I⟩ (Z Y v9)) p q X t2 i1 (Vp (Vp (Vp P 7 (E true)) 8 (Z Y v8)) 9 (Z Y v9))):=l1.o.set (by omega) _
   have x3:O (U2 w ((w2.setCell ⟨X,9,I⟩ (Z Y v9)).setCell ⟨p,1,I⟩ (Z Y ((t2:Int)+1))) p q X (t2+1) i1 (Vp (Vp (Vp P 7 (E true)) 8 (Z Y v8)) 9 (Z Y v9))):=by have e:=m1.o.move (t2+1);rw[D]at e;exact e
   have z3:O (((w2.setCell ⟨X,9,I⟩ (Z Y v9)).setCell ⟨p,1,I⟩ (Z Y ((t2:Int)+1))).ownsRow (X+1) 3 1 vm r.mcc.length (Zg (r.mcc.map Zd))):=oB (oB w3.o (by simp) _) (by simpa using a0) _;have x9:=l1.o.xb.cell 9 (by omega);have xf:=l1.o.xb.fz;have c1:=m1.o.wp.c1;have fz:=m1.o.wp.fz;clear hP hF j1 x2 x8 v2 s3;go_wp2_with fail;go_meet
   refine⟨?_,z3⟩
   show U2 _ _ _ _ _ _ _ _
   rw[h4.o]
   have e2:Xb c0 (J Q)=i1:=by
    simp only[Xb];rw[t3.o,n3.o,<-r3.o,<-p2.o,show decide (1000000000<v9)=false from by simp;omega,Bool.false_or,i4.o,p2.o]
   have e3:yV P (J Q)=Vp (Vp (Vp P 7 (E true)) 8 (Z Y v8)) 9 (Z Y v9):=by rw[p2.o,r3.o];rfl
   have e4:a2+St (J Q)=t2+1:=by have:=j4.o;have:=o3.o;simp only[St];omega
   rw[e2,e3,e4];exact x3.o
 obtain⟨M0,A3⟩:=hcut;obtain⟨N0,n1⟩:∃N0,N0=yV P r.amount:=⟨_,rfl⟩;obtain⟨C0,o1⟩:∃C0,C0=Xb c0 r.amount:=⟨_,rfl⟩;obtain⟨a3,y2⟩:∃a3,a3=a2+St r.amount:=⟨_,rfl⟩;rw[<-n1,<-o1,<-y2]at M0;have K0:=Za n1;have P1:=Za o1
 have B3:O (a3=i+8+2*r.mcc.length+St r.amount):=by show _=_;rw[y2,f3.o]
 have C3:=HA.o.cu;rw[<-B3.o]at C3;obtain⟨tu,D3,z2⟩:=C3;have l4:=Za D3;obtain⟨qc,E3⟩:∃b,(tu.text.toList==[99,117,114])=b:=⟨_,rfl⟩;rw[E3]at z2;have A2:=Za z2
 have a0:p<X+1:=by have:=K2.o;have:=M0.o.xl;omega
 clear n1 o1 y2 D3 z2 e0 f1 m2 h3;go_wp2_with fail;refine(XC _ p q g a3 C0 body cv tu M0.o.wp (j0.o _ M0.o.fr) l4.o).mono ?_;rintro e F3 ⟨rfl,hf⟩;have f0:=Za (M0.o.look hf);have p1:=Za (oF A3.o hf);clear hf M0 A3
 go_upto_if 172 with fail
 go_cut [] (fun wx=>∃vu,O (U2 w wx p q X (a3+2*r.cur.length) (Yd 999 1 C0 r.cur) (Vp N0 6 vu))/\O (wx.ownsRow (X+1) 3 1 vu r.cur.length (Zg (r.cur.map Zd)))/\O (wx.ownsRow (X+1) 3 1 vm r.mcc.length (Zg (r.mcc.map Zd))))
 case first=>
  cases qc with
  |true=>
   have h2:O (wW body a3 r.cur):=by rcases A2.o with⟨_,S0⟩|⟨hk,_⟩;exact S0;cases hk
   go_wp2_with fail;refine(I3 F3 p q g a3 C0 body cv r.cur 999 _ f0.o.wp (j0.o _ f0.o.fr) HQ.o.1 HQ.o.2 hb h2.o HA.o.dg.2.2.2.2.1 (by rfl)).mono ?_;rintro e O0 ⟨⟨v,rfl,hO⟩,hP,hF⟩;have r1:=Za (f0.o.call hP hF);have V0:=bL F3 _ (f0.o.xb.cell 0 (by omega));obtain⟨va,vc,rfl⟩:=oL hO;have hs:=r1.o.set (k:=6) (by omega) (U va (r.cur.map Zd).length vc)
   have B0:(O0.setCell ⟨X,6,I⟩ (U va (r.cur.map Zd).length vc)).ownsRow (X+1) 3 1 (U va (r.cur.map Zd).length vc) r.cur.length (Zg (r.cur.map Zd)):=by
    have e:=oS (oF hO ((Fr.refl (fun j=>j=X) O0).setCell (p:=⟨X,6,I⟩) (L rfl) (U va (r.cur.map Zd).length vc)) (fun k e=>by rw[e];exact V0)) (y3 V0);rw[N]at e ⊢;exact e
   have C2:(O0.setCell ⟨X,6,I⟩ (U va (r.cur.map Zd).length vc)).ownsRow (X+1) 3 1 vm r.mcc.length (Zg (r.mcc.map Zd)):=oB (oF p1.o hF (fun k e=>by rw[e];exact a0)) (by simp) _;obtain⟨ml,W0⟩:∃ml,(r.cur.map Zd).length=ml:=⟨_,rfl⟩;rw[W0]at hs B0 C2 ⊢;have s:O (U2 w (O0.setCell ⟨X,6,I⟩ (U va ml vc)) p q X (a3+2*r.cur.length) (Yd 999 1 C0 r.cur) (Vp N0 6 (U va ml vc))/\(O0.setCell ⟨X,6,I⟩ (U va ml vc)).ownsRow (X+1) 3 1 (U va ml vc) r.cur.length (Zg (r.cur.map Zd))/\(O0.setCell ⟨X,6,I⟩ (U va ml vc)).ownsRow (X+1) 3 1 vm r.mcc.length (Zg (r.mcc.map Zd))):=⟨hs,B0,C2⟩;have x6:=r1.o.xb.cell 6 (by omega);have xf:=r1.o.xb.fz;clear hs B0 C2 hO hP hF W0;go_wp2_with fail;go_meet
   exact⟨_,s.o.1,s.o.2.1,s.o.2.2⟩
  |false=>
   have X0:O (r.cur=[]):=by rcases A2.o with⟨hk,_⟩|⟨_,Y0⟩;cases hk;exact Y0
   have h6:O (N0 6=U I 0 0):=by show _=_;rw[K0.o,F0.o,p0.o,o0.o,n0.o,m0.o];cases r.amount<;>rfl
   go_wp2_with fail;go_meet
   refine⟨U I 0 0,?_,?_,p1⟩
   ·show U2 _ _ _ _ _ _ _ _
    rw[X0.o];have e:=f0.o;exact⟨e.wp,e.xb.congr (fun o _=>by unfold Vp;by_cases h:o=6<;>simp[h,h6.o]),e.fr,e.xl,e.ne⟩
   show z6 _ _ _ _ _ _ _
   rw[X0.o];exact oZ _ _ _ _
 obtain⟨vu,I1,G3,H3⟩:=hcut;obtain⟨F,x1⟩:∃F,F=Vp N0 6 vu:=⟨_,rfl⟩;obtain⟨l0,y1⟩:∃l0,l0=Yd 999 1 C0 r.cur:=⟨_,rfl⟩;obtain⟨a4,D2⟩:∃a4,a4=a3+2*r.cur.length:=⟨_,rfl⟩;rw[<-x1,<-y1,<-D2]at I1;have A1:=Za x1;have Q1:=Za y1
 have m4:O (a4=i+8+2*r.mcc.length+St r.amount+2*r.cur.length):=by show _=_;rw[D2,B3.o]
 have J1:=HA.o.ac;rw[<-m4.o]at J1
 have J3:a4+1<=3000:=by
  obtain⟨t,ht,_⟩:=J1;have:=(iG.1 ht).1;omega
 have m:O (U2 w (wc.setCell ⟨p,1,I⟩ (Z Y ((a4:Int)+1))) p q X (a4+1) l0 F):=by have e:=I1.o.move (a4+1);rw[D]at e;exact e
 have D0:F 10=U I 0 0/\F 11=E false/\F 12=E false:=by rw[A1.o,K0.o,F0.o,p0.o,o0.o,n0.o,m0.o];cases r.amount<;>exact⟨rfl,rfl,rfl⟩
 have K3:O (z4 T 135 #[M (J ⟨p,0,I⟩),M (J ⟨X,0,I⟩)] (wc.setCell ⟨p,1,I⟩ (Z Y ((a4:Int)+1))) (FL (wc.setCell ⟨p,1,I⟩ (Z Y ((a4:Int)+1))) p q X j5 (Xi rts 1 l0 r.act.routes) F (r.act.routes.map (fun t=>Zz t.text (-1) 0 rts)) r.act.decline r.act.cheapest)):=by
  show z4 _ _ _ _ _
  obtain⟨t,ht,R0⟩:=J1;rcases R0 with⟨ea,hk,ej⟩|⟨ed,n4,o4,i0,ei,S0,ej⟩
  ·rw[ea,ej]
   exact OO _ p q g X (a4+1) l0 body cv F t m.o.wp (j0.o _ m.o.fr) m.o.xb m.o.ne D0.1 D0.2.1 D0.2.2 J3 ht hk
  obtain⟨va,nr,vc,hV⟩:=yW h0.o m.o h7
  rw[ed,ej];exact LC _ p q g X (a4+1) i0 body cv va nr vc rts r.act.routes l0 F r.act.cheapest m.o.wp hV m.o.xb D0.1 D0.2.1 D0.2.2 S0 hb t ht n4 o4 ei
 have c1:=I1.o.wp.c1;have fz:=I1.o.wp.fz;clear x1 y1 D2 J1 D0 f0 p1 A2 E3;go_wp2_with fail;refine K3.o.mono ?_;rintro e d ⟨rfl,hP,⟨vp,hX,hO⟩,hF⟩;have R1:=Za hX;have S1:=Za hO;have T1:=Za hP;have v0:=Za (m.o.fr.monoNew hF (fun k e=>by rcases e with e|e;exact L e;exact y0 (by rw[e];exact m.o.xl)));obtain⟨y7,E2⟩:∃y7,y7=F 7:=⟨_,rfl⟩;obtain⟨y8,F2⟩:∃y8,y8=F 8:=⟨_,rfl⟩;obtain⟨y9,G2⟩:∃y9,y9=F 9:=⟨_,rfl⟩
 have V1:O (d.cell? ⟨X,0,I⟩=J (G r.name.text)/\d.cell? ⟨X,1,I⟩=J (Z Y v1)/\d.cell? ⟨X,2,I⟩=J (Z Y s1)/\d.cell? ⟨X,3,I⟩=J (Z Y v3)/\d.cell? ⟨X,4,I⟩=J (Z Y v4)/\d.cell? ⟨X,5,I⟩=J vm/\d.cell? ⟨X,6,I⟩=J vu/\d.cell? ⟨X,7,I⟩=J y7/\d.cell? ⟨X,8,I⟩=J y8/\d.cell? ⟨X,9,I⟩=J y9/\d.cell? ⟨X,10,I⟩=J vp/\d.cell? ⟨X,11,I⟩=J (E r.act.decline)/\d.cell? ⟨X,12,I⟩=J (E r.act.cheapest)):=by
  have e:=R1.o
  have eq:∀o,(Vp (Vp (Vp F 11 (E r.act.decline)) 12 (E r.act.cheapest)) 10 vp) o=if o=10 then vp else if o=12 then E r.act.cheapest else if o=11 then E r.act.decline else F o:=fun o=>by unfold Vp;rfl
  have lo:∀o,o<7->F o=(Vp (Vp (Vp (Vp (Vp (Vp (AY r.name.text) 1 (Z Y v1)) 2 (Z Y s1)) 3 (Z Y v3)) 4 (Z Y v4)) 5 vm) 6 vu) o:=fun o ho=>by
   rw[A1.o,K0.o,F0.o,p0.o,o0.o,n0.o,m0.o]
   cases r.amount with
   |none=>rfl
   |some Q=>simp only[yV,Vp];(repeat' split)<;>first|rfl|omega
  have c:=fun o ho=>(e.cell o ho).trans (by rw[eq o])
  refine⟨(c 0 (by omega)).trans (by rw[lo 0 (by omega)];rfl),(c 1 (by omega)).trans (by rw[lo 1 (by omega)];rfl),(c 2 (by omega)).trans (by rw[lo 2 (by omega)];rfl),(c 3 (by omega)).trans (by rw[lo 3 (by omega)];rfl),(c 4 (by omega)).trans (by rw[lo 4 (by omega)];rfl),(c 5 (by omega)).trans (by rw[lo 5 (by omega)];rfl),(c 6 (by omega)).trans (by rw[lo 6 (by omega)];rfl),(c 7 (by omega)).trans (by rw[E2];rfl),(c 8 (by omega)).trans (by rw[F2];rfl),(c 9 (by omega)).trans (by rw[G2];rfl),c 10 (by omega),c 11 (by omega),c 12 (by omega)⟩
 have L0:O (O5 d B B2 p q g j5 (Xi rts 1 l0 r.act.routes) body cv vr (U la n lc) rts g0 xs):=by have e:=h0.o.step T1.o v0.o;rw[X1.o,HN.o]at e;exact e
 have B1:O (d.ownsRow B2 170 13 (U la n lc) n xs):=by have e:=L0.o.lo;rw[HN.o]at e;exact e
 have B4:=L0.o.b2
 have C4:X≠q:=by have:=m.o.xl;have:q<w.heap.size:=bL w _ h0.o.q1;omega
 have L3:=bL d _ (R1.o.cell 0 (by omega))
 have W1:B2<=X+1:=by have:=h0.o.b2;have:=m.o.xl;omega
 have M3:O (∀W:R,d.heap.size<=W.heap.size->∀w1,W.grownBy w1 (Value.slice la n lc).ownBlock->(∀o v,W.cell? ⟨X,o,I⟩=J v->w1.cell? ⟨X,o,I⟩=J v)):=fun W hW w1 hg o v hv=>(hg.cell_far ⟨X,o,I⟩ (nL L3 hW) (fun e=>by
  have h1:=h0.o.lo;rw[X1.o,HN.o]at h1;have:=(h1.lt X e.symm).2;have:=m.o.xl
  omega)).trans hv
 have N3:vm.oneCell'=true:=by obtain⟨a,c,e⟩:=oL H3.o;rw[e];rfl
 have O3:vu.oneCell'=true:=by obtain⟨a,c,e⟩:=oL G3.o;rw[e];rfl
 have P3:vp.oneCell'=true:=by obtain⟨a,c,e⟩:=oL S1.o;rw[e];rfl
 have E0:y7=E r.amount.isSome/\y8=Z Y ((r.amount.map fun Q=>(Zd Q.1,Zd Q.2)).getD (0,0)).1/\y9=Z Y ((r.amount.map fun Q=>(Zd Q.1,Zd Q.2)).getD (0,0)).2:=by
  rw[E2,F2,G2,A1.o,K0.o,F0.o,p0.o,o0.o,n0.o,m0.o]
  cases r.amount<;>exact⟨rfl,rfl,rfl⟩
 have K1:y7.oneCell'=true/\y8.oneCell'=true/\y9.oneCell'=true:=by rw[E0.1,E0.2.1,E0.2.2];exact⟨rfl,rfl,rfl⟩
 have Q3:O (∀u,u∈([G r.name.text,Z Y v1,Z Y s1,Z Y v3,Z Y v4,vm,vu,y7,y8,y9,vp,E r.act.decline,E r.act.cheapest]:List z0)->u.oneCell'=true):=fun u hu=>by
  simp only[List.mem_cons,List.not_mem_nil,or_false]at hu
  rcases hu with h|h|h|h|h|h|h|h|h|h|h|h|h<;>subst h<;>first|rfl|exact N3|exact O3|exact P3|exact K1.1|exact K1.2.1|exact K1.2.2
 have R3:O (wk B2 d (Vl rts r) [G r.name.text,Z Y v1,Z Y s1,Z Y v3,Z Y v4,vm,vu,y7,y8,y9,vp,E r.act.decline,E r.act.cheapest]):=by
  refine⟨vm,vu,vp,?_,?_,?_,?_⟩
  ·simp only[Vl]
   rw[E0.1,E0.2.1,E0.2.2,X3.o,Y1.o,c2.o,d2.o];simp
  ·simp only[Vl]
   rw[N];exact oS (oF (oB H3.o (by simpa using a0) _) hF (fun k e=>by rcases e with e|e<;>rw[e];exact a0;omega)) W1
  ·simp only[Vl]
   rw[N];exact oS (oF (oB G3.o (by simpa using a0) _) hF (fun k e=>by rcases e with e|e<;>rw[e];exact a0;omega)) W1
  exact oS S1.o (by have:=m.o.fr.size;have:=h0.o.b2;omega)
 clear E2 F2 G2 E0 K1 N3 O3 P3;clear hP hX hO hF c1 fz
 have q2:d.cell? ⟨q,2,I⟩=J (U la n lc):=by have e:=(h0.o.step T1.o v0.o).q2;rw[X1.o,HN.o]at e;exact e
 have p4:=v0.o.size;go_wp2_with fail;obtain⟨k0,k1,k2,k3,k4,k5,k6,k7,k8,k9,S3,T3,V3⟩:=V1.o;have P0:=Za (fun(W:R)(l:∀o v,d.cell? ⟨X,o,I⟩=J v->W.cell? ⟨X,o,I⟩=J v)=>C (l _ _ k0) (C (l _ _ k1) (C (l _ _ k2) (C (l _ _ k3) (C (l _ _ k4) (C (l _ _ k5) (C (l _ _ k6) (C (l _ _ k7) (C (l _ _ k8) (C (l _ _ k9) (C (l _ _ S3) (C (l _ _ T3) (l _ _ V3)))))))))))));clear k0 k1 k2 k3 k4 k5 k6 k7 k8 k9 S3 T3 V3;refine wp_region_held_drew (S:=fun W=>W.cell? ⟨X,0,I⟩=J (G r.name.text)/\W.cell? ⟨X,1,I⟩=J (Z Y v1)/\W.cell? ⟨X,2,I⟩=J (Z Y s1)/\W.cell? ⟨X,3,I⟩=J (Z Y v3)/\W.cell? ⟨X,4,I⟩=J (Z Y v4)/\W.cell? ⟨X,5,I⟩=J vm/\W.cell? ⟨X,6,I⟩=J vu/\W.cell? ⟨X,7,I⟩=J y7/\W.cell? ⟨X,8,I⟩=J y8/\W.cell? ⟨X,9,I⟩=J y9/\W.cell? ⟨X,10,I⟩=J vp/\W.cell? ⟨X,11,I⟩=J (E r.act.decline)/\W.cell? ⟨X,12,I⟩=J (E r.act.cheapest)) (by kernel_rfl) ?_ (fun hH=>?_)
 ·exact V1.o
 iterate 4 (refine YO 0 hH ?_;try go_frame)
 refine ZX 5 hH ?_
 try go_frame
 refine Xz [4,6] ?_;refine Zb rfl (fun K hK=>?_) ?_
 ·rw[if_pos (by rfl)]
  go_simp;refine hK.out _ _ hH (fun _=>?_);clear hK K
  try go_frame
  refine Vv 6 (fun K hK=>?_);go_simp;refine hK.out _ _ (P0.o _ fun o v hv=>(Lp d _).1.get hv) (fun hH=>?_);clear hK K
  try go_frame
  refine Xz [7] ?_;refine Zb rfl (fun K hK=>?_) AllReadyH.nil;refine step_append_lies _ rfl (.tmp 189) (.tmp 191) 69 rfl B2 170 ii _ 13 152 Tryz.underlying69 hi S2 T2 V2 rfl (by decide) (U la n lc) n xs rfl ?h1a ⟨d.heap.size,0,I⟩ 1 1 [G r.name.text,Z Y v1,Z Y s1,Z Y v3,Z Y v4,vm,vu,y7,y8,y9,vp,E r.act.decline,E r.act.cheapest] rfl rfl ?h2a ?h3a (by decide) ?h4a ?h5a ?h6a _ rfl ?_
  case h1a=>exact(B1.o.alloc _).drew
  case h2a=>exact z1 (aN d (.cells #[G r.name.text,Z Y v1,Z Y s1,Z Y v3,Z Y v4,vm,vu,y7,y8,y9,vp,E r.act.decline,E r.act.cheapest] 170))
  case h3a=>exact Q3.o
  case h4a=>unfold maxLen;omega
  case h5a=>omega
  case h6a=>simp;omega
  intro g2 b0 w1 w0 H _ _;obtain⟨e1,ef,x0⟩:=L0.o.rules (V:=U (J ⟨g2,0,I⟩) (n+1) b0) R3.o H (by rw[HN.o];exact w0);have l:=M3.o _ (by simp) w1 H;have s:=Za x0
  have C1:=P0.o _ fun o v hv=>l o v ((Lp d _).1.get hv)
  have H2:=Za l;clear l x0 H w0 q2;refine hK.out _ _ C1 (fun hH=>?_);clear hK K C1
  try go_frame
  iterate 2 (refine YO 0 hH ?_;try go_frame)
  refine Vv 10 (fun K hK=>?_);go_simp
  have D1:∀o v,w1.cell? ⟨X,o,I⟩=J v->(w1.setCell ⟨q,2,I⟩ (U (J ⟨g2,0,I⟩) (n+1) b0)).cell? ⟨X,o,I⟩=J v:=fun o v hv=>by rw[cO _ _ _ _ (by first|(simp;done)|(simp;omega))];exact hv
  refine hK.out _ _ (P0.o _ fun o v hv=>D1 o v (H2.o o v ((Lp d _).1.get hv))) (fun hH=>?_);clear D1;clear hK K hH
  try go_frame
  refine wpAnyH_done (by kernel_rfl) ?_ _;go_wp2
  go_end0
  refine⟨rfl,⟨U (J ⟨g2,0,I⟩) (n+1) b0,[G r.name.text,Z Y v1,Z Y s1,Z Y v3,Z Y v4,vm,vu,y7,y8,y9,vp,E r.act.decline,E r.act.cheapest],?_⟩,(v0.o.mono (fun k e=>by have:=h0.o.pB;omega)).trans s.o.2⟩;have e:=s.o.1
  have I2:Xi rts 1 l0 r.act.routes=Xr rts (g0.map Xa.name) f r:=by
   unfold Xr;rw[Q1.o,P1.o,N1.o,M1.o,L1.o,M2.o,L2.o,R2.o,d2.o,c2.o,<-P2.o,Y1.o,N,HN.o,J2.o]
  rw[I2]at e;exact e
 refine Zb rfl (fun K hK=>?_) AllReadyH.nil
 rw[if_pos (by rfl)];go_simp;refine hK.out _ _ (P0.o _ fun o v hv=>(Lp d _).1.get hv) (fun hH=>?_);clear hK K
 try go_frame
 refine Vv 4 (fun K hK=>?_)
 have q4:=fun o=>(Lp d o).1.get q2
 go_simp;refine hK.out _ _ hH (fun _=>?_);clear hK K q4
 try go_frame
 refine Xz [7] ?_;refine Zb rfl (fun K hK=>?_) AllReadyH.nil;refine step_append_lies _ rfl (.tmp 189) (.tmp 191) 69 rfl B2 170 ii _ 13 152 Tryz.underlying69 hi S2 T2 V2 rfl (by decide) (U la n lc) n xs rfl ?h1b ⟨d.heap.size,0,I⟩ 1 1 [G r.name.text,Z Y v1,Z Y s1,Z Y v3,Z Y v4,vm,vu,y7,y8,y9,vp,E r.act.decline,E r.act.cheapest] rfl rfl ?h2b ?h3b (by decide) ?h4b ?h5b ?h6b _ rfl ?_
 case h1b=>exact(B1.o.alloc _).drew
 case h2b=>exact z1 (aN d (.cells #[G r.name.text,Z Y v1,Z Y s1,Z Y v3,Z Y v4,vm,vu,y7,y8,y9,vp,E r.act.decline,E r.act.cheapest] 170))
 case h3b=>exact Q3.o
 case h4b=>unfold maxLen;omega
 case h5b=>omega
 case h6b=>simp;omega
 intro g2 b0 w1 w0 H _ _;obtain⟨e1,ef,x0⟩:=L0.o.rules (V:=U (J ⟨g2,0,I⟩) (n+1) b0) R3.o H (by rw[HN.o];exact w0);have l:=M3.o _ (by simp) w1 H;have s:=Za x0
 have C1:=P0.o _ fun o v hv=>l o v ((Lp d _).1.get hv)
 have H2:=Za l;clear l x0 H w0 q2;refine hK.out _ _ C1 (fun hH=>?_);clear hK K C1
 try go_frame
 iterate 2 (refine YO 0 hH ?_;try go_frame)
 refine Vv 10 (fun K hK=>?_);go_simp
 have D1:∀o v,w1.cell? ⟨X,o,I⟩=J v->(w1.setCell ⟨q,2,I⟩ (U (J ⟨g2,0,I⟩) (n+1) b0)).cell? ⟨X,o,I⟩=J v:=fun o v hv=>by rw[cO _ _ _ _ (by first|(simp;done)|(simp;omega))];exact hv
 refine hK.out _ _ (P0.o _ fun o v hv=>D1 o v (H2.o o v ((Lp d _).1.get hv))) (fun hH=>?_);clear D1;clear hK K hH
 try go_frame
 refine wpAnyH_done (by kernel_rfl) ?_ _;go_wp2
 go_end0
 refine⟨rfl,⟨U (J ⟨g2,0,I⟩) (n+1) b0,[G r.name.text,Z Y v1,Z Y s1,Z Y v3,Z Y v4,vm,vu,y7,y8,y9,vp,E r.act.decline,E r.act.cheapest],?_⟩,(v0.o.mono (fun k e=>by have:=h0.o.pB;omega)).trans s.o.2⟩;have e:=s.o.1
 have I2:Xi rts 1 l0 r.act.routes=Xr rts (g0.map Xa.name) f r:=by
  unfold Xr;rw[Q1.o,P1.o,N1.o,M1.o,L1.o,M2.o,L2.o,R2.o,d2.o,c2.o,<-P2.o,Y1.o,N,HN.o,J2.o]
 rw[I2]at e;exact e
