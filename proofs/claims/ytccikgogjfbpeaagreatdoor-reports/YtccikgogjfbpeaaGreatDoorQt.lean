import Derived.Test.YtccikgogjfbpeaaGreatDoorQr
import Derived.Test.YtccikgogjfbpeaaGreatDoorQo
open Option renaming none->I,some->J
open Go.Value renaming int->P,pointer->U,oneCell'->O,slice->E
open Go.IntKind renaming i64->V,i64->H
open Go renaming World->Y,Calls->K
open Go.Ending renaming returned->Z
namespace Go.Proofs.YtccikgogjfbpeaaGreatDoor
set_option maxRecDepth 30000
set_option maxHeartbeats 8000000
open Go.RowKit
def BJ (f:Fa):Nat:=match f with|none=>0|some x=>x.1
def B9 (f:Fa):Nat:=match f with|none=>0|some x=>x.2
def Ag (f:Fa):Prop:=∀x,f=J x->x.1≠0
structure TG (w:Y)(p q i:Nat)(f:Fa):Prop where
 c0:w.cell? ⟨p,0,I⟩=J (U (J ⟨q,0,I⟩))
 c1:w.cell? ⟨p,1,I⟩=J (P V i)
 c2:w.cell? ⟨p,2,I⟩=J (P V (BJ f))
 c3:w.cell? ⟨p,3,I⟩=J (P V (B9 f))
 fz:∀o,w.frozen? ⟨p,o,I⟩=false
 ok:Ag f
structure FZ (w:Y)(q g:Nat)(body:List Tk)(cv:Nat):Prop where
 c0:w.cell? ⟨q,0,I⟩=J (E (J ⟨g,0,I⟩) body.length cv)
 lt:g<w.heap.size
 row:CJ w g body
theorem TG.fr {w w':Y}{p q i:Nat}{f:Fa}{S:Nat->Prop}(h:TG w p q i f)(a:Fr S w w')(b:¬S p):TG w' p q i f:=by
 have c:p<w.heap.size:=bL w _ h.c0;exact⟨(a.cell (p:=⟨p,0,I⟩) c b).trans h.c0,(a.cell (p:=⟨p,1,I⟩) c b).trans h.c1,(a.cell (p:=⟨p,2,I⟩) c b).trans h.c2,(a.cell (p:=⟨p,3,I⟩) c b).trans h.c3,fun o=>(a.frozen (p:=⟨p,o,I⟩) c b).trans (h.fz o),h.ok⟩
theorem FZ.fr {w w':Y}{q g:Nat}{body:List Tk}{b:Nat}{S:Nat->Prop}(h:FZ w q g body b)(a:Fr S w w')(c:¬S q)(d:¬S g):FZ w' q g body b:=by
 have e:q<w.heap.size:=bL w _ h.c0;exact⟨(a.cell (p:=⟨q,0,I⟩) e c).trans h.c0,nL h.lt a.size,h.row.fr a h.lt d⟩
theorem TG.move {w:Y}{p q i:Nat}{f:Fa}(h:TG w p q i f)(k:Nat):TG (w.setCell ⟨p,1,I⟩ (P V k)) p q k f/\Fr (fun j=>j=p) w (w.setCell ⟨p,1,I⟩ (P V k)):=by
 refine⟨⟨?_,?_,?_,?_,fun o=>by simp[h.fz o],h.ok⟩,(Fr.refl (fun j=>j=p) w).setCell (Or.inl rfl) _⟩
 ·rw[cO _ _ _ _ (by simp)];exact h.c0
 ·exact cS _ _ _ h.c1
 ·rw[cO _ _ _ _ (by simp)];exact h.c2
 ·rw[cO _ _ _ _ (by simp)];exact h.c3
theorem TG.note {w:Y}{p q i:Nat}(h:TG w p q i I)(k l:Nat)(a:k≠0):
  TG ((w.setCell ⟨p,2,I⟩ (P V k)).setCell ⟨p,3,I⟩ (P V l)) p q i (J (k,l))/\Fr (fun j=>j=p) w ((w.setCell ⟨p,2,I⟩ (P V k)).setCell ⟨p,3,I⟩ (P V l)):=by
 refine⟨⟨?_,?_,?_,?_,fun o=>by simp[h.fz o],fun x e=>by injection e with e;subst e;exact a⟩,((Fr.refl (fun j=>j=p) w).setCell (p:=⟨p,2,I⟩) (Or.inl rfl) _).setCell (p:=⟨p,3,I⟩) (Or.inl rfl) _⟩
 ·rw[cO _ _ _ _ (by simp),cO _ _ _ _ (by simp)];exact h.c0
 ·rw[cO _ _ _ _ (by simp),cO _ _ _ _ (by simp)];exact h.c1
 ·rw[cO _ _ _ _ (by simp)];exact cS _ _ _ h.c2
 ·exact cS _ _ _ (by rw[cO _ _ _ _ (by simp)];exact h.c3)
theorem Xs (w:Y)(p q g i:Nat)(f:Fa)(body:List Tk)(c:Nat)(t:Tk)(d:TG w p q i f)(h:FZ w q g body c)(a:body[i]?=J t):
  K Tryz.prog 80 #[U (J ⟨p,0,I⟩)] w fun e w'=>e=Z (.string t.text)/\F0 w w':=by
 obtain⟨u,c1,j,k,l,m⟩:=d;obtain⟨v,x,b⟩:=h;obtain⟨y,n,o⟩:=b i t a;have r:i<body.length:=(iG.1 a).1
 have s:(i:Int)<(body.length:Int):=by omega
 clear b a m j k l n o;go_enter Tryz.func80,Tryz.ntmps80;go_wp2_with fail
 go_big_quiet ((fail))
 go_wp2_with fail
 go_big_quiet ((fail))
 go_wp2;go_ret;exact⟨rfl,⟨rfl,rfl,rfl,Nat.le_refl _,fun _ _ _=>rfl⟩⟩
def I3 (w:Y)(p q i:Nat)(f:Fa)(e:Ending)(w':Y):Prop:=e=Z (.tuple #[])/\TG w' p q i f/\Fr (fun j=>j=p) w w'
theorem XA (w:Y)(p q g i:Nat)(f:Fa)(body:List Tk)(B:Nat)(t:Tk)(a:Bool)(k:Nat)(C:Int)(b:TG w p q i f)(r:FZ w q g body B)(e:q≠p)(j:g≠p)(c:body[i]?=J t)(L:k≠0)(s:C=k):
  K Tryz.prog 131 #[U (J ⟨p,0,I⟩),.bool a,P V C] w (I3 w p q i (ZW f a k t.line)):=by
 subst s
 cases a with
 |false=>
  have u:Hid (I3 w p q i (ZW f false k t.line) (Z (.tuple #[])) w):=by
   refine⟨rfl,?_,Fr.refl _ _⟩
   cases f<;>exact b
  clear b r c e j;go_enter Tryz.func131,Tryz.ntmps131;go_wp2
  go_end0
  exact u.o
 |true=>
  cases f with
  |some x=>
   have u:Hid (I3 w p q i (J x) (Z (.tuple #[])) w):=⟨rfl,b,Fr.refl _ _⟩;obtain⟨D,c1,v,l,y,m⟩:=b
   have W:((BJ (J x):Int)==0)=false:=by
    have:=m x rfl;simp[BJ];omega
   generalize BJ (J x)=n at*;clear l c1 r c e j m y;go_enter Tryz.func131,Tryz.ntmps131;go_wp2
   go_end0
   exact u.o
  |none=>
   have M:=Za b;obtain⟨D,c1,v,l,y,m⟩:=b;obtain⟨F,N,G⟩:=r;obtain⟨O,Q,H⟩:=G i t c;have R:i<body.length:=(iG.1 c).1
   have S:(i:Int)<(body.length:Int):=by omega
   have X:(w.setCell ⟨p,2,I⟩ (P V k)).cell? ⟨p,0,I⟩=J (U (J ⟨q,0,I⟩)):=by rw[cO _ _ _ _ (by simp)];exact D
   have e1:(w.setCell ⟨p,2,I⟩ (P V k)).cell? ⟨p,1,I⟩=J (P V i):=by rw[cO _ _ _ _ (by simp)];exact c1
   have e3:(w.setCell ⟨p,2,I⟩ (P V k)).cell? ⟨p,3,I⟩=J (P V (B9 I)):=by rw[cO _ _ _ _ (by simp)];exact l
   have eq:(w.setCell ⟨p,2,I⟩ (P V k)).cell? ⟨q,0,I⟩=J (E (J ⟨g,0,I⟩) body.length B):=by rw[cO _ _ _ _ (fun h=>e (by injection h with d;first|exact d|exact d.symm))];exact F
   have er:(w.setCell ⟨p,2,I⟩ (P V k)).cell? ⟨g,i*3+2,I⟩=J (P V t.line):=by rw[cO _ _ _ _ (fun h=>j (by injection h with d;first|exact d|exact d.symm))];exact H
   have ef:∀o,(w.setCell ⟨p,2,I⟩ (P V k)).frozen? ⟨p,o,I⟩=false:=fun o=>by simp[y o]
   have T:w.cell? ⟨p,2,I⟩=J (P V 0):=v;clear c1 v l m F N G O Q H c e j;go_enter Tryz.func131,Tryz.ntmps131;go_wp2_with fail;generalize z:w.setCell ⟨p,2,I⟩ (P V k)=w1 at*
   go_region
   go_end0
   have A:=M.o.note k t.line L;rw[z]at A;exact⟨rfl,A.1.fr ((Fr.refl (fun _=>False) _).drew) (by simp),A.2.drew⟩
def C4 (w:Y)(p q i v:Nat)(f:Fa)(e:Ending)(w':Y):Prop:=e=Z (P V v)/\TG w' p q i f/\Fr (fun j=>j=p) w w'
theorem Oa (w:Y)(p q g i:Nat)(f:Fa)(body:List Tk)(j:Nat)(t:Tk)(a:Nat)(v x:Int)(y:TG w p q i f)(z:FZ w q g body j)(A:q≠p)(B:g≠p)(C:body[i]?=J t)(D:Dg t.text)(T:i<=4000)(N:v=0)(O:x=a):
  K Tryz.prog 132 #[U (J ⟨p,0,I⟩),P V v,P V x] w (C4 w p q (i+1) (Ze t) (ZW f (decide (a<Ze t)) 5 t.line)):=by
 subst N O;have E:=Za y;have F:=Za z;have G:=Za C;have Q:=Za D;have H:Hid (q≠p/\g≠p):=⟨A,B⟩;clear y z C D A B
 cases R:decide (a<Ze t)
 all_goals
  have S:¬((Ze t:Nat):Int)<0:=by omega
  go_enter Tryz.func132,Tryz.ntmps132;go_wp2_with fail;refine(Xs w p q g i f body j t E.o F.o G.o).mono ?_;rintro e L ⟨rfl,M⟩;have d:=Za M;clear M;go_wp2_with fail;refine(UB t.text L Q.o).mono ?_;rintro e w2 ⟨rfl,k⟩;replace k:=k.symm;subst k;have c:Yt t.text.data.toList=Ze t:=rfl;rw[c];clear c;simp only[decide_eq_true_eq,decide_eq_false_iff_not]at R
  have l:(a:Int)<(Ze t:Int)↔a<Ze t:=by omega
  generalize Ze t=n at*
  first
  |(have m:(a:Int)<(n:Int):=by omega)
  |(have m:¬(a:Int)<(n:Int):=by omega)
  clear l;go_wp2_with fail;refine(XA L p q g i f body j t _ 5 _ (E.o.fr d.o (by simp)) (F.o.fr d.o (by simp) (by simp)) H.o.1 H.o.2 G.o (by decide) (by rfl)).mono ?_;rintro e W ⟨rfl,b,h⟩;have r:=Za b;have s:=Za ((d.o.mono (by simp)).trans h);have c1:=b.c1;have X:=b.fz;clear b h;go_wp2;go_ret;have u:=r.o.move (i+1);rw[Int.natCast_add]at u;exact⟨rfl,u.1,s.o.trans u.2⟩
def BQ (w:Y)(p q i:Nat)(ns:List Nat)(f:Fa)(e:Ending)(w':Y):Prop:=
 (∃v,e=Z v/\w'.ownsRow w.heap.size 3 1 v ns.length (Zg ns))/\TG w' p q i f/\Fr (fun j=>j=p) w w'
theorem CL {j:Nat}{a:Int}{b:Bool}(h:a=((j+1:Nat):Int))(d:decide (4<j+1)=b):decide ((4:Int)<a)=b:=by
 rw[h,<-d];by_cases c:4<j+1
 ·simp[c];omega
 ·simp[c];omega
theorem L5 (w:Y)(p q g i:Nat)(f:Fa)(body:List Tk)(cv:Nat)(l:List Tk)(a:Nat)(i2:Int)(hp:TG w p q i f)(hT:FZ w q g body cv)(hq:q≠p)(hg:g≠p)(hb:body.length<=3000)(hl:C0 body i l)(hd:∀t,t∈l->Dg t.text)(e2:i2=a):
  K Tryz.prog 134 #[U (J ⟨p,0,I⟩),P V i2] w (BQ w p q (i+2*l.length) (l.map Ze) (Yc a 1 f l)):=by
 subst e2;obtain⟨ii,hi,p0,q0,r0⟩:=info_parts YZ;have HP:=Za hp;have HT:=Za hT;have HL:=Za hl;have HD:=Za hd;have v:Hid (q≠p/\g≠p):=⟨hq,hg⟩
 have E0:i+2*l.length<body.length:=by
  obtain⟨t,G,_⟩:=hl.en;exact(iG.1 G).1
 have F0:=hl.ps;clear hp hT hq hg hl hd;go_enter Tryz.func134,Tryz.ntmps134;go_wp2_with fail
 go_loopg [5,6] l.length (fun m o r wr=>∃j E s,j<=l.length/\m=l.length-j/\r=P V ((j+1:Nat):Int)/\Hid (s=(l.take j).map Ze)/\Hid (wr.ownsRow w.heap.size 3 1 o j (Zg s))/\Hid (TG wr p q (i+2*j) E)/\Hid (Fr (fun j=>j=p) w wr)/\Hid (Yc a 1 f l=Yc a (j+1) E (l.drop j)))
 case atStart=>exact⟨0,f,[],Nat.zero_le _,rfl,rfl,rfl,oZ _ _ _ _,HP,Fr.refl _ _,rfl⟩
 case round=>
  obtain⟨j,E,s,hj,rfl,rfl,b0,HO,z,HF,HR⟩:=hrel;have A:=Za (HT.o.fr HF.o v.o.1 v.o.2);have c1:=z.o.c1;have fz:=z.o.fz;by_cases d0:j<l.length
  ·obtain⟨t,G⟩:∃t,l[j]?=J t:=⟨_,gE d0⟩
   have L:Hid (body[i+2*j+1]?=J t):=by
    have:=HL.o.it j t G;rw[show i+1+2*j=i+2*j+1 from by omega]at this;exact this
   have s0:=Za (HD.o t (mG G));have t0:=Za (Pw G)
   have e0:Hid ((l.take (j+1)).map Ze=(l.take j).map Ze++[Ze t]):=by
    show _=_
    rw[List.take_add_one,G,List.map_append];rfl
   clear G;obtain⟨x,B⟩:∃x,x=i+2*j:=⟨_,rfl⟩;obtain⟨r,c⟩:∃r:Int,r=((j+1:Nat):Int):=⟨_,rfl⟩;rw[<-c];rw[<-B]at c1 z L
   have G0:x+2<=3000:=by omega
   have M:=Za B;have f0:=Za c;have H0:H.wrap (r+1)=r+1:=IntWalk.i64_in _ (by omega)
   have N:Hid (∀k,k=p->k<w.heap.size):=fun k e=>by rw[e];exact bL w _ HP.o.c0
   obtain⟨b4,g0⟩:∃b,decide (4<j+1)=b:=⟨_,rfl⟩;have h0:=Za g0;have I0:decide ((4:Int)<r)=b4:=CL f0.o h0.o;clear g0;rcases Nat.eq_zero_or_pos j with Q|Q
   case' inl=>
    have R:(r==1)=true:=by simp;omega
    have h:=Za z;have i0:=Za A;have C:=Za HF;have D:=HO;clear Q B c;go_wp2_with fail
   case' inr=>
    have R:(r==1)=false:=by simp;omega
    obtain⟨tc,S,v0⟩:=HL.o.cm j (by omega) d0;rw[<-B]at S;have HC:=Za S;clear S Q B c;clear c1 fz;go_wp2_with fail;refine(Xs wr p q g x E body cv tc z.o A.o HC.o).mono ?_;rintro e w1 ⟨rfl,y⟩;have C:=Za (HF.o.trans (y.mono (by simp)));have h:=Za (z.o.fr y (by simp));have i0:=Za (A.o.fr y (by simp) (by simp));have D:=Za (oF HO.o y (by simp));clear y;have c1:=h.o.c1;have fz:=h.o.fz;go_wp2_with fail
   all_goals
    have hm:=h.o.move (x+1);rw[Int.natCast_add]at hm;refine(XA _ p q g (x+1) E body cv t b4 6 _ hm.1 (i0.o.fr hm.2 v.o.1 v.o.2) v.o.1 v.o.2 L.o (by decide) (by rfl)).mono ?_;rintro e w3 ⟨rfl,j0,T⟩;have w0:=Za j0;have k0:=Za ((C.o.trans hm.2).trans T);have x0:=Za (oF D.o (hm.2.trans T) N.o);clear j0 T hm;go_wp2_with fail;refine(Oa w3 p q g (x+1) _ body cv t a _ _ w0.o (HT.o.fr k0.o v.o.1 v.o.2) v.o.1 v.o.2 L.o s0.o (by omega) (by rfl) (by rfl)).mono ?_;rintro e w4 ⟨rfl,l0,W⟩;have m0:=Za l0;have n0:=Za (k0.o.trans W);have J0:=n0.o.size;have o0:=Za (oF x0.o W N.o);clear l0 W;obtain⟨n,X⟩:∃n,n=Ze t:=⟨_,rfl⟩;rw[<-X]at m0 e0 ⊢;have y0:=Za X.symm;clear X
    go_wp2_with (at_builtin;refine wpList_append_lies _ rfl (.tmp 31) (.tmp 33) 25 rfl w.heap.size 3 ii _ 1 8 Tryz.underlying25 hi p0 q0 r0 rfl (by decide) u5 j (Zg s) rfl ?h1 ⟨w4.heap.size,0,I⟩ 1 1 [P V n] rfl rfl ?h2 ?h3 (by decide) ?h4 ?h5 ?h6 _ rfl ?h7)
    case h1=>exact o0.o.alloc _
    case h2=>exact World.news_of_block (aN w4 _)
    case h3=>simp[O]
    case h4=>unfold maxLen;omega
    case h5=>omega
    case h6=>first|omega|(simp;omega)
    case h7=>
     intro g2 D0 w5 F d _ _
     have u:∀k,u5.ownBlock=J k->w.heap.size<=k:=fun k Z=>(o0.o.lt k Z).1
     have z0:=Za F;have A0:=Za ((n0.o.alloc _).grown d (fun k Z=>Or.inr (u k Z)));have B0:=Za (m0.o.fr (((Fr.refl (fun k=>u5.ownBlock=J k) w4).alloc _).grown d (fun k Z=>Or.inl Z)) (fun Z=>by have:=u p Z;have:=N.o p rfl;omega));clear d F u;go_wp2;go_roundg (l.length-(j+1))
     case measure=>omega
     case rel=>
      refine⟨j+1,ZW (ZW E b4 6 t.line) (decide (a<n)) 5 t.line,s++[n],by omega,rfl,by rw[f0.o];go_num,?_,?_,?_,A0,?_⟩
      ·show _=_
       rw[b0.o,e0.o]
      ·show World.ownsRow _ _ _ _ _ _ _
       rw[Xl];exact z0.o
      ·show TG _ _ _ _ _
       have e:i+2*(j+1)=x+1+1:=by have:=M.o;omega
       rw[e];exact B0.o
      ·show _=_
       rw[HR.o,t0.o];simp only[Yc];rw[h0.o,y0.o]
  ·obtain⟨te,a0,v0⟩:=HL.o.en
   have ej:j=l.length:=by omega
   rw[<-ej]at a0
   have R:((((j+1:Nat):Int))==1)=false:=by simp;omega
   have HC:=Za a0;clear a0;obtain⟨x,B⟩:∃x,x=i+2*j:=⟨_,rfl⟩;obtain⟨r,c⟩:∃r:Int,r=((j+1:Nat):Int):=⟨_,rfl⟩;rw[<-c]at R ⊢;rw[<-B]at HC z;have M:=Za B;clear c1 fz B c;go_wp2_with fail;refine(Xs wr p q g x E body cv te z.o A.o HC.o).mono ?_;rintro e w1 ⟨rfl,y⟩;have C:=Za (HF.o.trans (y.mono (by simp)));have h:=Za (z.o.fr y (by simp));have D:=Za (oF HO.o y (by simp));clear y;go_wp2;go_ret;refine⟨⟨_,rfl,?_⟩,?_,C.o⟩
   ·have e:=D.o
    rw[b0.o,List.take_of_length_le (by omega)]at e;rw[List.length_map,<-ej];exact e
   ·have e:=h.o
    have e2:E=Yc a 1 f l:=by rw[HR.o,dL (by omega)];rfl
    rw[<-e2,<-ej,<-M.o];exact e
