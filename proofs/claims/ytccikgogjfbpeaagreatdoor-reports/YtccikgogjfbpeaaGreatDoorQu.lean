import Derived.Test.YtccikgogjfbpeaaGreatDoorQt
open Option renaming none->I,some->J
open Go renaming Value->P,World->Z,Calls->z1
open Go.RowKit renaming Hid->Y
open Go.Value renaming slice->U,bool->K,int->H,string->M,pointer->N,oneCell'->F
open Int renaming natCast_add->O
open Go.IntKind renaming i64->E,i64->z2
open List renaming take_of_length_le->D,take_add_one->R,length_map->C
open Or renaming inl->G,inr->z0
open Go.Proofs.Tryz renaming prog->T
open Nat renaming le_trans->L,zero_le->A,zero_add->Q
namespace Go.Proofs.YtccikgogjfbpeaaGreatDoor
set_option maxRecDepth 30000
set_option maxHeartbeats 8000000
open Go.RowKit
def Uo (ns:List Int):List P:=ns.map fun n:Int=>Value.int E n
def CM (base:Nat)(w:Z)(r:Z8)(d:List P):Prop:=
 ∃a b c,d=[M r.name,H E r.rank,H E r.width,H E r.lo,H E r.hi,a,b,K r.am.isSome,H E (r.am.getD (0,0)).1,H E (r.am.getD (0,0)).2,c,K r.decline,K r.cheapest]/\
  w.ownsRow base 3 1 a r.mcc.length (Zg r.mcc)/\w.ownsRow base 3 1 b r.cur.length (Zg r.cur)/\w.ownsRow base 3 1 c r.routes.length (Uo r.routes)
def U4 (base:Nat)(w:Z):List Z8->List P->Prop
 |[],xs=>xs=[]
 |r::rs,xs=>∃c a,xs=c++a/\CM base w r c/\U4 base w rs a
theorem CM.keep {base:Nat}{w w':Z}{r:Z8}{b:List P}(h:CM base w r b)(a:∀v n c,w.ownsRow base 3 1 v n c->w'.ownsRow base 3 1 v n c):CM base w' r b:=by
 obtain⟨d,f,g,e,i,j,k⟩:=h;exact⟨d,f,g,e,a _ _ _ i,a _ _ _ j,a _ _ _ k⟩
theorem U4.keep {base:Nat}{w w':Z}(b:∀v n a,w.ownsRow base 3 1 v n a->w'.ownsRow base 3 1 v n a):∀{rs:List Z8}{a:List P},U4 base w rs a->U4 base w' rs a
 |[],_,h=>h
 |_::_,_,⟨c,rest,e,h1,h2⟩=>⟨c,rest,e,h1.keep b,U4.keep b h2⟩
theorem U4.snoc {base:Nat}{w:Z}{r:Z8}{c:List P}(a:CM base w r c):∀{rs:List Z8}{b:List P},U4 base w rs b->U4 base w (rs++[r]) (b++c)
 |[],_,h=>by
  have f:_=[]:=h;subst f;exact⟨c,[],by simp,a,rfl⟩
 |_::_,_,⟨d,rest,e,h1,h2⟩=>⟨d,rest++c,by rw[e,List.append_assoc],h1,U4.snoc a h2⟩
structure PB (w:Z)(B B2 p q g i:Nat)(f:Fa)(body:List Tk)(cv:Nat)(vr vl:P)(rts:List Zd)(rrs:List Z8)(xs:List P):Prop where
 wp:TG w p q i f
 wt:FZ w q g body cv
 q1:w.cell? ⟨q,1,I⟩=J vr
 q2:w.cell? ⟨q,2,I⟩=J vl
 fq:∀o,w.frozen? ⟨q,o,I⟩=false
 ro:w.ownsRow B2 189 3 vr rts.length (YU rts)
 lo:w.ownsRow B2 170 13 vl rrs.length xs
 ru:U4 B2 w rrs xs
 gB:g<B
 pB:B<=p/\p<B2
 qB:B<=q/\q<B2
 ne:q≠p
 b2:B2<=w.heap.size
theorem PB.step {w w':Z}{B d p q g i s:Nat}{f f':Fa}{body:List Tk}{t:Nat}{u x:P}{b:List Zd}{c:List Z8}{y:List P}(h:PB w B d p q g i f body t u x b c y)(z:TG w' p q s f')(a:Fr (fun j=>j=p) w w'):PB w' B d p q g s f' body t u x b c y:=by
 have l:q<w.heap.size:=bL w _ h.q1
 have m:g≠p:=by have:=h.gB;have:=h.pB;omega
 have r:∀k,k=p->k<d:=fun k e=>by rw[e];exact h.pB.2
 exact⟨z,h.wt.fr a h.ne m,(a.cell (p:=⟨q,1,I⟩) l h.ne).trans h.q1,(a.cell (p:=⟨q,2,I⟩) l h.ne).trans h.q2,fun o=>(a.frozen (p:=⟨q,o,I⟩) l h.ne).trans (h.fq o),
  oF h.ro a r,oF h.lo a r,U4.keep (fun v n C A=>oF A a r) h.ru,h.gB,h.pB,h.qB,h.ne,L h.b2 a.size⟩
theorem PB.routes {w a:Z}{B c p q g i:Nat}{f:Fa}{body:List Tk}{K:Nat}{d C V:P}{b:List Zd}{r:List Z8}{D:List P}{rt:Zd}{o:Obj}(h:PB w B c p q g i f body K d C b r D)(E:(w.alloc o).grownBy a d.ownBlock)(O:a.ownsRow c 189 3 V (b.length+1) (YU b++Sk rt)):
  a.cell? ⟨q,1,I⟩=J d/\(∀o,a.frozen? ⟨q,o,I⟩=false)/\PB (a.setCell ⟨q,1,I⟩ V) B c p q g i f body K V C (b++[rt]) r D/\Fr (fun j=>B<=j) w (a.setCell ⟨q,1,I⟩ V):=by
 have u:∀k,d.ownBlock=J k->c<=k:=fun k m=>(h.ro.lt k m).1
 have s:Fr (fun k=>d.ownBlock=J k) w a:=((Fr.refl (fun k=>d.ownBlock=J k) w).alloc o).grown E (fun k m=>G m)
 have t:∀k,k<c->¬d.ownBlock=J k:=fun k m e=>by have:=u k e;omega
 have F:q<w.heap.size:=bL w _ h.q1;have Q:g<w.heap.size:=h.wt.lt;have R:=h.gB;have S:=h.pB;have T:=h.qB;have M:a.cell? ⟨q,1,I⟩=J d:=(s.cell (p:=⟨q,1,I⟩) F (t q h.qB.2)).trans h.q1
 have N:∀o,a.frozen? ⟨q,o,I⟩=false:=fun o=>(s.frozen (p:=⟨q,o,I⟩) F (t q h.qB.2)).trans (h.fq o)
 have H:=h.wp.fr s (t p h.pB.2);have l:=h.wt.fr s (t q h.qB.2) (t g (by omega));have x:Fr (fun j=>j=q) a (a.setCell ⟨q,1,I⟩ V):=(Fr.refl (fun j=>j=q) a).setCell (p:=⟨q,1,I⟩) (G rfl) _;have y:(w.alloc o).ownsRow c 189 3 d b.length (YU b):=h.ro.alloc _
 have m:∀v n A,w.ownsRow c 3 1 v n A->(a.setCell ⟨q,1,I⟩ V).ownsRow c 3 1 v n A:=fun v n A U=>by
  have z:(w.alloc o).ownsRow c 3 1 v n A:=U.alloc _;exact oB (z.kept E (WW z y (by decide))) (by simp;omega) _
 refine⟨M,N,⟨H.fr x (fun e=>h.ne e.symm),?_,World.cell?_setCell_same _ _ _ M,?_,fun o=>by simp[N o],?_,?_,U4.keep m h.ru,h.gB,h.pB,h.qB,h.ne,?_⟩,?_⟩
 ·refine⟨?_,nL l.lt x.size,l.row.fr x l.lt (by omega)⟩
  rw[cO _ _ _ _ (by simp)];exact l.c0
 ·rw[cO _ _ _ _ (by simp)]
  exact(s.cell (p:=⟨q,2,I⟩) F (t q h.qB.2)).trans h.q2
 ·rw[PU,lA]
  exact oB O (by simp;omega) _
 ·have z:(w.alloc o).ownsRow c 170 13 C r.length D:=h.lo.alloc _
  exact oB (z.kept E (WW z y (by decide))) (by simp;omega) _
 ·exact L h.b2 (L s.size x.size)
 ·exact(s.mono (fun k m=>by have:=u k m;omega)).trans (x.mono (fun k e=>by omega))
theorem Pk (b:ByteArray)(a:Nat)(f:Fa)(c d:List ByteArray):Yn b a f (c++d)=Yn b a (Yn b a f c) d:=by
 induction c generalizing f with
 |nil=>rfl
 |cons x r e=>exact e _
theorem SG {b:ByteArray}{a:Nat}{f:Fa}{l:List ByteArray}{j:Nat}{x:ByteArray}(h:l[j]?=J x):Yn b a f (l.take (j+1))=ZW (Yn b a f (l.take j)) (x.toList==b.toList) 4 a:=by
 rw[R,h,Pk];rfl
theorem Pm:(T.info? 189).map (fun i=>(i.zero,i.size,i.bytes))=J (J (.agg #[M ByteArray.empty,H E 0,H E 0]),3,32):=by kernel_rfl
theorem QT {w:Z}{base:Nat}{v:P}{rs:List Zd}(h:w.ownsRow base 189 3 v rs.length (YU rs)):
  ∃a c,v=U a rs.length c/\∀j r,rs[j]?=J r->∃g,a=J ⟨g,0,I⟩/\base<=g/\g<w.heap.size/\w.cell? ⟨g,j*3,I⟩=J (M r.name):=by
 obtain⟨a,c,e⟩:=oL h;refine⟨a,c,e,fun j r b=>?_⟩
 have f:0<rs.length:=by have:=(iG.1 b).1;omega
 obtain⟨g,cap,d,i,k⟩:=h.form f;rw[e]at d;injection d with l _ m;subst l m;subst e;refine⟨g,rfl,i,k,?_⟩;obtain⟨a,_,_⟩:=U9 rs j r b;have:=h.cells (g:=g) rfl _ _ a
 rwa [Tc,Q]at this
theorem JN (w:Z)(B B2 p q g i:Nat)(f:Fa)(body:List Tk)(z:Nat)(vr vl:P)(a:List Zd)(W:List Z8)(xs:List P)(d s t:Tk)(h:PB w B B2 p q g i f body z vr vl a W xs)(hb:body.length<=3000)(h6:a.length<=6)
  (t1:body[i+1]?=J d)(t2:body[i+2]?=J s)(t3:body[i+3]?=J t)(d2:Dg s.text)(d3:Dg t.text):
  z1 T 81 #[N (J ⟨p,0,I⟩)] w fun e w'=>e=.returned (.tuple #[])/\(∃x0,PB w' B B2 p q g (i+4) (X5 a f ⟨d,s,t⟩) body z x0 vl (a++[⟨d.text,Ze s,Ze t⟩]) W xs)/\Fr (fun j=>B<=j) w w':=by
 obtain⟨ii,hi,y0,z0,A0⟩:=info_parts Pm;have HS:=Za h;have X:=Za t1;have B0:=Za t2;have C0:=Za t3;have HD:Y (Dg s.text/\Dg t.text):=⟨d2,d3⟩;have S0:i+3<body.length:=(iG.1 t3).1;have G:Y (q≠p/\g≠p):=⟨h.ne,by have:=h.gB;have:=h.pB;omega⟩;obtain⟨va,vc,rfl,K⟩:=QT h.ro;have e0:=Za K;obtain⟨n,hn⟩:∃n,a.length=n:=⟨_,rfl⟩;have HN:=Za hn
 have c:Y (PB w B B2 p q g i f body z (U va n vc) vl a W xs):=by rw[<-hn];exact h
 obtain⟨b6,f0⟩:∃b,decide (6<=n)=b:=⟨_,rfl⟩
 have R0:decide ((6:Int)<=(n:Int))=b6:=by rw[<-f0];by_cases hq:6<=n<;>simp[hq]<;>omega
 have D0:=Za f0
 have T0:n<=6:=by omega
 have c0:=h.wp.c0;have c1:=h.wp.c1;have fz:=h.wp.fz;have q1:=c.o.q1;have l:=h.wp.move (i+1);rw[O]at l;have u:=Za l;have E0:(w.setCell ⟨p,1,I⟩ (H E ((i:Int)+1))).cell? ⟨q,1,I⟩=J (U va n vc):=(c.o.step l.1 l.2).q1;clear h t1 t2 t3 d2 d3 K hn HS l;go_enter Tryz.func81,Tryz.ntmps81;go_wp2_with fail;refine(XA _ p q g (i+1) f body z d _ 6 _ u.o.1 (c.o.step u.o.1 u.o.2).wt G.o.1 G.o.2 X.o (by decide) (by rfl)).mono ?_;rintro e w3 ⟨rfl,g0,h0⟩;have a0:=Za g0;have i0:=Za (u.o.2.trans h0);have F0:=Za ((c.o.step a0.o i0.o).wt);clear g0 h0 c0 c1 fz q1 E0;go_wp2_with fail;refine(Xs w3 p q g (i+1) _ body z d a0.o F0.o X.o).mono ?_;rintro e w4 ⟨rfl,hf⟩;have G0:=Za (a0.o.fr hf (by simp));have H0:=Za (i0.o.trans (hf.mono (by simp)));clear hf;go_wp2_with fail
 go_loopg [4] n (fun m o wr=>∃j,j<=n/\m=n-j/\o=H E (j:Nat)/\Y (TG wr p q (i+1) (Yn d.text d.line (ZW f b6 6 d.line) ((a.map Zd.name).take j)))/\Y (Fr (fun j=>j=p) w wr))
 case atStart=>exact⟨0,A _,rfl,rfl,G0,H0⟩
 case round=>
  obtain⟨j,hj,rfl,rfl,HW,HF⟩:=hrel;have j0:=Za (c.o.step HW.o HF.o);have q1:=j0.o.q1;by_cases V0:j<n
  ·obtain⟨x,hx⟩:∃x,a[j]?=J x:=⟨_,gE (by have:=HN.o;omega)⟩
   obtain⟨g3,rfl,W0,I0,r0⟩:=e0.o j x hx;rw[<-HF.o.cell (p:=⟨g3,j*3,I⟩) I0 (by have:=c.o.pB;simp;omega)]at r0
   have J0:Y ((a.map Zd.name)[j]?=J x.name):=by show _=_;rw[List.getElem?_map,hx];rfl
   obtain⟨bx,K0⟩:∃b,(x.name.toList==d.text.toList)=b:=⟨_,rfl⟩;have L0:=Za K0
   have M0:(j:Int)<(n:Int):=by omega
   clear hx;go_wp2_with fail;refine(XA _ p q g (i+1) _ body z d bx 4 _ HW.o j0.o.wt G.o.1 G.o.2 X.o (by decide) (by rfl)).mono ?_;rintro e w5 ⟨rfl,k0,l0⟩;have N0:=Za k0;have O0:=Za (HF.o.trans l0);clear k0 l0 q1 r0;go_wp2;go_roundg (n-(j+1))
   case measure=>omega
   case rel=>
    refine⟨j+1,by omega,rfl,by go_num,?_,O0⟩
    show TG _ _ _ _ _
    rw[SG J0.o,L0.o];exact N0.o
  ·have M0:¬(j:Int)<(n:Int):=by omega
   have ej:j=n:=by omega
   have v:Y (TG wr p q (i+1) (Yn d.text d.line (ZW f b6 6 d.line) (a.map Zd.name))):=by
    have e:=HW.o;rw[D (by rw[C];have:=HN.o;omega)]at e;exact e
   obtain⟨fn,b0⟩:∃fn,fn=Yn d.text d.line (ZW f b6 6 d.line) (a.map Zd.name):=⟨_,rfl⟩;rw[<-b0]at v;have P0:=Za b0;have c1:=v.o.c1;have fz:=v.o.fz;have hm:=v.o.move (i+1+1);rw[O (i+1)]at hm;have HM:=Za hm;clear hm HW b0 ej;obtain⟨x,hx⟩:∃x,x=i+1:=⟨_,rfl⟩;have d0:=Za hx;rw[<-hx]at c1 HM
   have X0:x+3<=3000:=by omega
   clear hx;go_wp2_with fail
   have m0:Y (body[x+1]?=J s):=by have:=B0.o;rw[d0.o];exact this
   have n0:Y (body[x+1+1]?=J t):=by have:=C0.o;rw[d0.o];exact this
   refine(Oa _ p q g (x+1) fn body z s 1000000 _ _ HM.o.1 ((c.o.step HM.o.1 (HF.o.trans HM.o.2)).wt) G.o.1 G.o.2 m0.o HD.o.1 (by omega) (by rfl) (by rfl)).mono ?_;rintro e w6 ⟨rfl,o0,p0⟩;have q0:=Za o0;have s0:=Za ((HF.o.trans HM.o.2).trans p0);clear o0 p0 c1 fz;go_wp2_with fail;refine(Oa _ p q g (x+1+1) _ body z t 1000 _ _ q0.o ((c.o.step q0.o s0.o).wt) G.o.1 G.o.2 n0.o HD.o.2 (by omega) (by rfl) (by rfl)).mono ?_;rintro e w7 ⟨rfl,t0,v0⟩;have Q0:=Za t0;have w0:=Za (s0.o.trans v0);have y:=Za (c.o.step Q0.o w0.o);have q1:=y.o.q1;have Y0:=y.o.b2;clear t0 v0
   go_wp2_with (at_builtin;refine wpList_append_lies _ rfl (.tmp 64) (.tmp 69) 68 rfl B2 189 ii _ 3 32 Tryz.underlying68 hi y0 z0 A0 rfl (by decide) (U va n vc) n (YU a) rfl ?h1 ⟨w7.heap.size,0,I⟩ 1 1 [M d.text,H E (Ze s),H E (Ze t)] rfl rfl ?h2 ?h3 (by decide) ?h4 ?h5 ?h6 _ rfl ?h7)
   case h1=>have e:=y.o.ro;rw[HN.o]at e;exact e.alloc _
   try case h2=>exact World.news_of_block (aN w7 (.cells #[M d.text,H E (Ze s),H E (Ze t)] 189))
   case h3=>simp[F]
   case h4=>unfold maxLen;omega
   case h5=>omega
   case h6=>first|omega|(simp;omega)
   case h7=>
    intro g2 L w8 Q r _ _;obtain⟨e1,ef,R⟩:=y.o.routes (rt:=⟨d.text,Ze s,Ze t⟩) (V:=U (J ⟨g2,0,I⟩) (n+1) L) r (by rw[HN.o];exact Q);have S:=Za R;clear R r Q q1;go_wp2
    go_end0
    refine⟨rfl,⟨U (J ⟨g2,0,I⟩) (n+1) L,?_⟩,(w0.o.mono (fun k e=>by have:=c.o.pB;omega)).trans S.o.2⟩;have e:=S.o.1;rw[d0.o]at e;unfold X5;rw[HN.o,D0.o];rw[P0.o]at e;exact e
structure XB (w:Z)(X:Nat)(cs:Nat->P):Prop where
 cell:∀o,o<13->w.cell? ⟨X,o,I⟩=J (cs o)
 fz:∀o,w.frozen? ⟨X,o,I⟩=false
def WU (a:Nat->P)(k:Nat)(v:P):Nat->P:=fun o=>if o=k then v else a o
theorem XB.set {w:Z}{X:Nat}{a:Nat->P}(h:XB w X a){k:Nat}(c:k<13)(v:P):XB (w.setCell ⟨X,k,I⟩ v) X (WU a k v)/\Fr (fun j=>j=X) w (w.setCell ⟨X,k,I⟩ v):=by
 refine⟨⟨fun o b=>?_,fun o=>by simp[h.fz o]⟩,(Fr.refl (fun j=>j=X) w).setCell (p:=⟨X,k,I⟩) (G rfl) _⟩;unfold WU;by_cases e:o=k
 ·subst e
  rw[if_pos rfl];exact cS _ _ _ (h.cell o b)
 ·rw[if_neg e,cO _ _ _ _ (by simp)]
  exact h.cell o b
theorem XB.fr {w w':Z}{X:Nat}{a:Nat->P}{S:Nat->Prop}(h:XB w X a)(b:Fr S w w')(c:¬S X):XB w' X a:=by
 have d:X<w.heap.size:=bL w _ (h.cell 0 (by omega));exact⟨fun o e=>(b.cell (p:=⟨X,o,I⟩) d c).trans (h.cell o e),fun o=>(b.frozen (p:=⟨X,o,I⟩) d c).trans (h.fz o)⟩
theorem Ob (b:ByteArray)(l:List Zd):∀(i:Nat)(a:Int)(x:Zd),ZB b a i (l++[x])=if(x.name.toList==b.toList)=true then((i+l.length:Nat):Int)else ZB b a i l:=by
 induction l with
 |nil=>intro i a x;simp[ZB]
 |cons y r c=>
  intro i a x;simp only[List.cons_append,ZB];rw[c (i+1)];simp only[List.length_cons];rw[show i+1+r.length=i+(r.length+1)from by omega]
theorem Oc {a:ByteArray}{l:List Zd}{j:Nat}{x:Zd}(h:l[j]?=J x):ZB a (-1) 0 (l.take (j+1))=if(x.name.toList==a.toList)=true then(j:Int)else ZB a (-1) 0 (l.take j):=by
 have b:=(iG.1 h).1;rw[R,h]
 show ZB a (-1) 0 (l.take j++[x])=_
 rw[Ob,List.length_take,Q,Nat.min_eq_left (by omega)]
theorem M4 (ns:List Int)(n:Int):Uo (ns++[n])=Uo ns++[H E n]:=by simp[Uo]
def JO (w:Z)(p q X i:Nat)(f:Fa)(c:Nat->P)(a:List Int)(d g:Bool)(e:Ending)(w':Z):Prop:=
 e=.returned (.tuple #[])/\TG w' p q i f/\(∃b,XB w' X (WU (WU (WU c 11 (K d)) 12 (K g)) 10 b)/\w'.ownsRow w.heap.size 3 1 b a.length (Uo a))/\Fr (fun j=>j=p\/j=X) w w'
theorem Pn (w:Z)(p q g X i:Nat)(f:Fa)(body:List Tk)(z:Nat)(a:Nat->P)(t:Tk)(u:TG w p q i f)(A:FZ w q g body z)(B:XB w X a)(C:X≠p)(d:a 10=U I 0 0)(h:a 11=K false)(j:a 12=K false)(W:i<=3000)
  (D:body[i]?=J t)(hk:(t.text.toList==[100,101,99,108,105,110,101])=true):
  z1 T 135 #[N (J ⟨p,0,I⟩),N (J ⟨X,0,I⟩)] w (JO w p q X (i+1) f a [] true false):=by
 have L:=Za u;have M:=Za B;have Q:Y (a 10=U I 0 0/\a 11=K false/\a 12=K false):=⟨d,h,j⟩;have E:=Za C;have R:=Za (Xs w p q g i f body z t u A D);clear u A B d h j D C;go_enter Tryz.func135,Tryz.ntmps135;go_wp2_with fail;refine R.o.mono ?_;rintro e w1 ⟨rfl,r⟩;have v:=Za r;have b:=Za (M.o.fr r (by simp));have x:=Za (L.o.fr r (by simp));clear r;have y:=b.o.set (k:=11) (by omega) (K true);have F:=Za y;have c:=Za (x.o.fr y.2 (fun e=>E.o e.symm));have S:=b.o.cell 11 (by omega);have xf:=b.o.fz;have c1:=c.o.c1;have fz:=c.o.fz;clear y;go_wp2
 go_end0
 have s:=c.o.move (i+1);rw[O]at s;refine⟨rfl,s.1,⟨U I 0 0,?_,oZ _ _ _ _⟩,?_⟩
 ·have e:=F.o.1.fr s.2 E.o
  refine⟨fun o V=>(e.cell o V).trans ?_,e.fz⟩;have H:=Q.o;unfold WU;by_cases l:o=10
  ·subst l;simp[H.1]
  ·by_cases m:o=11
   ·subst m;simp
   ·by_cases n:o=12
    ·subst n;simp[H.2.2]
    ·simp[l,m,n]
 ·exact((v.o.mono (by simp)).trans (F.o.2.mono (fun k e=>z0 e))).trans (s.2.mono (fun k e=>G e))
theorem XB.congr {w:Z}{X:Nat}{a b:Nat->P}(h:XB w X a)(e:∀o,o<13->a o=b o):XB w X b:=⟨fun o c=>(h.cell o c).trans (by rw[e o c]),h.fz⟩
structure Ey (w:Z)(p q g X:Nat)(body:List Tk)(cv:Nat)(va:Option Addr)(n vc:Nat)(rts:List Zd):Prop where
 wt:FZ w q g body cv
 q1:w.cell? ⟨q,1,I⟩=J (U va n vc)
 n1:q≠p/\g≠p/\q≠X/\g≠X/\X≠p
 ln:rts.length=n/\n<=7
 row:∀j r,rts[j]?=J r->∃g3,va=J ⟨g3,0,I⟩/\g3≠p/\g3≠X/\g3<w.heap.size/\w.cell? ⟨g3,j*3,I⟩=J (M r.name)
theorem Ey.fr {w w':Z}{p q g X:Nat}{body:List Tk}{c:Nat}{d:Option Addr}{n f:Nat}{a:List Zd}(h:Ey w p q g X body c d n f a)(b:Fr (fun j=>j=p\/j=X) w w'):Ey w' p q g X body c d n f a:=by
 obtain⟨i,n2,k,t,y⟩:=h.n1;have u:q<w.heap.size:=bL w _ h.q1;refine⟨h.wt.fr b (by simp[i,k]) (by simp[n2,t]),(b.cell (p:=⟨q,1,I⟩) u (by simp[i,k])).trans h.q1,h.n1,h.ln,fun j r v=>?_⟩;obtain⟨l,e,m,o,s,x⟩:=h.row j r v;exact⟨l,e,m,o,Nat.lt_of_lt_of_le s b.size,(b.cell (p:=⟨l,j*3,I⟩) s (by simp[m,o])).trans x⟩
theorem Fr.no {S:Nat->Prop}{w w':Z}(h:F0 w w'):Fr S w w':=h.mono (by simp)
theorem GJ (a:Nat->P)(k:Nat)(u v:P):WU (WU a k u) k v=WU a k v:=by
 funext o
 unfold WU
 by_cases h:o=k<;>simp[h]
theorem Nx (w:Z)(p q g X i v:Nat)(body:List Tk)(cv:Nat)(va:Option Addr)(n vc:Nat)(a:List Zd)(l:List Tk)(f:Fa)(cs:Nat->P)(ch:Bool)
  (hp:TG w p q i f)(hv:Ey w p q g X body cv va n vc a)(hx:XB w X cs)(P0:cs 10=U I 0 0)(Q0:cs 11=K false)(R0:cs 12=K false)(hl:C0 body v l)(hb:body.length<=3000)
  (t0:Tk)(w0:body[i]?=J t0)(h0:(t0.text.toList==[100,101,99,108,105,110,101])=false)(m2:(t0.text.toList==[99,104,101,97,112,101,115,116])=ch)(hi:i=if ch then v else v+1):
  z1 T 135 #[N (J ⟨p,0,I⟩),N (J ⟨X,0,I⟩)] w (JO w p q X (v+2*l.length) (Y9 a 1 f l) cs (l.map (fun t=>ZB t.text (-1) 0 a)) false ch):=by
 obtain⟨ii,A1,B1,C1,D1⟩:=info_parts YZ;have HP:=Za hp;have HV:=Za hv;have HX:=Za hx;have HL:=Za hl;have H1:Y (cs 10=U I 0 0/\cs 11=K false/\cs 12=K false):=⟨P0,Q0,R0⟩;have HN:=Za hv.n1.2.2.2.2;have d0:=Za (bL w _ hp.c0);have S0:=Za (bL w _ (hx.cell 0 (by omega)));have T0:=Za w0;have HI:=Za hi;have n2:i<body.length:=(iG.1 w0).1;have o2:=hl.ps
 have p2:v+2*l.length<body.length:=by
  obtain⟨t,ht,_⟩:=hl.en;exact(iG.1 ht).1
 clear hp hv hx P0 Q0 R0 hl w0 hi;go_enter Tryz.func135,Tryz.ntmps135;go_wp2_with fail;refine(Xs w p q g i f body cv t0 HP.o HV.o.wt T0.o).mono ?_;rintro e w1 ⟨rfl,d⟩;have j0:=Za d;clear d;go_wp2_with fail;refine(Xs w1 p q g i f body cv t0 (HP.o.fr j0.o (by simp)) (HV.o.fr j0.o.no).wt T0.o).mono ?_;rintro e w2 ⟨rfl,d⟩;have c:=Za (j0.o.trans d);clear d j0
 go_upto_if 22 with fail
 go_cut [] (fun wc=>Y (TG wc p q (v+1) f)/\Y (XB wc X (WU cs 12 (K ch)))/\Y (Fr (fun j=>j=p\/j=X) w wc))
 case first=>
  cases ch with
  |false=>
   have x0:Y (TG w2 p q (v+1) f):=by have e:=HP.o.fr c.o (by simp);rw[HI.o]at e;exact e
   go_wp2_with fail;go_meet
   case rel=>exact⟨x0,(HX.o.fr c.o (by simp)).congr (fun o _=>by unfold WU;by_cases h:o=12<;>simp[h,H1.o.2.2]),c.o.no⟩
  |true=>
   have x0:Y (TG w2 p q v f):=by have e:=HP.o.fr c.o (by simp);rw[HI.o]at e;exact e
   have hs:=(HX.o.fr c.o (by simp)).set (k:=12) (by omega) (K true);have HS:=Za hs;have z:=Za (x0.o.fr hs.2 (fun e=>HN.o e.symm));have q2:=(HX.o.fr c.o (by simp)).cell 12 (by omega);have xf:=(HX.o.fr c.o (by simp)).fz;have c1:=z.o.c1;have fz:=z.o.fz;clear hs;go_wp2_with fail;go_meet
   case rel=>
    have u:=z.o.move (v+1);rw[O]at u;exact⟨u.1,HS.o.1.fr u.2 HN.o,(c.o.no.trans (HS.o.2.mono (fun k e=>z0 e))).trans (u.2.mono (fun k e=>G e))⟩
 case rest=>
  obtain⟨E1,V0,F1⟩:=hcut;obtain⟨ds,l0⟩:∃ds,ds=WU cs 12 (K ch):=⟨_,rfl⟩;rw[<-l0]at V0;have G1:=Za l0
  have W0:Y (ds 10=U I 0 0):=by show _=_;rw[l0];unfold WU;simp[H1.o.1]
  clear l0;go_wp2_with fail
  go_loopg [4] l.length (fun m ko wr=>∃j fj e0 vp,j<=l.length/\m=l.length-j/\ko=H E ((j+1:Nat):Int)/\Y (e0=(l.take j).map (fun t=>ZB t.text (-1) 0 a))/\Y (XB wr X (WU ds 10 vp))/\Y (wr.ownsRow w.heap.size 3 1 vp j (Uo e0))/\Y (TG wr p q (if j=0 then v+1 else v+2*j) fj)/\Y (Fr (fun j=>j=p\/j=X) w wr)/\Y (Y9 a 1 f l=Y9 a (j+1) fj (l.drop j)))
  case atStart=>exact⟨0,f,[],U I 0 0,A _,rfl,rfl,rfl,V0.o.congr (fun o _=>by unfold WU;by_cases h:o=10<;>simp[h,W0.o]),World.ownsRow_nil _ _ _ _,E1,F1,rfl⟩
  case round=>
   obtain⟨j,fj,e0,vp,hj,r2,rfl,X0,y0,A0,B0,b0,HR⟩:=hrel;by_cases Y0:j<l.length
   ·obtain⟨t,ht⟩:∃t,l[j]?=J t:=⟨_,gE Y0⟩
    obtain⟨x,hx⟩:∃x,x=v+2*j:=⟨_,rfl⟩;obtain⟨kk,B⟩:∃kk:Int,kk=((j+1:Nat):Int):=⟨_,rfl⟩;rw[<-B]
    have D0:Y (body[x+1]?=J t):=by
     have:=HL.o.it j t ht;rw[show v+1+2*j=x+1 from by omega]at this;exact this
    have I1:=Za (Pw ht)
    have J1:Y ((l.take (j+1)).map (fun t=>ZB t.text (-1) 0 a)=(l.take j).map (fun t=>ZB t.text (-1) 0 a)++[ZB t.text (-1) 0 a]):=by
     show _=_
     rw[R,ht,List.map_append];rfl
    have s2:x+2<=3000:=by omega
    have f0:=Za hx;have Z0:=Za B;have t2:z2.wrap (kk+1)=kk+1:=IntWalk.i64_in _ (by omega);obtain⟨b4,a1⟩:∃b,decide (4<j+1)=b:=⟨_,rfl⟩;have b1:=Za a1;have v2:decide ((4:Int)<kk)=b4:=CL Z0.o b1.o;clear a1 c;rcases Nat.eq_zero_or_pos j with g0|g0
    case' inl=>
     have h0:(kk==1)=true:=by simp;omega
     have d1:decide ((1:Int)<kk)=false:=by simp;omega
     have e1:Y (TG wr p q (x+1) fj):=by have e:=B0.o;rw[if_pos g0]at e;rw[f0.o,g0];exact e
     have c:=b0;have f1:=y0;have g1:=A0;have i1:=Za (HV.o.fr b0.o);clear g0 hx B ht;go_wp2_with fail
    case' inr=>
     have h0:(kk==1)=false:=by simp;omega
     obtain⟨tc,E0,K1⟩:=HL.o.cm j (by omega) Y0;rw[<-hx]at E0;have HC:=Za E0
     have r:Y (TG wr p q x fj):=by have e:=B0.o;rw[if_neg (by omega)]at e;rw[f0.o];exact e
     have d1:decide ((1:Int)<kk)=true:=by simp;omega
     clear E0 g0 hx B ht;go_wp2_with fail;refine(Xs wr p q g x fj body cv tc r.o (HV.o.fr b0.o).wt HC.o).mono ?_;rintro e w1 ⟨rfl,d⟩;have G0:=Za (r.o.fr d (by simp));have L1:=Za (b0.o.trans d.no);have M1:=Za (y0.o.fr d (by simp));have N1:=Za (oF A0.o d (by simp));have c1:=G0.o.c1;have fz:=G0.o.fz;have u:=G0.o.move (x+1);rw[O]at u;have e1:=Za u.1;have c:=Za (L1.o.trans (u.2.mono (fun k e=>G e)));have f1:=Za (M1.o.fr u.2 HN.o);have g1:=Za (oF N1.o u.2 (fun k e=>by rw[e];exact d0.o));have i1:=Za (HV.o.fr c.o);clear d u;go_wp2_with fail
    all_goals
     refine(XA _ p q g (x+1) fj body cv t b4 6 _ e1.o i1.o.wt HV.o.n1.1 HV.o.n1.2.1 D0.o (by decide) (by rfl)).mono ?_;rintro e w3 ⟨rfl,j1,m0⟩;have O1:=Za j1;have n0:=Za (c.o.trans (m0.mono (fun k e=>G e)));have H0:=Za (f1.o.fr m0 HN.o);have I0:=Za (oF g1.o m0 (fun k e=>by rw[e];exact d0.o));have l1:=Za (HV.o.fr n0.o);clear j1 m0;have x2:n<=7:=l1.o.ln.2;go_wp2_with fail
     go_loopg [5,6] n (fun m fo ix wi=>∃b,b<=n/\m=n-b/\ix=H E (b:Nat)/\(∃lp,fo=H E lp/\Y (lp=ZB t.text (-1) 0 (a.take b)))/\Y (F0 w3 wi))
     case atStart=>exact⟨0,A _,rfl,rfl,⟨-1,rfl,rfl⟩,Fr.refl _ _⟩
     case round=>
      obtain⟨b,y2,P1,rfl,⟨lp,rfl,J0⟩,L⟩:=hrel;have o0:=Za (O1.o.fr L.o (by simp));have Q:=Za (l1.o.fr L.o.no);have c0:=o0.o.c0;have q1:=Q.o.q1;by_cases j2:b<n
      ·obtain⟨y,hy⟩:∃y,a[b]?=J y:=⟨_,gE (by have:=Q.o.ln.1;omega)⟩
       obtain⟨g3,K0,A2,B2,Q1,r0⟩:=Q.o.row b y hy;have R1:=Za K0;rw[K0]at q1;have m1:Y (ZB t.text (-1) 0 (a.take (b+1))=if(y.name.toList==t.text.toList)=true then(b:Int)else ZB t.text (-1) 0 (a.take b)):=Oc hy;obtain⟨bx,S1⟩:∃bx,(y.name.toList==t.text.toList)=bx:=⟨_,rfl⟩;have o1:=Za S1
       have T1:(b:Int)<(n:Int):=by omega
       have L0:Y (∀W,F0 wr W->W.cell? ⟨p,0,I⟩=J (N (J ⟨q,0,I⟩))/\W.cell? ⟨q,1,I⟩=J (U (J ⟨g3,0,I⟩) n vc)/\W.cell? ⟨g3,b*3,I⟩=J (M y.name)):=fun W hW=>⟨(o0.o.fr hW (by simp)).c0,by have e:=(Q.o.fr hW.no).q1;rw[R1.o]at e;exact e,(hW.cell (p:=⟨g3,b*3,I⟩) Q1 (by simp)).trans r0⟩
       have HA:Y (∀W,F0 wr W->z1 T 80 #[N (J ⟨p,0,I⟩)] W fun e w'=>e=.returned (M t.text)/\F0 W w'):=fun W hW=>Xs W p q g (x+1) _ body cv t (o0.o.fr hW (by simp)) (Q.o.fr hW.no).wt D0.o
       clear hy K0;go_wp2_with fail
       go_cut [80]from 55 to 81 (fun s wx=>s=K bx/\Y (F0 wr wx))
       case first=>
        go_region_with (go_at_call 80;refine(HA.o _ (by exact(Fr.refl _ _).drew)).mono ?_;rintro e w5 ⟨rfl,d⟩;have S:Y (F0 wr w5):=((Fr.refl _ _).drew).trans d;have k0:=(L0.o w5 S.o).1;have k1:=(L0.o w5 S.o).2.1;have k2:=(L0.o w5 S.o).2.2;clear d)
        all_goals(go_wp2_with fail;go_meet;exact⟨rfl,S⟩)
       case rest=>
        obtain⟨rfl,p1⟩:=hcut;clear c0 q1 r0
        cases bx with
        |true=>
         go_wp2;go_roundg (n-(b+1))
         case measure=>omega
         case rel=>exact⟨b+1,by omega,rfl,by go_num,⟨b,rfl,by show _=_;rw[m1.o,o1.o];rfl⟩,L.o.trans p1.o⟩
        |false=>
         go_wp2;go_roundg (n-(b+1))
         case measure=>omega
         case rel=>exact⟨b+1,by omega,rfl,by go_num,⟨lp,rfl,by show _=_;rw[m1.o,o1.o];exact J0.o⟩,L.o.trans p1.o⟩
      ·have T1:¬(b:Int)<(n:Int):=by omega
       have q0:Y (lp=ZB t.text (-1) 0 a):=by
        have e:=J0.o;rw[D (by have:=Q.o.ln.1;omega)]at e;exact e
       obtain⟨bf,V1⟩:∃bf,decide (lp<0)=bf:=⟨_,rfl⟩;have W1:=Za V1;have X1:=Za (n0.o.trans L.o.no);have Y1:=Za (H0.o.fr L.o (by simp));have Z1:=Za (oF I0.o L.o (by simp));clear J0 P1;go_wp2_with fail;refine(XA _ p q g (x+1) _ body cv t bf 4 _ o0.o Q.o.wt HV.o.n1.1 HV.o.n1.2.1 D0.o (by decide) (by rfl)).mono ?_;rintro e w5 ⟨rfl,r1,p0⟩;have a2:=Za r1;have S:=Za (X1.o.trans (p0.mono (fun k e=>G e)));have s1:=Za (Y1.o.fr p0 HN.o);have t1:=Za (oF Z1.o p0 (fun k e=>by rw[e];exact d0.o));have C2:=S.o.size
       have b2:w5.cell? ⟨X,10,I⟩=J vp:=by have e:=s1.o.cell 10 (by omega);unfold WU at e;simpa using e
       clear r1 p0 c0 q1
       go_wp2_with (at_builtin;refine wpList_append_lies _ rfl (.tmp 90) (.tmp 92) 25 rfl w.heap.size 3 ii _ 1 8 Tryz.underlying25 A1 B1 C1 D1 rfl (by decide) vp j (Uo e0) rfl ?h1 ⟨w5.heap.size,0,I⟩ 1 1 [H E lp] rfl rfl ?h2 ?h3 (by decide) ?h4 ?h5 ?h6 _ rfl ?h7)
       case h1=>exact t1.o.alloc _
       try case h2=>exact World.news_of_block (aN w5 (.cells #[H E lp] 3))
       case h3=>simp[F]
       case h4=>unfold maxLen;omega
       case h5=>omega
       case h6=>first|omega|(simp;omega)
       case h7=>
        intro g2 s0 w6 v0 V _ _
        have a0:∀k,vp.ownBlock=J k->w.heap.size<=k:=fun k hk=>(t1.o.lt k hk).1
        have M0:Fr (fun k=>vp.ownBlock=J k) w5 w6:=((Fr.refl (fun k=>vp.ownBlock=J k) w5).alloc _).grown V (fun k hk=>G hk);have c2:=Za v0;have d2:=Za ((S.o.alloc _).grown V (fun k hk=>z0 (a0 k hk)));have N0:=Za (s1.o.fr M0 (fun e=>by have:=a0 X e;have:=S0.o;omega));have f2:=Za (a2.o.fr M0 (fun e=>by have:=a0 p e;have:=d0.o;omega))
        have l2:w6.cell? ⟨X,10,I⟩=J vp:=by have e:=N0.o.cell 10 (by omega);unfold WU at e;simpa using e
        have xf:=N0.o.fz;have hs:=N0.o.set (k:=10) (by omega) (U (J ⟨g2,0,I⟩) (j+1) s0);rw[GJ]at hs;have HS:=Za hs;have z:=Za (f2.o.fr hs.2 (fun e=>HN.o e.symm));have c1:=z.o.c1;have fz:=z.o.fz;clear V v0 a0 M0 hs b2;go_wp2;go_roundg (l.length-(j+1))
        case measure=>omega
        case rel=>
         have u:=z.o.move (x+1+1);rw[O (x+1)]at u;refine⟨j+1,ZW (ZW fj b4 6 t.line) bf 4 t.line,e0++[lp],U (J ⟨g2,0,I⟩) (j+1) s0,by omega,rfl,by rw[Z0.o];go_num,?_,?_,?_,?_,?_,?_⟩
         ·show _=_
          rw[X0.o,J1.o,q0.o]
         ·exact HS.o.1.fr u.2 HN.o
         ·show World.ownsRow _ _ _ _ _ _ _
          rw[M4];exact oF (oB c2.o (by have:=S0.o;simpa using this) _) u.2 (fun k e=>by rw[e];exact d0.o)
         ·show TG _ _ _ _ _
          rw[if_neg (by omega),show v+2*(j+1)=x+1+1 from by have:=f0.o;omega];exact u.1
         ·exact(d2.o.trans (HS.o.2.mono (fun k e=>z0 e))).trans (u.2.mono (fun k e=>G e))
         ·show _=_
          rw[HR.o,I1.o];simp only[Y9];rw[b1.o,<-q0.o,W1.o]
   ·obtain⟨te,O0,K1⟩:=HL.o.en
    have ej:j=l.length:=by omega
    rw[<-ej]at O0
    have h0:((((j+1:Nat):Int))==1)=false:=by simp;omega
    have HC:=Za O0
    have r:Y (TG wr p q (v+2*j) fj):=by have e:=B0.o;rw[if_neg (by omega)]at e;exact e
    clear O0;obtain⟨x,hx⟩:∃x,x=v+2*j:=⟨_,rfl⟩;obtain⟨kk,B⟩:∃kk:Int,kk=((j+1:Nat):Int):=⟨_,rfl⟩;rw[<-B]at h0 ⊢;rw[<-hx]at HC r;have f0:=Za hx;clear hx B;go_wp2_with fail;refine(Xs wr p q g x fj body cv te r.o (HV.o.fr b0.o).wt HC.o).mono ?_;rintro e w3 ⟨rfl,d⟩;have n0:=Za (b0.o.trans d.no);have i2:=Za (r.o.fr d (by simp));have H0:=Za (y0.o.fr d (by simp));have I0:=Za (oF A0.o d (by simp));clear d;go_wp2
    go_end0
    refine⟨rfl,?_,⟨vp,?_,?_⟩,n0.o⟩
    ·have e2:fj=Y9 a 1 f l:=by rw[HR.o,dL (by omega)];rfl
     rw[<-e2,<-ej,<-f0.o];exact i2.o
    ·refine H0.o.congr (fun o _=>?_)
     rw[G1.o];have h1:=H1.o;unfold WU;by_cases v1:o=10
     ·simp[v1]
     ·by_cases x1:o=12
      ·simp[x1]
      ·by_cases y1:o=11
       ·simp[y1,h1.2.1]
       ·simp[v1,y1,x1]
    ·have e:=I0.o
     rw[X0.o,D (by omega)]at e;rw[C,<-ej];exact e
