import Derived.Test.YtccikgogjfbpeaaGreatDoorBh
import Derived.Test.YtccikgogjfbpeaaGreatDoorBf
import Derived.Lib.SliceRun
open Option renaming none->I,some->J
open Go.Value renaming pointer->V,slice->Z,bool->U,string->E,int->H,oneCell'->F,slice->z9,pointer->y8,string->j3,agg->v0
open Go.IntKind renaming i64->B
open Go.RowKit renaming Hid->G
open Go.Proofs.Tryz renaming prog->M
open Go.World renaming news_of_block->N
open Go.Ending renaming returned->C
open Go.Obj renaming cells->z6
open Or renaming inl->z7,inr->x7
open Go renaming Calls->z8,World->x9
open List renaming append_assoc->y6,getElem?_map->y7,append_nil->x8,mem_singleton->q8,mem_append->q9,length_map->j0,getElem?_eq_none->j2,length_append->j4,getElem?_set->j5,length_take->j6
open Go.AllReadyH renaming nil->y9
open And renaming intro->x6
open Nat renaming zero_le->q0,le_refl->j1,mul_le_mul->j7,sub_self->j8,mul_one->j9
namespace Go.Proofs.YtccikgogjfbpeaaGreatDoor
set_option maxRecDepth 30000
set_option maxHeartbeats 8000000
open Go.RowKit
theorem RA.taken {c f w w' L v m n o p g d es r Q}(h:RA c w L v m n o p g d es r)(i:SG Q c w w')(j:Wz w c f)(a:2∉Q/\0∉Q/\9∉Q/\10∉Q/\11∉Q):
  (w'.ownsRow (L+1) 93 1 v d.length (d.map fun X=>y8 (J ⟨X,0,I⟩))/\Cl f v 2)/\∀X,X∈d->K3 f w' X:=by
 have q:∀{k t:Nat},c k∈Q->t∉Q->c k≠t:=fun s a e=>a (e▸s)
 refine⟨XR h.tv h.tc i j fun k b=>q b a.1,fun X l=>(h.tb X l).keep i j fun k b=>⟨q b a.2.1,q b a.2.2.2.1,q b a.2.2.2.2,fun e=>q b a.2.2.1 (e▸(h.tb X l).cx)⟩⟩
def uB (d:x9)(L:Nat)(a:Option Addr)(n b:Nat)(x:ByteArray)(i:Nat)(wr:x9):Prop:=
 ∃c,wr.ownsRow (L+1) 9 1 (Z a n b) n c/\(∀k,k<i->c[k]?=J (E x))/\Fr (fun k=>(z9 a n b).ownBlock=J k) d wr
theorem uB.step {b wr L A n c x i}(h:uB b L (J ⟨A,0,I⟩) n c x i wr)(hi:i<n):uB b L (J ⟨A,0,I⟩) n c x (i+1) (wr.setCell ⟨A,i,I⟩ (E x))/\(∃u,wr.cell? ⟨A,i,I⟩=J u)/\wr.frozen? ⟨A,i,I⟩=false:=by
 obtain⟨j,a,d,f⟩:=h;have l:=a.1;obtain⟨g,_⟩:=a.stored i (E x);refine⟨⟨_,g,fun k m=>?_,f.setCell (p:=⟨A,i,I⟩) (z7 rfl) _⟩,?_,a.frozenAt i⟩
 ·by_cases e:k=i
  ·subst e
   rw[List.getElem?_set_self (by omega)]
  rw[List.getElem?_set_ne (by omega)]
  exact d k (by omega)
 rw[a.cellAt i (by omega),gE (by omega)]
 exact⟨_,rfl⟩
def OW (w:x9)(c:Nat->Nat)(w':x9)(L:Nat)(v d e f g:Value)(a:Nat)(h:List Nat)(es i:List J9):Prop:=∃b,Wz w c b/\RA b w' L v d e f g a h es i
theorem Li (c w L v nv ov mv Y r xs es fs la n c0 ys)(h:RA c w L v nv ov mv Y r xs es fs)(hl:w.ownsRow (L+1) 9 1 (Z la n c0) n ys)(k0:Cl c (Z la n c0) 7)(l0:∀e,e∈es->∀k,k<e.n->∀g,e.a=J ⟨g,0,I⟩->(z9 la n c0).ownBlock≠J g)(hc:r<=4611686018427387904)(hE:(es.length+4)*24<=140737488355328)(hN:(n+4)*16<=140737488355328):
  z8 M 84 #[V (J ⟨L,0,I⟩),Z la n c0] w fun e w'=>e=C (.tuple #[])/\∃s y es',OW w c w' L v s ov y Y (r+1) xs es' fs/\es'.length=es.length+4/\(∀e,e∈es'->e∈es\/e.n<=8796093022208)/\SG [1,3,4,7] c w w':=by
 obtain⟨ii,B0,C0,D0,E0⟩:=info_parts Le;obtain⟨ij,D,d0,e0,f0⟩:=info_parts TE;have HS:=Za h;have m0:=Za (K4 w L v nv ov mv Y r h.bx hc);have HL:=Za hl;have T:=Za k0;have n0:=Za l0;have HE:=Za hE
 have V0:n<=8796093022204:=by omega
 have G0:=Za hN;clear h hl k0 l0 hc hE hN;go_enter Tryz.func84,Tryz.ntmps84;go_wp2_with fail;refine m0.o.mono ?_;rintro e w1 ⟨⟨x,rfl⟩,a0,g0⟩;have o0:=Za a0;have p0:=Za g0;have r0:G (uB w1 L la n c0 x 0 w1):=⟨ys,oF HL.o g0 (fun k l=>by omega),fun k l=>by omega,Zt⟩;clear a0 g0 m0;go_wp2_with fail
 go_loopg [5] n (fun m Y wr=>∃i,i<=n/\m=n-i/\Y=H B (i:Nat)/\G (uB w1 L la n c0 x i wr))
 case atStart=>exact⟨0,q0 _,rfl,rfl,r0⟩
 obtain⟨i,hi,rfl,rfl,HM⟩:=hrel;by_cases H0:i<n
 ·have I0:(i:Int)<(n:Int):=by omega
  obtain⟨_,h1,_⟩:=HM.o;obtain⟨A,_,e,_⟩:=h1.form (by omega);injection e with e _ e3;subst e e3;obtain⟨s0,⟨u,hu⟩,W0⟩:=HM.o.step H0;have J0:=Za s0;clear s0 h1;go_wp2_with fail;go_roundg (n-(i+1))
  case measure=>omega
  exact⟨i+1,by omega,rfl,by go_num,J0⟩
 have I0:¬(i:Int)<(n:Int):=by omega
 obtain rfl:i=n:=by omega
 have K0:G (GM 3 4 7 28 9 1 (fun a b=>GY v a ov b Y (r+1)) c w L x c wr nv mv (Z la i c0) i es []):=by
  obtain⟨zs,z1,z2,z3⟩:=HM.o;have K:=HS.o;have hF:=(p0.o.mono fun k l=>z7 l).trans (z3.mono fun k l=>x7 l);refine⟨Wz.refl _ _,K.n.keepL hF (Wz.refl _ _) (fun k l=>?_) (fun e he k l g eg=>?_),⟨zs,z1,fun k j u l hj=>?_,T.o,fun e he k l g e1 e2=>?_⟩,hF.mono fun k l=>?_,z3.whole o0.o fun e=>?_,K.bc⟩
  ·rcases l with e|e
   ·rw[e,K.bc];decide
   rw[T.o k e];decide
  ·rintro(e|e)
   ·obtain⟨g',k1,k2,_⟩:=K.n.el _ he k l
    rw[k1]at eg;injection eg with eg;injection eg with eg;rw[eg,e,K.bc]at k2
    cases k2
   exact n0.o _ (by simpa using he) k l g eg e
  ·have D:=(iG.1 hj).1
   obtain rfl:j=0:=by simpa[GZ]using D
   have:j3 x=u:=by simpa[GZ]using hj
   rw[<-this,j9];exact z2 k l
  ·exact absurd e2 (n0.o e (by simpa using he) k l g e1)
  ·rcases l with e|e
   ·rw[e,K.bc];decide
   rw[T.o k e];decide
  have:=T.o L e
  rw[K.bc]at this
  cases this
 clear HM r0 p0 o0;go_wp2_with fail
 go_loopg [1,6] 4 (fun m lv jv wr=>∃j c' es' s y,j<=4/\m=4-j/\jv=H B (j:Nat)/\G (GM 3 4 7 28 9 1 (fun a b=>GY v a ov b Y (r+1)) c w L x c' wr s y lv (i+j) es' [])/\G (es'.length=es.length+j/\∀e,e∈es'->e∈es\/e.n<=8796093022208))
 case atStart=>exact⟨0,c,es,nv,mv,by omega,rfl,rfl,K0,⟨rfl,fun e he=>z7 he⟩⟩
 obtain⟨j,c',es',s,y,hj,rfl,rfl,HT,O⟩:=hrel;by_cases X0:j<4
 ·have L0:(j:Int)<4:=by omega
  obtain⟨_,P,_⟩:=HT.o.ls;obtain⟨lb,cap,el⟩:=oL P;subst el;have U:=HT.o.sh.nm;rw[x8]at U;obtain⟨na,nc,en⟩:=oL U;subst en;obtain⟨ma,mc,em⟩:=oL HT.o.sh.ma;subst em;have M0:=Za U
  have N0:(es'.length+1)*24<=140737488355328:=by have:=HE.o;have:=O.o.1;omega
  obtain⟨q,hq⟩:∃q,es'.length=q:=⟨_,rfl⟩;have HQ:=Za hq
  have c2:wr.cell? ⟨L,2,I⟩=J (Z na q nc):=by rw[<-hq];exact Zc HT.o.bx 2
  have Y0:L+1<=wr.heap.size:=(iA.1 HT.o.bx).1
  have Z0:q<=5864062014805:=by omega
  rw[hq]at N0;clear P U hq
  go_wp2_with (at_builtin;refine wpList_append_lies _ rfl (.tmp 27) (.tmp 29) 55 rfl (L+1) 28 ii _ 1 24 Tryz.underlying55 B0 C0 D0 E0 rfl (by decide) (Z na q nc) q (es'.map J9.val) rfl ?h1 ⟨wr.heap.size,0,I⟩ 1 1 [Z lb (i+j) cap] rfl rfl ?h2 ?h3 (by decide) ?h4 ?h5 ?h6 _ rfl ?_)
  case h1=>rw[<-HQ.o];exact M0.o.alloc _
  case h2=>exact N (aN wr _)
  case h3=>simp[F]
  case h4=>unfold maxLen;omega
  case h5=>omega
  case h6=>simp;omega
  intro g2 R0 w2 d f p _;rw[<-HQ.o]at d f p;obtain⟨h0,c1,t0⟩:=HT.o.s1 (i:=2) (by decide) (fun W a b u hW=>by have e:=heap_setCell_same W L 2 _ _ u hW;simpa[GY]using e) f d (p.imp id (by omega));have d2:=Zc h0 2;have O0:=bF h0 2;rw[HQ.o]at d2;have Q:=Za t0;rw[HQ.o]at Q;clear t0 d f p c2 h0;go_upto_region 9 with fail;generalize w2.setCell _ _=W3 at*;have c4:=Zc Q.o.bx 4;have a1:L+1<=W3.heap.size:=(iA.1 Q.o.bx).1;clear d2 O0
  go_wp2_with (at_builtin;refine wpList_append_lies _ rfl (.tmp 37) (.tmp 39) 28 rfl (L+1) 9 ij _ 1 16 Tryz.underlying28 D d0 e0 f0 rfl (by decide) (Z ma q mc) q (es'.map fun e=>j3 e.m) rfl ?k1 ⟨W3.heap.size,0,I⟩ 1 1 [E x] rfl rfl ?k2 ?k3 (by decide) ?k4 ?k5 ?k6 _ rfl ?_)
  case k1=>have e:=Q.o.sh.ma;rw[HQ.o]at e;exact e.alloc _
  case k2=>exact N (aN W3 _)
  case k3=>simp[F]
  case k4=>unfold maxLen;omega
  case k5=>omega
  case k6=>simp;omega
  intro g5 S0 w5 d f p _;rw[<-HQ.o]at d;obtain⟨i0,c5,v0⟩:=Q.o.s2 (i:=4) rfl (by decide) (fun W a b u hW=>by have e:=heap_setCell_same W L 4 _ _ u hW;simpa[GY]using e) f d (p.imp id (by omega));have d4:=Zc i0 4;have P0:=bF i0 4;have R:=Za v0;rw[HQ.o]at R;clear v0 d f p c4 i0;go_upto_region 10 with fail;generalize w5.setCell _ _=W6 at*;have b1:L+1<=W6.heap.size:=(iA.1 R.o.bx).1;obtain⟨w0,P,x0,_⟩:=R.o.ls;have z:=Za (x6 P x0)
  have T0:(i+j+1)*16<=140737488355328:=by have:=G0.o;omega
  have y0:G ((es'++[(⟨lb,i+j,cap,x⟩:J9)]).length=es.length+(j+1)/\∀e,e∈es'++[(⟨lb,i+j,cap,x⟩:J9)]->e∈es\/e.n<=8796093022208):=⟨by rw[j4,O.o.1];simp;omega,fun e he=>(q9.1 he).elim (O.o.2 e) (fun h=>by rw[q8.1 h];exact x7 (by show i+j<=_;omega))⟩;clear d4 P0 P x0;rcases z.o.1.2.symm with⟨g,_,_,el,_⟩|⟨el,hz⟩
  ·injection el with el _ Q0
   subst el Q0
   go_wp2_with (at_builtin;refine To rfl (.tmp 43) (.tmp 45) 28 rfl (L+1) 9 ij _ 1 16 Tryz.underlying28 D d0 e0 f0 rfl g (i+j) cap w0 rfl ?q1 ⟨W6.heap.size,0,I⟩ 1 1 [E x] rfl rfl ?q2 ?q3 ?q4 ?q5 ?q6 _ rfl ?_)
   case q1=>exact z.o.1.alloc _
   try case q2=>exact N (aN W6 _)
   case q3=>simp[F]
   case q4=>unfold maxLen;omega
   try case q5=>omega
   case q6=>first|omega|(simp;omega)
   intro g8 z0 w8 d p
   obtain⟨c8,S⟩:=R.o.s3 (by decide) rfl z.o.1 z.o.2 d (by
    rcases p with⟨e,hg⟩|⟨e,hg⟩
    ·exact z7 ⟨by rw[e],(Zt.alloc _).grown hg fun k l=>z7 (by injection l with l;omega)⟩
    exact x7 ⟨by omega,(Zt.alloc _).grown hg fun k l=>by cases l⟩)
   have j0:=Za S;clear S d p;go_wp2_with fail;go_roundg (4-(j+1))
   case measure=>omega
   exact⟨j+1,c8,_,_,_,by omega,rfl,by go_num,j0,y0⟩
  injection el with e1 e2 e3
  subst e1 e3;clear e2 hz
  go_wp2_with (at_builtin;refine wpList_append_lies _ rfl (.tmp 43) (.tmp 45) 28 rfl (L+1) 9 ij _ 1 16 Tryz.underlying28 D d0 e0 f0 rfl (by decide) (Z I (i+j) 0) (i+j) w0 rfl ?p1 ⟨W6.heap.size,0,I⟩ 1 1 [E x] rfl rfl ?p2 ?p3 (by decide) ?p4 ?p5 ?p6 _ rfl ?_)
  case p1=>exact z.o.1.alloc _
  case p2=>exact N (aN W6 _)
  case p3=>simp[F]
  case p4=>unfold maxLen;omega
  case p5=>omega
  case p6=>simp;omega
  intro g8 z0 w8 d f p _
  have b0:((I:Option Addr)=J ⟨g8,0,I⟩/\Fr (fun k=>k=g8) W6 w8)\/(W6.heap.size<=g8/\F0 W6 w8):=by
   rcases p with e|e
   ·cases e
   exact x7 ⟨by omega,(Zt.alloc _).grown f fun k l=>by cases l⟩
  obtain⟨c8,S⟩:=R.o.s3 (w2:=w8) (by decide) rfl z.o.1 z.o.2 d b0;have j0:=Za S;clear S d p f b0;go_wp2_with fail;go_roundg (4-(j+1))
  case measure=>omega
  exact⟨j+1,c8,_,_,_,by omega,rfl,by go_num,j0,y0⟩
 have L0:¬(j:Int)<4:=by omega
 obtain rfl:j=4:=by omega
 have A0:G (∃s y es',OW w c wr L v s ov y Y (r+1) xs es' fs/\es'.length=es.length+4/\(∀e,e∈es'->e∈es\/e.n<=8796093022208)/\SG [1,3,4,7] c w wr):=by
  have X:=HT.o;have K:=HS.o;obtain⟨⟨t1,t2⟩,t3⟩:=K.taken X.fq X.ag (by decide)
  have q:∀{k t:Nat},c k∈[1,3,4,7]->t∉[1,3,4,7]->c k≠t:=fun h1 h2 e=>h2 (e▸h1)
  exact⟨s,y,es',⟨c',X.ag,X.bx,X.bc,t1,t2,K.few,t3,X.sh,K.o.keep X.fq X.ag fun k l=>⟨q l (by decide),q l (by decide),q l (by decide)⟩⟩,O.o.1,O.o.2,X.fq⟩
 go_wp2_with fail
 go_end0
 exact⟨rfl,A0.o⟩
theorem K3.kq {c d w w' X Q}(h:K3 c w X)(f:SG Q c w w')(g:Wz w c d)(a:0∉Q/\9∉Q/\10∉Q/\11∉Q):K3 d w' X:=by
 have q:∀{k t:Nat},c k∈Q->t∉Q->c k≠t:=fun i a e=>a (e▸i)
 exact h.keep f g fun k b=>⟨q b a.1,q b a.2.2.1,q b a.2.2.2,fun e=>q b a.2.1 (e▸h.cx)⟩
theorem RA.more {c w d L X g cap v m p r s f a es x o}(h:RA c w L v m p r s f a es x)(A:K3 c w X)(B:(w.alloc o).grownBy d v.ownBlock)(C:d.ownsRow (L+1) 93 1 (Z (J ⟨g,0,I⟩) (a.length+1) cap) (a.length+1) ((a.map fun X=>y8 (J ⟨X,0,I⟩))++[V (J ⟨X,0,I⟩)]))(u:v.ownBlock=J g\/w.heap.size<=g)(D:a.length<20):
  d.heap[L]?=J (GY v m p r s f)/\∃j,Wz w c j/\RA j (d.setCell ⟨L,0,I⟩ (Z (J ⟨g,0,I⟩) (a.length+1) cap)) L (Z (J ⟨g,0,I⟩) (a.length+1) cap) m p r s f (a++[X]) es x/\SG [1,2] c w (d.setCell ⟨L,0,I⟩ (Z (J ⟨g,0,I⟩) (a.length+1) cap)):=by
 obtain⟨j,i,E,y⟩:=Po h.tc B u;have z:=y.whole h.bx (fun e=>by rw[h.bc]at e;cases e);have l:SG [1,2] c w (d.setCell ⟨L,0,I⟩ (Z (J ⟨g,0,I⟩) (a.length+1) cap)):=(y.mono fun k b=>by simp[b]).trans ((Tu _ 0).mono fun k b=>by subst b;simp[h.bc])
 have q:∀{k t:Nat},c k∈[1,2]->t∉[1,2]->c k≠t:=fun F G e=>G (e▸F)
 refine⟨z,j,i,⟨?_,(i L (iA.1 h.bx).1).trans h.bc,?_,P4 E,by simp;omega,fun Y H=>?_,h.n.keep l i fun k b=>⟨q b (by decide),q b (by decide),q b (by decide)⟩,h.o.keep l i fun k b=>⟨q b (by decide),q b (by decide),q b (by decide)⟩⟩,l⟩
 ·have e:=heap_setCell_same d L 0 _ _ (Z (J ⟨g,0,I⟩) (a.length+1) cap) z
  simpa[GY]using e
 ·rw[lA,List.map_append]
  exact oB C (by simp) _
 exact((q9.1 H).elim (h.tb Y) fun e=>q8.1 e▸A).kq l i (by decide)
theorem R7 (c w L v nv ov mv kv u K es fs s)(h:RA c w L v nv ov mv kv u K es fs):
  z8 M 25 #[V (J ⟨L,0,I⟩),E s] w fun e w'=>e=C (U true)/\(∃v' x,OW w c w' L v' nv ov mv kv u x es fs)/\SG [1,2] c w w':=by
 have HL:=Za h;obtain⟨ii,hi,f0,g0,h0⟩:=info_parts TS;go_enter Tryz.func25,Tryz.ntmps25;go_wp2_with fail;refine(Hh s w).mono ?_;intro e j O;have y:=Za (xt s j)
 cases z:XE s with
 |error f=>
  rw[z]at y;obtain⟨rfl,d⟩:=(Pb.err z).1 O;have HF:G (F0 w j):=Fr.of_below d;obtain⟨f1,f2⟩:=f
  as_aux_lemma=>
  go_wp2_with fail;refine y.o.mono ?_;intro e w2 O;obtain⟨rfl,d⟩:=(V3.err rfl).1 O;have a:=Za (HF.o.trans d);go_wp2;go_ret;exact⟨rfl,⟨v,K,c,Wz.refl _ _,HL.o.keep a.o (Wz.refl _ _)⟩,a.o.mono⟩
 |ok p=>
  rw[z]at y;have i0:=Za (wC.mk (NZ z) (zQ z) (yh z));obtain⟨⟨T,P,Q,R,vl,ys,rfl,j0,k0,W,l0,m0,n0⟩,d⟩:=(Pb.ok z).1 O;have HF:G (F0 w j):=Fr.of_below d;have g:G (w.heap.size<=T/\j.cell? ⟨T,0,I⟩=J (V (J ⟨P,0,I⟩))/\w.heap.size<=P/\Bk j P R vl p.1 p.2 ys):=⟨j0,k0,l0,m0⟩;have A:G (j.cell? ⟨T,1,I⟩=J (V (J ⟨Q,0,I⟩))/\X7 w.heap.size j Q R p.2 (Zx (Zv p.2) p.2.length)):=⟨W,n0⟩
  as_aux_lemma=>
  go_wp2_with fail;refine y.o.mono ?_;intro e w2 O;obtain⟨⟨q,body,rfl,hq⟩,d⟩:=(V3.ok rfl).1 O;have a:=Za (HF.o.trans d);have HQ:=Za (hq.less HF.o.size);have m:G (w2.cell? ⟨T,0,I⟩=J (V (J ⟨P,0,I⟩))/\Bk w2 P R vl p.1 p.2 ys):=⟨(d.cell (p:=⟨T,0,I⟩) (bL j _ g.o.2.1)).trans g.o.2.1,g.o.2.2.2.fr d⟩;have r:G (w2.cell? ⟨T,1,I⟩=J (V (J ⟨Q,0,I⟩))/\X7 w.heap.size w2 Q R p.2 (Zx (Zv p.2) p.2.length)):=⟨(d.cell (p:=⟨T,1,I⟩) (bL j _ A.o.1)).trans A.o.1,A.o.2.fr d⟩;have b:=Za (HL.o.keep a.o (Wz.refl _ _));obtain⟨va,vc,hv⟩:=oL b.o.tv;subst hv;have c0:=Zc b.o.bx 0;have fz:=bF b.o.bx;obtain⟨n,hn⟩:∃n,K.length=n:=⟨_,rfl⟩;have y:=Za hn;rw[hn]at c0 b
  have v0:n<=20:=by have:=b.o.few;omega
  have o0:=Za ((iA.1 HL.o.bx).1);by_cases p0:n<20
  ·have Y:(n:Int)<20:=by omega
   have x0:L+1<=w2.heap.size:=by have:=o0.o;have:=a.o.size;omega
   as_aux_lemma=>
   go_wp2_with (at_builtin;refine wpList_append_lies _ rfl (.tmp 52) (.tmp 57) 53 rfl (L+1) 93 ii _ 1 8 Tryz.underlying53 hi f0 g0 h0 rfl (by decide) (Z va n vc) n (K.map fun X=>y8 (J ⟨X,0,I⟩)) rfl ?h1 ⟨w2.heap.size+1,0,I⟩ 1 1 [V (J ⟨w2.heap.size,0,I⟩)] rfl rfl ?h2 ?h3 (by decide) ?h4 ?h5 ?h6 _ rfl ?_)
   case h1=>have e:=b.o.tv;rw[y.o]at e;exact(e.alloc _).alloc _
   case h2=>exact N (by have e:=aN (w2.alloc (z6 #[V (J ⟨T,0,I⟩),V (J ⟨q,0,I⟩),U false,U false,Z I 0 0,Z I 0 0] 97)) (z6 #[V (J ⟨w2.heap.size,0,I⟩)] 93);simpa using e)
   case h3=>simp[F]
   case h4=>unfold maxLen;omega
   case h5=>omega
   case h6=>simp;omega
   intro g2 t w8 a0 B q0 _;generalize D:w2.alloc _=W3 at*;have l:=Ed (S:=fun _=>False) D;have hX:=BW D
   have H:Wz w c fun k=>if k=w2.heap.size then 9 else if w.heap.size<=k then 0 else c k:=fun k hk=>by
    have:=a.o.size
    dsimp only
    rw[if_neg (by omega),if_neg (by omega)]
   have w0:Wz W3 (fun k=>if k=w2.heap.size then 9 else if w.heap.size<=k then 0 else c k) (fun k=>if k=w2.heap.size then 9 else if w.heap.size<=k then 0 else c k):=Wz.refl _ _;have r0:=HL.o.keep (a.o.trans l) H
   have b0:K3 (fun k=>if k=w2.heap.size then 9 else if w.heap.size<=k then 0 else c k) W3 w2.heap.size:=by
    have hz:vU (fun k=>if k=w2.heap.size then 9 else if w.heap.size<=k then 0 else c k) W3 w.heap.size w2:=⟨l.mono,fun k h1 h2=>by dsimp only;rw[if_neg (by omega),if_pos h1]⟩;exact⟨w2,w.heap.size,q,w2,w.heap.size,T,p.1,p.2,false,false,Z I 0 0,Z I 0 0,⟨body,HQ.o⟩,⟨P,Q,g.o.1,m.o.1,r.o.1,g.o.2.2.1,R,vl,ys,m.o.2,r.o.2⟩,i0.o,hz,hz,if_pos rfl,hX,rfl,z7 rfl⟩
   have hn:=y.o;subst hn;obtain⟨e1,c',s0,d0,t0⟩:=r0.more b0 B a0 (q0.imp id fun h=>by have:=uO D;first|omega|(rw[h];simp)) p0;have c0:=Zc e1 0;have fz:=bF e1;have e0:G ((∃v' x,OW w c (w8.setCell ⟨L,0,I⟩ (Z (J ⟨g2,0,I⟩) (K.length+1) t)) L v' nv ov mv kv u x es fs)/\SG [1,2] c w (w8.setCell ⟨L,0,I⟩ (Z (J ⟨g2,0,I⟩) (K.length+1) t))):=⟨⟨_,_,c',H.trans s0 (a.o.trans l).size,d0⟩,SG.cls ((a.o.trans l).mono) H t0 fun i hi=>hi⟩;go_wp2;go_ret;exact⟨rfl,e0.o⟩
  have Y:¬(n:Int)<20:=by omega
  as_aux_lemma=>
  go_wp2;go_ret;exact⟨rfl,⟨_,_,c,Wz.refl _ _,b.o⟩,a.o.mono⟩
def EK (w:x9)(T:Nat)(rts:List Zf)(R:List Ze):Bool->Prop
 |true=>LQ w T (Pm (Wc rts R))
 |false=>BF w T rts R
section
variable {w W:x9} {a T q:Nat} {rts:List Zf} {R:List Ze} {lo:Bool}
theorem GL.tq (h:GL w a T rts R lo)(c:wC rts R):EK w T rts R lo:=by
 obtain⟨i,j,_,k,l,_,m⟩:=h
 cases lo with
 |true=>
  obtain⟨b,n,d,f,g,_,_⟩:=m;exact⟨⟨i,k,b⟩,j,n,d,f,l,g.1⟩
 |false=>
  obtain⟨q,o,p,b,g⟩:=m;obtain⟨d,f,e⟩:=oL b.ro;subst e;exact⟨⟨a,j,d,f,l,g,oS b.ro (q0 _),c.bk⟩,⟨i,_,o,p,k,b⟩,c.bk,c.ar⟩
theorem EK.fr (h:EK w T rts R lo)(a:F0 w W):EK W T rts R lo:=by
 cases lo<;>exact h.fr a
def GN (rts:List Zf)(R:List Ze):ByteArray:=⟨(WS (XF (Wc rts R))).toArray⟩
theorem wC.load (h:wC rts R):RY (GN rts R).data.toList=J (Pm (Wc rts R)):=by
 obtain⟨a,b⟩:=J4 h.bk h.ar h.im;exact Eq a (by omega)
theorem EK.overlaps (h:EK w T rts R lo)(a:QW w):z8 M 20 #[V (J ⟨T,0,I⟩)] w fun e w'=>(∃v,e=C v/\w'.ownsRow w.heap.size 44 6 v (T1 (LW lo R)).length (XD (T1 (LW lo R))))/\F0 w w':=by
 cases lo with
 |true=>exact(MZ w T h.1).mono fun e w' ⟨b,c⟩=>⟨⟨_,b,oZ _ _ _ _⟩,c▸Zt⟩
 |false=>exact LT w T rts R h a
theorem EK.dead (h:EK w T rts R lo):z8 M 89 #[V (J ⟨T,0,I⟩)] w fun e w'=>(∃v,e=C v/\w'.ownsRow w.heap.size 9 1 v (LS (LW lo R)).length (Sz (LS (LW lo R))))/\F0 w w':=by
 cases lo with
 |true=>exact(Ex w T h.1).mono fun e w' ⟨a,b⟩=>⟨⟨_,a,oZ _ _ _ _⟩,b▸Zt⟩
 |false=>exact(BG w T rts R h).mono fun e w' ⟨⟨v,a,b,_⟩,c⟩=>⟨⟨v,a,b⟩,c⟩
theorem EK.text (h:EK w T rts R lo)(a:QW w):z8 M 17 #[V (J ⟨T,0,I⟩)] w fun e w'=>e=C (E (ZQ (if lo then[]else VF rts R)))/\F0 w w':=by
 cases lo with
 |true=>exact Ez w T h.1
 |false=>
  obtain⟨_,⟨b,c,d,f,g,i⟩,j,_⟩:=h;exact C4 w T b c d rts R f g i j a
theorem EK.decide (h:EK w T rts R lo)(d:wC rts R)(b c l)(a:Ye w b l)(f:l.length<=maxLen)(p)(g:p.pan.size<=maxLen):
  z8 M 19 #[V (J ⟨T,0,I⟩),UI p,Z b l.length c] w fun e w'=>e=C (OQ (TR rts R p (Vh rts l)))/\F0 w w':=by
 cases lo with
 |true=>exact LQ.same h (DC d.load) d.bk b c l a f p g
 |false=>exact LO.decide h.1 b c l a f p g
theorem EK.image (h:EK w T rts R lo)(a:wC rts R)(b:LP w):z8 M 23 #[V (J ⟨T,0,I⟩)] w fun e w'=>e=C (E (GN rts R))/\F0 w w':=by
 obtain⟨c,d⟩:=J4 a.bk a.ar a.im
 cases lo with
 |true=>
  have e:=KO w T _ (LQ.ti h) (xG c (DC a.load)) (by rw[KV];omega) b;rw[KV]at e;exact e
 |false=>exact KO w T _ (LO.ti h.1) c (by omega) b
end
theorem K3.now {c w X}(h:K3 c w X):∃T q rts R lo e i j,wC rts R/\w.heap[X]?=J (z6 #[V (J ⟨T,0,I⟩),V (J ⟨q,0,I⟩),U lo,U e,i,j] 97)/\c X=9/\K1 c w (LW lo R) e i j/\(∀W,Fr (fun k=>k=X) w W->EK W T rts R lo/\∃a body,X9 W a q body rts R)/\
  (∀W l d f g,Fr (fun k=>k=X) w W->Wz w c l->W.heap[X]?=J (z6 #[V (J ⟨T,0,I⟩),V (J ⟨q,0,I⟩),U lo,U d,f,g] 97)->K1 l W (LW lo R) d f g->K3 l W X)/\
  ∀W l p b Y r,F0 w W->Wz w c l->GL p b r rts R true->vU l W b p->l Y=9->W.heap[Y]?=J (z6 #[V (J ⟨r,0,I⟩),V (J ⟨q,0,I⟩),U true,U false,Z I 0 0,Z I 0 0] 97)->K3 l W Y:=by
 obtain⟨w0,a,q,p,b,T,rts,R,lo,e,i,j,⟨body,u⟩,y,s,v,z,x,A,B⟩:=h
 have t:∀k,k=X->c k≠0:=fun k n=>by rw[n,x];decide
 refine⟨T,q,rts,R,lo,e,i,j,s,A,x,B,fun W m=>?_,fun W l d f g m o C D=>⟨w0,a,q,p,b,T,rts,R,lo,d,f,g,⟨body,u⟩,y,s,v.keep m o t,z.keep m o t,(o X (iA.1 A).1).trans x,C,D⟩,fun W l w2 E Y r m o g1 g2 g3 F=>⟨w0,a,q,w2,E,r,rts,R,true,false,Z I 0 0,Z I 0 0,⟨body,u⟩,g1,s,v.keep m o (by simp),g2,g3,F,rfl,z7 rfl⟩⟩;exact⟨(y.fr (z.keep m (Wz.refl _ _) t).1 fun k n=>n).tq s,a,body,u.frS (v.keep m (Wz.refl _ _) t).1 fun k n=>n⟩
theorem K3.both {c w W X}(h:K3 c w X)(p)(m:p.pan.size<=maxLen)(i:F0 w W):∃T q,∃f:List ByteArray->Nat×ByteArray×ByteArray,
  W.cell? ⟨X,0,I⟩=J (V (J ⟨T,0,I⟩))/\W.cell? ⟨X,1,I⟩=J (V (J ⟨q,0,I⟩))/\
  (∀a b c l,F0 W a->Ye a b l->l.length<=maxLen->z8 M 19 #[V (J ⟨T,0,I⟩),UI p,Z b l.length c] a fun e w'=>e=C (OQ (f l))/\F0 a w')/\
  (∀a b c l,F0 W a->Ye a b l->l.length<=maxLen->z8 M 56 #[V (J ⟨q,0,I⟩),UI p,Z b l.length c] a fun e w'=>e=C (OQ (f l))/\F0 a w'):=by
 obtain⟨T,q,rts,R,_,_,_,_,n,o,_,_,r,_⟩:=h.now;obtain⟨s,_,_,t⟩:=r w Zt;have g:=i.whole o;exact⟨T,q,fun l=>TR rts R p (Vh rts l),Zc g 0,Zc g 1,fun a b c l j d k=>(s.fr (i.trans j)).decide n b c l d k p m,fun a b c l j d k=>Hn a q rts R b c l p ((Sm.of t).fr (i.trans j)) n.bk m d k⟩
theorem RA.tells {c g w W L X v j l m p b r es s}(h:RA c w L v j l m p b r es s)(u:c X=9)(d:Fr (fun k=>k=X) w W)(f:Wz w c g)(x:K3 g W X):RA g W L v j l m p b r es s:=by
 have q:∀{k t:Nat},k=X->t≠9->c k≠t:=fun e i y=>i (by rw[<-y,e,u])
 obtain⟨z,i⟩:=XR h.tv h.tc d f fun k a=>q a (by decide)
 refine⟨d.whole h.bx fun e=>q e (by decide) h.bc,(f L (iA.1 h.bx).1).trans h.bc,z,i,h.few,fun Y A=>?_,h.n.keep d f fun k a=>⟨q a (by decide),q a (by decide),q a (by decide)⟩,h.o.keep d f fun k a=>⟨q a (by decide),q a (by decide),q a (by decide)⟩⟩;by_cases e:Y=X
 ·rw[e];exact x
 exact(h.tb Y A).keep d f fun k a=>⟨q a (by decide),q a (by decide),q a (by decide),fun B=>e (B.symm.trans a)⟩
theorem GO (R:List Ze)(a:Nat):∀d,∃t,WT R (a+d)=WT R a++t
 |0=>⟨[],by simp⟩
 |d+1=>by
  obtain⟨t,h⟩:=GO R a d;refine⟨t++(match R[a+d]? with|some r=>if Rz R (a+d)then[]else[r.name]|none=>[]),?_⟩
  show WT R (a+d)++(match R[a+d]? with|some r=>if Rz R (a+d)then[]else[r.name]|none=>[])=_
  rw[h,y6]
theorem Lj {R i r}(a:R[i]?=J r):WT R (i+1)=WT R i++(if Rz R i then[]else[r.name]):=by
 show WT R i++_=_
 rw[a]
theorem yo {R i r}(a:R[i]?=J r)(b:Rz R i=false):(LS R)[(WT R i).length]?=J r.name:=by
 obtain⟨t,e⟩:=GO R (i+1) (R.length-(i+1));rw[show i+1+(R.length-(i+1))=R.length from by have:=(iG.1 a).1;omega,Lj a,b]at e;unfold LS;rw[e,y6,aR (j1 _),j8];rfl
theorem DO {R i}(hi:i<R.length):(LX R)[i]?=J (U (!Rz R i)):=by
 unfold LX;rw[y7,List.getElem?_range hi];rfl
theorem GX.ded {w W D rts R}(h:GX w W D R.length fun k b=>b=false↔∃p,Y5 p=true/\Qo R p=J k)(g:Yx rts R)(j:∀r,r∈R->Td r):W.ownsRow w.heap.size 4 1 (Z (J ⟨D,0,I⟩) R.length R.length) R.length (LX R)/\F0 w W:=by
 obtain⟨a,c,l,m⟩:=h
 have q:a.length=R.length:=by rw[c.1,j9]
 have e:a=LX R:=List.ext_getElem? fun i=>by
  by_cases hi:i<R.length
  ·obtain⟨b,n,d⟩:=l i hi
   have f:=xL g j (gE hi);rw[n,DO hi]
   cases b with
   |false=>rw[f.2 (d.1 rfl)];rfl
   |true=>
    cases o:Rz R i with
    |false=>rfl
    |true=>have:=d.2 (f.1 o);cases this
  rw[j2 (by omega),j2 (by simp[LX];omega)]
 rw[<-e];exact⟨c,m⟩
theorem GP (c w L v nv ov mv kv j xs es fs X)(h:RA c w L v nv ov mv kv j xs es fs)(hX:X∈xs)(hc:j<=4611686018427387904)(hE:(es.length+4)*24<=140737488355328):
  z8 M 48 #[V (J ⟨L,0,I⟩),V (J ⟨X,0,I⟩)] w fun e w'=>e=C (U true)/\(∃u x es',OW w c w' L v u ov x kv (j+1) xs es' fs/\es'.length=es.length+4/\∀e,e∈es'->e∈es\/e.n<=8796093022208)/\SG [1,3,4,7,9,11] c w w':=by
 obtain⟨T,q,rts,R0,lo,m,y,p0,q0,hx,I0,A,r0,c0,_⟩:=(h.tb X hX).now;obtain⟨R,hR⟩:∃R,LW lo R0=R:=⟨_,rfl⟩
 have Z0:R.length<=8:=by rw[<-hR];have:=q0.bk.l8;cases lo<;>simp[LW];omega
 have HR:=Za hR;rw[hR]at A c0;have HS:=Za h;have s0:=Za r0;have F:=Za q0;have HX:=Za hx;have t0:=Za I0;have d0:=Za A;have J0:=Za c0;have v0:=Za (x6 hc hE);have e0:=Za (r0 w Zt).1.dead;rw[hR]at e0;have x0:=Zc hx 0;obtain⟨K,f0⟩:∃K,(LS R).length=K:=⟨_,rfl⟩;have w0:=Za f0;obtain⟨n,hn⟩:∃n,R.length=n:=⟨_,rfl⟩;have t:=Za hn
 have a1:n<=8:=by omega
 have Y0:K<=8:=by have:=M5 R R.length;unfold LS at f0;omega
 rw[f0]at e0;go_enter Tryz.func48,Tryz.ntmps48;go_wp2_with fail;refine e0.o.mono ?_;rintro e p ⟨⟨lv,rfl,N⟩,y0⟩;obtain⟨oa,oc,e⟩:=oL N;subst e;have g0:=Za N;have f:=Za y0
 have K0:G (∃c1,Wz w c c1/\Cl c1 (Z oa K oc) 7/\RA c1 p L v nv ov mv kv j xs es fs):=by
  have ha:Wz w c fun k=>if(z9 oa K oc).ownBlock=J k then 7 else c k:=fun k l=>if_neg fun e=>by have:=(N.lt k e).1;omega
  exact⟨_,ha,fun k l=>if_pos l,HS.o.keep y0 ha⟩
 obtain⟨c1,O⟩:=K0.o;have HC:=Za O
 have b1:∀(w:x9)(a:Option Addr)(n c:Nat),(binOp .eql 95 (Z a n c) (Z I 0 0)).run M w=.ok (U a.isNone) w:=fun w a n c=>Go.Lib.run_eql_slice_nil w _ _ a n c 0 0 Tryz.underlying95
 obtain⟨da,dl,dc,L0⟩:∃da dl dc,p0=Z da dl dc:=d0.o.2.elim (fun e=>⟨_,_,_,e⟩) fun⟨D,e,_⟩=>⟨_,_,_,e⟩
 subst L0;have P:=f.o.whole HX.o;have b0:=Za P;have x5:=Zc P 5;have x2:=Zc P 2;go_upto_region 3 with fail
 go_cut [25] (fun bv wz=>bv=U (da.isNone&&!lo)/\wz=p)
 case first=>
  rcases da with _|z<;>rcases lo with _|_
  all_goals
   go_wp2_with fail;go_meet;exact⟨rfl,rfl⟩
 case rest=>
 obtain⟨rfl,hw⟩:=hcut;replace hw:=hw.symm;subst hw
 go_upto_if 25 with fail
 go_cut [] (fun wz=>G (Fr (fun k=>k=X) p wz)/\G (OW p c1 wz L v nv ov mv kv j xs es fs)/\G (∃a2 t2 da dc,wz.heap[X]?=J (z6 #[V (J ⟨T,0,I⟩),V (J ⟨q,0,I⟩),U lo,U a2,t2,Z da n dc] 97)/\∃b,wz.ownsRow b 4 1 (Z da n dc) n (LX R)))
 case first=>
  have P:=b0.o;rcases d0.o.2 with e|⟨D,e,_,b,s⟩
  ·injection e with e1 Q e3
   subst e1 Q e3;have x1:=Zc P 1
   cases lo with
   |true=>
    obtain rfl:n=0:=by rw[<-t.o,<-HR.o];rfl
    obtain rfl:R=[]:=HR.o.symm;go_wp2_with fail;go_meet;exact⟨Zt,⟨c1,Wz.refl _ _,HC.o.2.2⟩,_,_,_,_,b0.o,0,oZ _ _ _ _⟩
   |false=>
   obtain rfl:R=R0:=HR.o.symm;have z0:=Za (EH p q rts R (by obtain⟨_,_,_,h⟩:=s0.o p (f.o.mono);exact Sm.of h) F.o.bk fun r Y=>⟨(F.o.ar r Y).m4,(F.o.ar r Y).c4⟩);rw[t.o]at z0;go_wp2_with fail;refine z0.o.mono ?_;rintro e w2 ⟨D,rfl,A0⟩;rw[<-t.o]at A0;obtain⟨d1,d2⟩:=A0.ded F.o.bk F.o.ar;rw[t.o]at d1;have h0:=d2.whole b0.o;have e5:=Zc h0 5;have f5:=bF h0 5
   have d:G (Fr (fun k=>k=X) p (w2.setCell ⟨X,5,I⟩ (Z (J ⟨D,0,I⟩) n n))/\OW p c1 (w2.setCell ⟨X,5,I⟩ (Z (J ⟨D,0,I⟩) n n)) L v nv ov mv kv j xs es fs/\(w2.setCell ⟨X,5,I⟩ (Z (J ⟨D,0,I⟩) n n)).heap[X]?=J (z6 #[V (J ⟨T,0,I⟩),V (J ⟨q,0,I⟩),U false,U m,y,Z (J ⟨D,0,I⟩) n n] 97)/\(w2.setCell ⟨X,5,I⟩ (Z (J ⟨D,0,I⟩) n n)).ownsRow p.heap.size 4 1 (Z (J ⟨D,0,I⟩) n n) n (LX R)):=by
    have hf:Fr (fun k=>k=X) p (w2.setCell ⟨X,5,I⟩ (Z (J ⟨D,0,I⟩) n n)):=(d2.mono).trans (Tu _ 5)
    have ha:Wz p c1 fun k=>if k=D then 11 else c1 k:=fun k l=>if_neg fun e=>by have:=(d1.lt D rfl).1;omega
    have i0:=(iA.1 HX.o).1;have B0:=(HC.o.1 X i0).trans t0.o;have e:=heap_setCell_same w2 X 5 _ _ (Z (J ⟨D,0,I⟩) n n) h0
    have e':(w2.setCell ⟨X,5,I⟩ (Z (J ⟨D,0,I⟩) n n)).heap[X]?=J (z6 #[V (J ⟨T,0,I⟩),V (J ⟨q,0,I⟩),U false,U m,y,Z (J ⟨D,0,I⟩) n n] 97):=by simpa using e
    have Y:=oF d1 (Tu (w:=w2) (L:=X) (Z (J ⟨D,0,I⟩) n n) 5) fun k l=>by have:=f.o.size;omega
    refine⟨hf,⟨_,ha,HC.o.2.2.tells B0 hf ha ?_⟩,e',Y⟩
    have M0:=(d0.o.keep f.o HC.o.1 (by simp)).keep hf ha fun k l=>by rw[l,B0];decide
    refine J0.o _ _ m y _ ((f.o.mono).trans hf) (HC.o.1.trans ha f.o.size) e' ⟨M0.1,x7 ⟨D,by rw[t.o],P4 (if_pos rfl),p.heap.size,by rw[t.o];exact Y⟩⟩
   go_wp2_with fail;go_meet;exact⟨d.o.1,d.o.2.1,_,_,_,_,d.o.2.2.1,_,d.o.2.2.2⟩
  rw[t.o]at e
  injection e with e1 Q e3;replace Q:=Q.symm;replace e3:=e3.symm;subst e1 Q e3
  have d:G (OW p c1 p L v nv ov mv kv j xs es fs/\p.ownsRow b 4 1 (Z (J ⟨D,0,I⟩) n n) n (LX R)):=⟨⟨c1,Wz.refl _ _,HC.o.2.2⟩,by
   rw[t.o]at s
   exact oF s f.o⟩
  simp only[Option.isNone_some,Bool.false_and];go_wp2_with fail;go_meet;exact⟨Zt,d.o.1,_,_,_,_,b0.o,_,d.o.2⟩
 obtain⟨j0,N0,O0⟩:=hcut;generalize wc=W at*;obtain⟨a2,t2,da,dc,P0,b,s⟩:=O0.o;have i0:=(iA.1 HX.o).1
 have Q0:G (∀W',F0 W W'->W'.cell? ⟨X,1,I⟩=J (V (J ⟨q,0,I⟩))/\W'.cell? ⟨X,5,I⟩=J (Z da n dc)/\(Sm W' q rts R0)/\W'.ownsRow w.heap.size 9 1 (Z oa K oc) K (Sz (LS R))/\W'.ownsRow b 4 1 (Z da n dc) n (LX R)):=fun W' hf=>by
  have e:=hf.whole P0;exact⟨Zc e 1,Zc e 5,(by obtain⟨_,_,_,h⟩:=s0.o W' (((f.o.mono).trans j0.o).trans (hf.mono));exact Sm.of h),oF (oF g0.o j0.o fun k l=>by omega) hf,oF s hf⟩
 go_wp2_with fail
 go_loopg [6,7] n (fun mm av iv wr=>∃i a:Nat,i<=n/\mm=n-i/\av=H B (a:Nat)/\iv=H B (i:Nat)/\a<=8/\G (a=(WT R i).length)/\G (F0 W wr))
 case atStart=>exact⟨0,0,by omega,rfl,rfl,rfl,by omega,rfl,Zt⟩
 obtain⟨i,a,f1,rfl,rfl,rfl,ha,HA,a0⟩:=hrel;obtain⟨y1,y5,S0,k0,C0⟩:=Q0.o wr a0.o;by_cases g1:i<n
 ·have T0:(i:Int)<(n:Int):=by omega
  obtain rfl:R=R0:=by
   cases lo with
   |false=>exact HR.o.symm
   |true=>have:=t.o;rw[<-HR.o]at this;simp[LW]at this;omega
  obtain⟨D,_,e,_⟩:=C0.form (by omega);injection e with e _ Q;subst e Q;obtain⟨r,Y⟩:∃r,R[i]?=J r:=⟨_,gE (show i<R.length by have:=t.o;omega)⟩;have h1:=Za Y;have D0:=(C0.cellAt i (by omega)).trans (DO (by have:=t.o;omega))
  cases hl:Rz R i with
  |true=>
   rw[hl]at D0
   have l0:G (a=(WT R (i+1)).length):=by show _=_;rw[Lj Y,hl,if_pos rfl,x8,HA.o]
   go_wp2_with fail;go_roundg (n-(i+1))
   case measure=>omega
   exact⟨i+1,a,by omega,rfl,rfl,by go_num,ha,l0,a0⟩
  |false=>
   rw[hl]at D0
   have l0:G (a+1=(WT R (i+1)).length):=by show _=_;rw[Lj Y,hl,HA.o,lA];rfl
   have m0:=yo Y hl;rw[<-HA.o]at m0
   have i1:a<K:=by have:=(iG.1 m0).1;have:=w0.o;omega
   obtain⟨la,lc,h2,h3⟩:=S0.c2;rw[t.o]at h2;obtain⟨g,ma,mc,ca,cc,pa,pc,rfl,n0,_⟩:=h3 i r Y;obtain⟨og,_,e,_⟩:=k0.form (by omega);injection e with e _ Q;subst e Q;have o0:wr.cell? ⟨og,a,I⟩=J (E r.name):=(k0.cellAt a (by omega)).trans (by unfold Sz;rw[y7,m0];rfl);have u0:wr.cell? ⟨g,i*13,I⟩=J (E r.name):=n0 0 _ rfl
   have l1:(a:Int)<(K:Int):=by omega
   have m1:decide ((K:Int)<=(a:Int))=false:=by simp;omega
   go_upto_region 9 with fail
   go_quiet (fail)
   have V0:G (F0 W (wr.drewN nq)):=a0.o.trans ⟨rfl,rfl,rfl,j1 _,fun _ _ _=>rfl⟩;go_wp2_with fail;go_roundg (n-(i+1))
   case measure=>omega
   exact⟨i+1,a+1,by omega,rfl,by go_num,by go_num,by omega,l0,V0⟩
 have T0:¬(i:Int)<(n:Int):=by omega
 obtain rfl:i=n:=by omega
 obtain rfl:a=K:=by
  rw[HA.o,<-w0.o,<-t.o];rfl
 have HT:G (z8 M 84 #[V (J ⟨L,0,I⟩),Z oa a oc] wr fun e w'=>e=C (.tuple #[])/\(∃u x es',OW w c w' L v u ov x kv (j+1) xs es' fs/\es'.length=es.length+4/\∀e,e∈es'->e∈es\/e.n<=8796093022208)/\SG [1,3,4,7,9,11] c w w'):=by
  obtain⟨c2,E0,W0⟩:=N0.o;obtain⟨O,X0,_⟩:=HC.o;have n1:=(iA.1 HS.o.bx).1;have G0:=O.trans E0 f.o.size;have H0:SG [1,3,4,7,9,11] c w wr:=SG.cls (c1:=c) (SG.cls (c1:=c1) (f.o.mono) O j0.o fun k l=>by rw[l,O X i0,t0.o];decide) (Wz.refl _ _) (S:=fun _=>False) a0.o (by simp);refine(Li c2 wr L v nv ov mv kv j xs es fs oa a oc _ (W0.keep a0.o (Wz.refl _ _)) (oS k0 (by omega)) (fun k l=>(E0 k (g0.o.lt k l).2).trans (X0 k l)) (fun e he k l g e1 Q=>?_) v0.o.1 v0.o.2 (by omega)).mono ?_
  ·obtain⟨g',k1,_,cs,k3,_⟩:=HS.o.n.el e (by simpa using he) k l
   rw[k1]at e1;injection e1 with e1;injection e1 with e1;have:=(iA.1 k3).1;have:=(g0.o.lt g Q).1;omega
  rintro e w' ⟨he,u,x,es',⟨c',q1,q2⟩,q3,q4,q5⟩
  exact⟨he,⟨u,x,es',⟨c',G0.trans q1 H0.size,q2⟩,q3,q4⟩,H0.cls G0 q5 fun k l=>by revert l;simp;omega⟩
 go_wp2_with fail;refine HT.o.mono ?_;rintro e w7 ⟨rfl,h7,h8⟩;have H7:=Za (x6 h7 h8);go_wp2_with fail;go_ret;exact⟨rfl,H7.o⟩
def uC (d:x9)(L:Nat)(a:Option Addr)(n b:Nat)(x:ByteArray)(i:Nat)(wr:x9):Prop:=
 ∃c,wr.ownsRow (L+1) 44 6 (Z a n b) n c/\(∀k j v,k<i->(GZ 6 x)[j]?=J v->c[k*6+j]?=J v)/\Fr (fun k=>(z9 a n b).ownBlock=J k) d wr
theorem uC.step {c wr L A n d x i}(h:uC c L (J ⟨A,0,I⟩) n d x i wr)(hi:i<n):
  uC c L (J ⟨A,0,I⟩) n d x (i+1) ((((((wr.setCell ⟨A,i*6,I⟩ (E x)).setCell ⟨A,i*6+1,I⟩ (E x)).setCell ⟨A,i*6+2,I⟩ (E ByteArray.empty)).setCell ⟨A,i*6+3,I⟩ (H B 0)).setCell ⟨A,i*6+4,I⟩ (H B 0)).setCell ⟨A,i*6+5,I⟩ (H B 0)):=by
 obtain⟨q,f,g,l⟩:=h;have m:=f.1;have o:=(((((f.stored (i*6) (E x)).1.stored (i*6+1) (E x)).1.stored (i*6+2) (E ByteArray.empty)).1.stored (i*6+3) (H B 0)).1.stored (i*6+4) (H B 0)).1.stored (i*6+5) (H B 0);refine⟨_,o.1,fun k j v r a=>?_,?_⟩
 ·have b:=(iG.1 a).1
  simp[GZ]at b;by_cases e:k=i
  ·subst e
   have:j=0\/j=1\/j=2\/j=3\/j=4\/j=5:=by omega
   rcases this with rfl|rfl|rfl|rfl|rfl|rfl<;>simp[GZ]at a<;>subst a<;>simp[j5,m]<;>omega
  simp only[j5]
  rw[if_neg (by omega),if_neg (by omega),if_neg (by omega),if_neg (by omega),if_neg (by omega),if_neg (by omega)];exact g k j v (by omega) a
 exact(((((l.setCell (p:=⟨A,i*6,I⟩) (z7 rfl) _).setCell (p:=⟨A,i*6+1,I⟩) (z7 rfl) _).setCell (p:=⟨A,i*6+2,I⟩) (z7 rfl) _).setCell (p:=⟨A,i*6+3,I⟩) (z7 rfl) _).setCell (p:=⟨A,i*6+4,I⟩) (z7 rfl) _).setCell (p:=⟨A,i*6+5,I⟩) (z7 rfl) _
theorem OX:(M.info? 41).map (fun i=>(i.zero,i.size,i.bytes))=J (J (Z I 0 0),1,24):=by kernel_rfl
theorem EL (c w L v nv ov mv kv z xs es Q la n c0 ys)(h:RA c w L v nv ov mv kv z xs es Q)(hl:w.ownsRow (L+1) 44 6 (Z la n c0) n ys)(v0:Cl c (Z la n c0) 8)(w0:∀e,e∈Q->∀k,k<e.n->∀g,e.a=J ⟨g,0,I⟩->(z9 la n c0).ownBlock≠J g)(hc:z<=4611686018427387904)(hE:(Q.length+4)*24<=140737488355328)(hN:(n+4)*72<=140737488355328):
  z8 M 88 #[V (J ⟨L,0,I⟩),Z la n c0] w fun e w'=>e=C (.tuple #[])/\∃i0 j0 D,OW w c w' L v nv i0 mv j0 (z+1) xs es D/\D.length=Q.length+4/\(∀e,e∈D->e∈Q\/e.n<=8796093022208)/\SG [1,5,6,8] c w w':=by
 obtain⟨ii,V0,W0,X0,Y0⟩:=info_parts OX;obtain⟨ij,Z0,a1,b1,d1⟩:=info_parts TE;obtain⟨iv,x0,A0,B0,C0⟩:=info_parts R5;have HS:=Za h;have D0:=Za (K4 w L v nv ov mv kv z h.bx hc);have HL:=Za hl;have k0:=Za v0;have E0:=Za w0;have HE:=Za hE
 have G1:n<=1954687338264:=by omega
 have g1:=Za hN;clear h hl v0 w0 hc hE hN;go_enter Tryz.func88,Tryz.ntmps88;go_wp2_with fail;refine D0.o.mono ?_;rintro e w1 ⟨⟨x,rfl⟩,h0,d0⟩;have G0:=Za h0;have l0:=Za d0;go_upto_region 2 with fail;generalize hW:w1.alloc _=W1 at*;have m0:=Za (BW hW);have e0:G (F0 w1 W1):=Ed hW;obtain⟨O,hO⟩:∃O,w1.heap.size=O:=⟨_,rfl⟩;have H1:=Za hO
 have H0:G (w.heap.size<=O):=by have:=d0.size;show _<=_;omega
 rw[hO]at m0 ⊢;have I0:G (uC W1 L la n c0 x 0 W1):=⟨ys,oF (oF HL.o d0 (fun k l=>by omega)) e0.o,fun k j v l=>by omega,Zt⟩;clear h0 d0 D0 hW hO;go_wp2_with fail
 go_loopg [6] n (fun m kv wr=>∃i,i<=n/\m=n-i/\kv=H B (i:Nat)/\G (uC W1 L la n c0 x i wr))
 case atStart=>exact⟨0,q0 _,rfl,rfl,I0⟩
 obtain⟨i,hi,rfl,rfl,HM⟩:=hrel;by_cases i1:i<n
 ·have j1:(i:Int)<(n:Int):=by omega
  obtain⟨_,h1,_⟩:=HM.o;obtain⟨A,_,e,_⟩:=h1.form (by omega);injection e with e _ e3;subst e e3;have l1:=Za (HM.o.step i1);obtain⟨zs,q1,_,q3⟩:=HM.o;have K:=q3.whole m0.o (fun e=>by have:=(HL.o.lt O e).2;have:=H0.o;omega);have o0:=Zc K 0;have o1:=Zc K 1;have o2:=Zc K 2;have o3:=Zc K 3;have o4:=Zc K 4;have o5:=Zc K 5
  have hx:∀r,r<6->∃u,wr.cell? ⟨A,i*6+r,I⟩=J u:=fun r hr=>⟨_,by rw[q1.cellAt (i*6+r) (by omega)];exact gE (by have:zs.length=n*6:=q1.1;omega)⟩
  obtain⟨y0,z0⟩:=hx 0 (by omega);obtain⟨y1,z1⟩:=hx 1 (by omega);obtain⟨y2,z2⟩:=hx 2 (by omega);obtain⟨y3,z3⟩:=hx 3 (by omega);obtain⟨y4,z4⟩:=hx 4 (by omega);obtain⟨y5,z5⟩:=hx 5 (by omega);rw[Nat.add_zero]at z0;have f0:=q1.frozenAt (i*6);have f1:=q1.frozenAt (i*6+1);have f2:=q1.frozenAt (i*6+2);have f3:=q1.frozenAt (i*6+3);have f4:=q1.frozenAt (i*6+4);have f5:=q1.frozenAt (i*6+5);clear q1 q3 K hx h1;go_wp2_with fail;go_roundg (n-(i+1))
  case measure=>omega
  exact⟨i+1,by omega,rfl,by go_num,l1⟩
 have j1:¬(i:Int)<(n:Int):=by omega
 obtain rfl:i=n:=by omega
 obtain⟨cz,S,J0⟩:∃cz:Nat->Nat,Wz w c cz/\cz O=0:=⟨fun k=>if k=O then 0 else c k,fun k l=>if_neg (by have:=H0.o;omega),if_pos rfl⟩;have K0:=Za S;have m1:=Za J0;clear J0
 have L0:G (SG [1,5,6,8] c w W1):=(l0.o.trans (e0.o.mono)).mono fun k l=>by rw[l,HS.o.bc];decide
 have n1:G (GM 5 6 8 41 44 6 (fun a b=>GY v nv a mv b (z+1)) cz W1 L x cz wr ov kv (Z la i c0) i Q []):=by
  obtain⟨zs,z1,z2,z3⟩:=HM.o;have T:=HS.o;have r1:=(iA.1 T.bx).1
  have M0:Cl cz (Z la i c0) 8:=fun k l=>(S k (HL.o.lt k l).2).trans (k0.o k l)
  have hF:=((l0.o.trans (e0.o.mono)).mono fun k l=>z7 l).trans (z3.mono fun k l=>x7 l);refine⟨Wz.refl _ _,T.o.keepL hF S (fun k l=>?_) (fun e he k l g eg=>?_),⟨zs,z1,z2,M0,fun e he k l g e1 e2=>?_⟩,z3.mono fun k l=>?_,z3.whole (e0.o.whole G0.o) fun e=>?_,(S L r1).trans T.bc⟩
  ·rcases l with e|e
   ·rw[e,T.bc];decide
   rw[k0.o k e];decide
  ·rintro(e|e)
   ·obtain⟨g',k1,k2,_⟩:=T.o.el _ he k l
    rw[k1]at eg;injection eg with eg;injection eg with eg;rw[eg,e,T.bc]at k2
    cases k2
   exact E0.o _ (by simpa using he) k l g eg e
  ·exact absurd e2 (E0.o e (by simpa using he) k l g e1)
  ·rw[M0 k l];decide
  have:=k0.o L e
  rw[T.bc]at this
  cases this
 clear HM I0 l0 G0 S;go_wp2_with fail
 go_loopg [1,7] 4 (fun m lv jv wr=>∃j c' es' n0 p0,j<=4/\m=4-j/\jv=H B (j:Nat)/\G (GM 5 6 8 41 44 6 (fun a b=>GY v nv a mv b (z+1)) cz W1 L x c' wr n0 p0 lv (i+j) es' [])/\G (es'.length=Q.length+j/\∀e,e∈es'->e∈Q\/e.n<=8796093022208))
 case atStart=>exact⟨0,_,Q,ov,kv,by omega,rfl,rfl,n1,⟨rfl,fun e he=>z7 he⟩⟩
 obtain⟨j,c',es',n0,p0,hj,rfl,rfl,HT,U⟩:=hrel;by_cases I1:j<4
 ·have v1:(j:Int)<4:=by omega
  obtain⟨_,X,_⟩:=HT.o.ls;obtain⟨lb,cap,el⟩:=oL X;subst el;have g0:=HT.o.sh.nm;rw[x8]at g0;obtain⟨na,nc,en⟩:=oL g0;subst en;obtain⟨ma,mc,em⟩:=oL HT.o.sh.ma;subst em;have x1:=Za g0
  have A1:(es'.length+1)*24<=140737488355328:=by have:=HE.o;have:=U.o.1;omega
  obtain⟨q,hq⟩:∃q,es'.length=q:=⟨_,rfl⟩;have HQ:=Za hq
  have c2:wr.cell? ⟨L,3,I⟩=J (Z na q nc):=by rw[<-hq];exact Zc HT.o.bx 3
  have J1:L+1<=wr.heap.size:=(iA.1 HT.o.bx).1
  have K1:q<=5864062014805:=by omega
  rw[hq]at A1;clear X g0 hq
  go_wp2_with (at_builtin;refine wpList_append_lies _ rfl (.tmp 31) (.tmp 33) 56 rfl (L+1) 41 ii _ 1 24 Tryz.underlying56 V0 W0 X0 Y0 rfl (by decide) (Z na q nc) q (es'.map J9.val) rfl ?h1 ⟨wr.heap.size,0,I⟩ 1 1 [Z lb (i+j) cap] rfl rfl ?h2 ?h3 (by decide) ?h4 ?h5 ?h6 _ rfl ?_)
  case h1=>rw[<-HQ.o];exact x1.o.alloc _
  case h2=>exact N (aN wr _)
  case h3=>simp[F]
  case h4=>unfold maxLen;omega
  case h5=>omega
  case h6=>simp;omega
  intro g2 E1 w2 d f p _;rw[<-HQ.o]at d f p;obtain⟨r0,c1,N0⟩:=HT.o.s1 (i:=3) (by decide) (fun W a b u hW=>by have e:=heap_setCell_same W L 3 _ _ u hW;simpa[GY]using e) f d (p.imp id (by omega));have d2:=Zc r0 3;have B1:=bF r0 3;rw[HQ.o]at d2;have Y:=Za N0;rw[HQ.o]at Y;clear N0 d f p c2 r0;go_upto_region 10 with fail;generalize w2.setCell _ _=W3 at*;have c4:=Zc Y.o.bx 5;have L1:L+1<=W3.heap.size:=(iA.1 Y.o.bx).1;clear d2 B1
  go_wp2_with (at_builtin;refine wpList_append_lies _ rfl (.tmp 41) (.tmp 43) 28 rfl (L+1) 9 ij _ 1 16 Tryz.underlying28 Z0 a1 b1 d1 rfl (by decide) (Z ma q mc) q (es'.map fun e=>j3 e.m) rfl ?k1 ⟨W3.heap.size,0,I⟩ 1 1 [E x] rfl rfl ?k2 ?k3 (by decide) ?k4 ?k5 ?k6 _ rfl ?_)
  case k1=>have e:=Y.o.sh.ma;rw[HQ.o]at e;exact e.alloc _
  case k2=>exact N (aN W3 _)
  case k3=>simp[F]
  case k4=>unfold maxLen;omega
  case k5=>omega
  case k6=>simp;omega
  intro g5 F1 w5 d f p _;rw[<-HQ.o]at d;obtain⟨s0,c5,O0⟩:=Y.o.s2 (i:=5) rfl (by decide) (fun W a b u hW=>by have e:=heap_setCell_same W L 5 _ _ u hW;simpa[GY]using e) f d (p.imp id (by omega));have d4:=Zc s0 5;have C1:=bF s0 5;have R:=Za O0;rw[HQ.o]at R;clear O0 d f p c4 s0;go_upto_region 11 with fail;generalize w5.setCell _ _=W6 at*;have M1:L+1<=W6.heap.size:=(iA.1 R.o.bx).1;obtain⟨P0,X,Q0,_⟩:=R.o.ls;have P:=Za (x6 X Q0);have a0:(i+j+1)*72<=140737488355328:=Nat.le_trans (Nat.mul_le_mul_right 72 (show i+j+1<=i+4 by omega)) g1.o;have R0:G ((es'++[(⟨lb,i+j,cap,x⟩:J9)]).length=Q.length+(j+1)/\∀e,e∈es'++[(⟨lb,i+j,cap,x⟩:J9)]->e∈Q\/e.n<=8796093022208):=⟨by rw[j4,U.o.1];simp;omega,fun e he=>(q9.1 he).elim (U.o.2 e) (fun h=>by rw[q8.1 h];exact x7 (by show i+j<=_;omega))⟩;have K:=R.o.fq.whole m0.o (by rw[m1.o];decide);have o0:=Zc K 0;have o1:=Zc K 1;have o2:=Zc K 2;have o3:=Zc K 3;have o4:=Zc K 4;have o5:=Zc K 5;clear d4 C1 X Q0 K;rcases P.o.1.2.symm with⟨g,_,_,el,_⟩|⟨el,hz⟩
  ·injection el with el _ D1
   subst el D1
   go_wp2_with (at_builtin;refine To rfl (.tmp 47) (.tmp 49) 41 rfl (L+1) 44 iv _ 6 72 Tryz.underlying41 x0 A0 B0 C0 rfl g (i+j) cap P0 rfl ?q1 ⟨W6.heap.size,0,I⟩ 1 1 [E x,E x,E ⟨#[]⟩,H B 0,H B 0,H B 0] rfl rfl ?q2 ?q3 ?q4 ?q5 ?q6 _ rfl ?_)
   case q1=>exact P.o.1.alloc _
   try case q2=>exact N (aN W6 _)
   case q3=>simp[F]
   case q4=>unfold maxLen;omega
   try case q5=>first|exact a0|omega
   case q6=>first|exact a0|omega|(simp;omega)
   intro g8 S0 w8 d p
   have y:(J (⟨g,0,I⟩:Addr)=J ⟨g8,0,I⟩/\Fr (fun k=>k=g8) W6 w8)\/(W6.heap.size<=g8/\F0 W6 w8):=by
    rcases p with⟨e,hg⟩|⟨e,hg⟩
    ·exact z7 ⟨by rw[e],(Zt.alloc _).grown hg fun k l=>z7 (by injection l with l;omega)⟩
    exact x7 ⟨by omega,(Zt.alloc _).grown hg fun k l=>by cases l⟩
   have s:=d;obtain⟨c8,b0⟩:=R.o.s3 (w2:=w8) (by decide) rfl P.o.1 P.o.2 s y;have t0:=Za b0;clear b0 d p s y;go_wp2_with fail;go_roundg (4-(j+1))
   case measure=>omega
   exact⟨j+1,c8,_,_,_,by omega,rfl,by go_num,t0,R0⟩
  injection el with e1 e2 e3
  subst e1 e3;clear e2 hz
  go_wp2_with (at_builtin;refine wpList_append_lies _ rfl (.tmp 47) (.tmp 49) 41 rfl (L+1) 44 iv _ 6 72 Tryz.underlying41 x0 A0 B0 C0 rfl (by decide) (Z I (i+j) 0) (i+j) P0 rfl ?p1 ⟨W6.heap.size,0,I⟩ 1 1 [E x,E x,E ⟨#[]⟩,H B 0,H B 0,H B 0] rfl rfl ?p2 ?p3 (by decide) ?p4 ?p5 ?p6 _ rfl ?_)
  case p1=>exact P.o.1.alloc _
  case p2=>exact N (aN W6 _)
  case p3=>simp[F]
  case p4=>unfold maxLen;omega
  case p5=>first|exact a0|omega
  case p6=>simp;omega
  intro g8 S0 w8 d f p _
  have y:((I:Option Addr)=J ⟨g8,0,I⟩/\Fr (fun k=>k=g8) W6 w8)\/(W6.heap.size<=g8/\F0 W6 w8):=by
   rcases p with e|e
   ·cases e
   exact x7 ⟨by omega,(Zt.alloc _).grown f fun k l=>by cases l⟩
  have s:=d;obtain⟨c8,b0⟩:=R.o.s3 (w2:=w8) (by decide) rfl P.o.1 P.o.2 s y;have t0:=Za b0;clear b0 d p f s y;go_wp2_with fail;go_roundg (4-(j+1))
  case measure=>omega
  exact⟨j+1,c8,_,_,_,by omega,rfl,by go_num,t0,R0⟩
 have v1:¬(j:Int)<4:=by omega
 obtain rfl:j=4:=by omega
 have T0:G (∃i0 j0 D,OW w c wr L v nv i0 mv j0 (z+1) xs es D/\D.length=Q.length+4/\(∀e,e∈D->e∈Q\/e.n<=8796093022208)/\SG [1,5,6,8] c w wr):=by
  have ht:=HT.o;have T:=HS.o
  have hf:=L0.o.cls K0.o ht.fq fun i hi=>hi
  have ha:=K0.o.trans ht.ag L0.o.size;obtain⟨⟨t1,t2⟩,t3⟩:=T.taken hf ha (by decide)
  have q:∀{k t:Nat},c k∈[1,5,6,8]->t∉[1,5,6,8]->c k≠t:=fun h1 h2 e=>h2 (e▸h1)
  exact⟨n0,p0,es',⟨c',ha,ht.bx,ht.bc,t1,t2,T.few,t3,T.n.keep hf ha fun k l=>⟨q l (by decide),q l (by decide),q l (by decide)⟩,ht.sh⟩,U.o.1,U.o.2,hf⟩
 go_wp2_with fail
 go_end0
 exact⟨rfl,T0.o⟩
theorem DP (R:List Ze)(i a:Nat):∀d,∃t,T3 R i (a+d)=T3 R i a++t
 |0=>⟨[],by simp⟩
 |d+1=>by
  obtain⟨t,h⟩:=DP R i a d;refine⟨t++GV R i (i+1+(a+d)),?_⟩
  show T3 R i (a+d)++GV R i (i+1+(a+d))=_
  rw[h,y6]
theorem DQ (R:List Ze)(a:Nat):∀d,∃t,T0 R (a+d)=T0 R a++t
 |0=>⟨[],by simp⟩
 |d+1=>by
  obtain⟨t,h⟩:=DQ R a d;refine⟨t++T3 R (a+d) (R.length-(a+d+1)),?_⟩
  show T0 R (a+d)++T3 R (a+d) (R.length-(a+d+1))=_
  rw[h,y6]
theorem xM {R i j r q y}(d:R[i]?=J r)(a:R[i+1+j]?=J q)(f:Re (Ua r) (Ua q)=J y):(T1 R)[(T0 R i++T3 R i j).length]?=J (r.name,q.name,TC y.1):=by
 have g:=(iG.1 a).1;obtain⟨t1,b⟩:=DQ R (i+1) (R.length-(i+1));obtain⟨h,c⟩:=DP R i (j+1) (R.length-(i+1)-(j+1));rw[show i+1+(R.length-(i+1))=R.length from by omega]at b;rw[show j+1+(R.length-(i+1)-(j+1))=R.length-(i+1)from by omega]at c
 have k:GV R i (i+1+j)=[(r.name,q.name,TC y.1)]:=by simp only[GV,d,a,f]
 have e:T1 R=(T0 R i++T3 R i j)++(GV R i (i+1+j)++(h++t1)):=by
  unfold T1;rw[b,show T0 R (i+1)=T0 R i++T3 R i (R.length-(i+1))from rfl,c,show T3 R i (j+1)=T3 R i j++GV R i (i+1+j)from rfl];simp only[y6]
 rw[e,aR (j1 _),j8,k];rfl
def wE (n:Nat):Code->Bool
 | .region m _ _=>m==n
 | .seq a _=>wE n a
 |_=>false
def wF (n:Nat):Code->Option Code
 | .seq a b=>if wE n a then J (.seq a b)else wF n b
 |_=>I
def uD (f:Func)(n:Nat):Code:=(f.body.bind (wF n)).getD .skip
theorem DR:∀i,T0 [] i=[]
 |0=>rfl
 |i+1=>by rw[T0,DR i];simp[T3]
set_option maxRecDepth 1000000 in
theorem BN (c c1 w w1 W L v nv ov mv kv x xs es fs X T q rts R lo oa D oc n a2 tv B0)(h:RA c w L v nv ov mv kv x xs es fs)(C0:Yx rts R/\∀r,r∈R->Td r)(L4:X<w.heap.size)(M4:c X=9)(N4:x<=4611686018427387904/\(fs.length+4)*24<=140737488355328)(O4:∀W,Fr (fun k=>k=X) w W->Sm W q rts R)(m0:w1.ownsRow w.heap.size 44 6 (Z oa D oc) D (XD (T1 (LW lo R))))(D0:F0 w w1)(F:Wz w c c1/\Cl c1 (Z oa D oc) 8)(q0:Fr (fun k=>k=X) w1 W)(P4:OW w1 c1 W L v nv ov mv kv x xs es fs)(Q4:W.heap[X]?=J (z6 #[V (J ⟨T,0,I⟩),V (J ⟨q,0,I⟩),U lo,U a2,tv,B0] 97))(E0:(T1 (LW lo R)).length=D)(hn:R.length=n)(t2 t3 t4 t8 t9 R4 S4 T4 V4 W4 X4 Y4 Z4 a5 b5 c5 d5 e5 f5 g5 i5 j5 k5 l5 m5 n5 p5 r5 s5 t5 x5 y5 z5 A5 B5 C5 D5 E5 F5 G5 H5 I5 J5 K5 L5 M5 N5 O5 P5 Q5 R5 S5 T5 V5 W5 X5 Z5 a6 b6 c6 d6 e6 f6 g6 h6 i6 j6 k6 l6 m6 n6 o6 p6 q6 r6 s6 t6 v6 w6 y6 A6 B6 C6 D6 E6 F6 G6 H6 I6 J6 K6 L6 M6 N6 O6 G0 H0 I0 J0 K0 L0 M0 N0 O0 P0 Q0 R0 S0 V0 W0 X0 Y0 Z0 a1 b1 d1 f1 g1 h1 i1 l1 m1 n1 r1 s1 t1 v1 x1 z1 A1 B1 C1 D1 E1 F1 G1 H1 I1 J1 K1 L1 M1 N1 O1 P1 Q1 R1 S1 V1 W1 X1 Y1 Z1 b2 d2 f2 g2 i2 j2 k2 l2 m2 n2 r2 s2 x2 z2 A2 B2 C2 D2 E2 F2 G2 H2 I2 J2 K2 L2 M2 N2 O2 P2 Q2 R2 S2 T2 V2 W2 X2 Y2 Z2 a3 b3 c3 d3 f3 g3 i3 j3 l3 m3 n3 r3 s3 x3 y3 z3 A3 B3 C3 D3 E3 F3 G3 H3 I3 J3 K3 L3 M3 N3 O3 P3 Q3 R3 S3 V3 W3 X3 Y3 Z3 a4 b4 c4 d4 e4 f4 g4 i4 j4 k4 l4 m4 n4 p4 r4 s4 x4 y4):
  Code.wp M (uD Tryz.f47 16) (bodyPost M Tryz.f47 fun e w'=>e=C (U true)/\(∃K N m,OW w c w' L v nv K mv N (x+1) xs es m/\m.length=fs.length+4/\∀e,e∈m->e∈fs\/e.n<=8796093022208)/\SG [1,5,6,8,9,10] c w w') ⟨#[V (J ⟨L,0,I⟩),V (J ⟨X,0,I⟩),t2,t3,t4,Z oa D oc,H B 0,U true,t8,t9,R4,S4,T4,V4,W4,X4,Y4,Z4,a5,b5,c5,d5,e5,f5,g5,i5,j5,k5,l5,m5,n5,p5,r5,s5,t5,x5,y5,z5,A5,B5,C5,D5,E5,F5,G5,H5,I5,J5,K5,L5,M5,N5,O5,P5,Q5,R5,S5,T5,V5,W5,X5,Z5,a6,b6,c6,d6,e6,f6,g6,h6,i6,j6,k6,l6,m6,n6,o6,p6,q6,r6,s6,t6,v6,w6,y6,A6,B6,C6,D6,E6,F6,G6,H6,I6,J6,K6,L6,M6,N6,O6,G0,H0,I0,J0,K0,L0,M0,N0,O0,P0,Q0,R0,S0,V0,W0,X0,Y0,Z0,a1,b1,d1,f1,g1,h1,i1,l1,m1,n1,r1,s1,t1,v1,x1,z1,A1,B1,C1,D1,E1,F1,G1,H1,I1,J1,K1,L1,M1,N1,O1,P1,Q1,R1,S1,V1,W1,X1,Y1,Z1,b2,d2,f2,g2,i2,j2,k2,l2,m2,n2,r2,s2,x2,z2,A2,B2,C2,D2,E2,F2,G2,H2,I2,J2,K2,L2,M2,N2,O2,P2,Q2,R2,S2,T2,V2,W2,X2,Y2,Z2,a3,b3,c3,d3,f3,g3,i3,j3,l3,m3,n3,r3,s3,x3,y3,z3,A3,B3,C3,D3,E3,F3,G3,H3,I3,J3,K3,L3,M3,N3,O3,P3,Q3,R3,S3,V3,W3,X3,Y3,Z3,a4,b4,c4,d4,e4,f4,g4,i4,j4,k4,l4,m4,n4,p4,r4,s4,x4,y4],[]⟩ W:=by
 conv=>arg 2;whnf
 have HS:=Za h;have f:=Za C0;have z4:=Za N4;have r0:=Za m0;have A4:=Za D0;have HC:=Za F;have P6:=Za q0;have Q6:=Za P4;have f0:=Za E0;have HN:=Za hn;have B4:=Za (x6 L4 M4)
 have t7:n<=8:=by have:=C0.1.l8;omega
 have R6:D<=64:=by
  have e0:(LW lo R).length<=8:=by cases lo<;>simp[LW];omega
  have:=O8 (LW lo R) (LW lo R).length;have e3:=j7 e0 e0;unfold T1 at E0;omega
 have O:G (∀b,F0 W b->b.cell? ⟨X,1,I⟩=J (V (J ⟨q,0,I⟩))/\b.cell? ⟨X,2,I⟩=J (U lo)/\Sm b q rts R/\b.ownsRow w.heap.size 44 6 (Z oa D oc) D (XD (T1 (LW lo R)))):=fun b l=>by
  have e:=l.whole Q4;exact⟨Zc e 1,Zc e 2,O4 b (((D0.mono).trans q0).trans (l.mono)),oF (oF m0 q0 fun k hk=>by omega) l⟩
 go_wp2_with fail
 go_loopg [6,7,12] n (fun mm av bv iv wr=>∃i a:Nat,i<=n/\mm=n-i/\av=H B (a:Nat)/\bv=U true/\iv=H B (i:Nat)/\a<=64/\G (a=(T0 (LW lo R) i).length)/\G (F0 W wr))
 case atStart=>exact⟨0,0,by omega,rfl,rfl,rfl,rfl,by omega,rfl,Zt⟩
 obtain⟨i,a0,v7,rfl,rfl,rfl,rfl,S6,s0,Q⟩:=hrel;obtain⟨y1,y2,z,_⟩:=O.o wr Q.o;obtain⟨la,lc,h2,_⟩:=z.c2;rw[HN.o]at h2;by_cases g0:i<n/\lo=false
 ·obtain⟨g0,rfl⟩:=g0
  simp only[LW]at s0 f0 O r0
  have h0:(i:Int)<(n:Int):=by omega
  go_wp2_with fail
  go_loopg [6,7,13] (n-(i+1)) (fun mm av bv kv wx=>∃j k a:Nat,k<=n/\mm=n-k/\av=H B (a:Nat)/\bv=U true/\kv=H B (k:Nat)/\a<=64/\G (k=i+1+j)/\G (a=(T0 R i++T3 R i j).length)/\G (F0 W wx))
  case atStart=>exact⟨0,i+1,a0,by omega,rfl,rfl,rfl,by go_num,S6,rfl,by show _=_;rw[s0.o];simp[T3],Q⟩
  obtain⟨j,k,a,x7,rfl,rfl,rfl,rfl,ha,HK,HA,t0⟩:=hrel;generalize wr=wx at*;obtain⟨y1,y2,z,i0⟩:=O.o wx t0.o;obtain⟨la,lc,h2,h3⟩:=z.c2;rw[HN.o]at h2;by_cases y7:k<n
  ·have T6:(k:Int)<(n:Int):=by omega
   obtain⟨r,hr⟩:∃r,R[i]?=J r:=⟨_,gE (show i<R.length by have:=HN.o;omega)⟩;obtain⟨s,hs⟩:∃s,R[k]?=J s:=⟨_,gE (show k<R.length by have:=HN.o;omega)⟩;have d:G (R[i]?=J r/\R[k]?=J s):=⟨hr,hs⟩;have V6:=Za (JL wx q rts R i k r s z f.o.1 hr hs);go_wp2_with fail;refine V6.o.mono ?_;rintro e w2 ⟨rfl,W6⟩;have w0:=Za (t0.o.trans W6)
   cases C4:vI r s with
   |false=>
    have Y:G (a=(T0 R i++T3 R i (j+1)).length):=by
     have e0:Re (Ua r) (Ua s)=I:=by
      cases hy:Re (Ua r) (Ua s)with
      |none=>rfl
      |some y=>
       have:=(DN (f.o.1.rl r (mG d.o.1)) (f.o.2 r (mG d.o.1)) (f.o.2 s (mG d.o.2))).2 ⟨y,hy⟩;rw[C4]at this
       cases this
     have e1:GV R i (i+1+j)=[]:=by
      have e:=d.o.2;rw[HK.o]at e;simp only[GV,d.o.1,e,e0]
     show _=_
     rw[HA.o,show T3 R i (j+1)=T3 R i j++GV R i (i+1+j)from rfl,e1,x8]
    go_wp2_with fail;go_roundg (n-(k+1))
    case measure=>omega
    exact⟨j+1,k+1,a,by omega,rfl,rfl,rfl,by go_num,ha,by show _=_;have:=HK.o;omega,Y,w0⟩
   |true=>
    obtain⟨y,hy⟩:=(DN (f.o.1.rl r (mG d.o.1)) (f.o.2 r (mG d.o.1)) (f.o.2 s (mG d.o.2))).1 C4;obtain⟨p,hp⟩:∃p,TC y.1=p:=⟨_,rfl⟩;have x0:=xM d.o.1 (by rw[<-HK.o];exact d.o.2) hy;rw[<-HA.o,hp]at x0;have t:=GJ (f.o.1.rl r (mG d.o.1)) (f.o.2 r (mG d.o.1)) hy;rw[hp]at t;have y0:=Za t
    have X6:p.pan.size<=maxLen:=by
     have e:=t.1;unfold Y5 XP at e;simp only[Bool.and_eq_true,decide_eq_true_eq]at e;unfold maxLen;omega
    have n0:XP p.pan=true:=by
     have e:=t.1;unfold Y5 at e;simp only[Bool.and_eq_true]at e;exact e.1.1
    have z7:a<D:=by have:=(iG.1 x0).1;have:=f0.o;omega
    have Y:G (a+1=(T0 R i++T3 R i (j+1)).length):=by
     have e:=d.o.2;rw[HK.o]at e
     have e1:GV R i (i+1+j)=[(r.name,s.name,TC y.1)]:=by simp only[GV,d.o.1,e,hy]
     show _=_
     rw[HA.o,show T3 R i (j+1)=T3 R i j++GV R i (i+1+j)from rfl,e1];simp[Nat.add_assoc]
    obtain⟨y1,y2,z,i0⟩:=O.o w2 w0.o;obtain⟨la,lc,h2,h3⟩:=z.c2;rw[HN.o]at h2;obtain⟨g,ma,mc,ca,cc,pa,pc,rfl,b0,Y6,Z6,_⟩:=h3 i r d.o.1;obtain⟨g',a7,b7,c7,d7,e7,f7,e,u,D4,E4,_⟩:=h3 k s d.o.2;injection e with e;injection e with e _ _;subst e;obtain⟨og,e,A⟩:=zV i0 f0.o x0;subst e;have o0:w2.cell? ⟨og,a*6,I⟩=J (E r.name):=A 0 _ rfl;have o1:=A 1 _ rfl;have o2:=A 2 _ rfl;have o3:=A 3 _ rfl;have o4:=A 4 _ rfl;have o5:=A 5 _ rfl;have u0:w2.cell? ⟨g,i*13,I⟩=J (E r.name):=b0 0 _ rfl;have u1:w2.cell? ⟨g,k*13,I⟩=J (E s.name):=u 0 _ rfl
    have A7:(a:Int)<(D:Int):=by omega
    have B7:decide ((D:Int)<=(a:Int))=false:=by simp;omega
    have g7:G (∀b,z8 M 86 #[v0 #[E p.pan,H B p.mcc,H B p.am,H B p.cur]] b fun e w'=>e=C (U true)/\F0 b w'):=fun b=>by have e:=Pc b p X6;rw[y0.o.1]at e;exact e
    have c0:G (∀P b,b.heap[P]?=J (Rv p)->F0 w2 b->b.cell? ⟨X,1,I⟩=J (V (J ⟨q,0,I⟩))/\b.cell? ⟨q,2,I⟩=J (Z (J ⟨g,0,I⟩) n lc)/\b.cell? ⟨P,0,I⟩=J (E p.pan)/\b.cell? ⟨P,1,I⟩=J (H B p.mcc)/\b.cell? ⟨P,2,I⟩=J (H B p.am)/\b.cell? ⟨P,3,I⟩=J (H B p.cur)):=fun P b hP l=>⟨l.get y1,l.get h2,Zc hP 0,Zc hP 1,Zc hP 2,Zc hP 3⟩
    have i7:G (∀b,F0 w2 b->z8 M 87 #[V (J ⟨g,i*13,I⟩),v0 #[E p.pan,H B p.mcc,H B p.am,H B p.cur]] b fun e w'=>e=C (U true)/\F0 b w'):=fun b l=>by
     have e:=Qm b g (i*13) r ma mc ca cc pa pc rts.length p (fun j v hv=>l.get (b0 j v hv)) (Y6.fr l) (Z6.fr l) (f.o.1.rl r (mG d.o.1)) n0;rw[y0.o.2.1]at e;exact e
    have k7:G (∀b,F0 w2 b->z8 M 87 #[V (J ⟨g,k*13,I⟩),v0 #[E p.pan,H B p.mcc,H B p.am,H B p.cur]] b fun e w'=>e=C (U true)/\F0 b w'):=fun b l=>by
     have e:=Qm b g (k*13) s a7 b7 c7 d7 e7 f7 rts.length p (fun j v hv=>l.get (u j v hv)) (D4.fr l) (E4.fr l) (f.o.1.rl s (mG d.o.2)) n0;rw[y0.o.2.2]at e;exact e
    go_upto_region 24 with fail
    go_quiet (fail)
    have d0:G (F0 w2 (w2.drewN nq)):=⟨rfl,rfl,rfl,j1 _,fun _ _ _=>rfl⟩;have v2:=d0.o.get o2;have v3:=d0.o.get o3;have v4:=d0.o.get o4;have v5:=d0.o.get o5;generalize w2.drewN nq=w3 at*;go_upto_region 27 with fail;generalize hP:w3.alloc _=w4 at*;have F4:=Za (d0.o.trans (Ed hP));have z0:=Za (BW hP);obtain⟨P,l7⟩:∃P,w3.heap.size=P:=⟨_,rfl⟩;rw[l7]at z0 ⊢;obtain⟨_,_,p0,p1,p2,p3⟩:=c0.o P w4 z0.o F4.o;go_wp2_with fail;refine(g7.o _).mono ?_;rintro e w5 ⟨rfl,G4⟩;have j0:=Za (F4.o.trans G4);have A0:=Za (G4.whole z0.o)
    have m7:G (∀b,G (F0 w5 b)->z8 M 87 #[V (J ⟨g,i*13,I⟩),v0 #[E p.pan,H B p.mcc,H B p.am,H B p.cur]] b fun e w'=>e=C (U true)/\G (F0 w5 w')/\w'.cell? ⟨X,1,I⟩=J (V (J ⟨q,0,I⟩))/\w'.cell? ⟨q,2,I⟩=J (Z (J ⟨g,0,I⟩) n lc)/\w'.cell? ⟨P,0,I⟩=J (E p.pan)/\w'.cell? ⟨P,1,I⟩=J (H B p.mcc)/\w'.cell? ⟨P,2,I⟩=J (H B p.am)/\w'.cell? ⟨P,3,I⟩=J (H B p.cur)):=fun b l=>(i7.o b (j0.o.trans l.o)).mono (by
     rintro e w' ⟨he,h4⟩;have h5:=l.o.trans h4
     exact⟨he,h5,c0.o P w' (h5.whole A0.o) (j0.o.trans h5)⟩)
    have hS:=c0.o P w5 A0.o j0.o;have n7:G (F0 w5 w5.drew):=Zt.drew;go_upto_region 30 with fail
    go_region_held3 (fun b=>b.cell? ⟨X,1,I⟩=J (V (J ⟨q,0,I⟩))/\b.cell? ⟨q,2,I⟩=J (Z (J ⟨g,0,I⟩) n lc)/\b.cell? ⟨P,0,I⟩=J (E p.pan)/\b.cell? ⟨P,1,I⟩=J (H B p.mcc)/\b.cell? ⟨P,2,I⟩=J (H B p.am)/\b.cell? ⟨P,3,I⟩=J (H B p.cur)) (first|assumption|go_keep) (first
     |(go_at_call 87;refine(m7.o _ (by assumption)).mono ?_;rintro e w7 ⟨rfl,k0,C7⟩))
    have l0:=Za (j0.o.trans k0.o);have H4:=Za (k0.o.whole A0.o)
    have o7:G (∀b,G (F0 w7 b)->z8 M 87 #[V (J ⟨g,k*13,I⟩),v0 #[E p.pan,H B p.mcc,H B p.am,H B p.cur]] b fun e w'=>e=C (U true)/\G (F0 w7 w')/\w'.cell? ⟨X,1,I⟩=J (V (J ⟨q,0,I⟩))/\w'.cell? ⟨q,2,I⟩=J (Z (J ⟨g,0,I⟩) n lc)/\w'.cell? ⟨P,0,I⟩=J (E p.pan)/\w'.cell? ⟨P,1,I⟩=J (H B p.mcc)/\w'.cell? ⟨P,2,I⟩=J (H B p.am)/\w'.cell? ⟨P,3,I⟩=J (H B p.cur)):=fun b l=>(k7.o b (l0.o.trans l.o)).mono (by
     rintro e w' ⟨he,h4⟩;have h5:=l.o.trans h4
     exact⟨he,h5,c0.o P w' (h5.whole H4.o) (l0.o.trans h5)⟩)
    have hS:=c0.o P w7 H4.o l0.o;have n7:G (F0 w7 w7.drew):=Zt.drew;go_upto_region 31 with fail
    go_region_held3 (fun b=>b.cell? ⟨X,1,I⟩=J (V (J ⟨q,0,I⟩))/\b.cell? ⟨q,2,I⟩=J (Z (J ⟨g,0,I⟩) n lc)/\b.cell? ⟨P,0,I⟩=J (E p.pan)/\b.cell? ⟨P,1,I⟩=J (H B p.mcc)/\b.cell? ⟨P,2,I⟩=J (H B p.am)/\b.cell? ⟨P,3,I⟩=J (H B p.cur)) (first|assumption|go_keep) (first
     |(go_at_call 87;refine(o7.o _ (by assumption)).mono ?_;rintro e w9 ⟨rfl,k0,D7⟩))
    have p7:=Za (w0.o.trans (l0.o.trans k0.o));go_wp2_with fail;go_roundg (n-(k+1))
    case measure=>omega
    exact⟨j+1,k+1,a+1,by omega,rfl,by go_num,rfl,by go_num,by omega,by show _=_;have:=HK.o;omega,Y,p7⟩
  have T6:¬(k:Int)<(n:Int):=by omega
  have Y:G (a=(T0 R (i+1)).length):=by
   show _=_
   rw[HA.o,show T0 R (i+1)=T0 R i++T3 R i (R.length-(i+1))from rfl,HN.o,show n-(i+1)=j from by have:=HK.o;omega]
  go_wp2_with fail;go_roundg (n-(i+1))
  case measure=>omega
  exact⟨i+1,a,by omega,rfl,rfl,rfl,by go_num,ha,Y,t0⟩
 have q7:i<n/\lo=true\/¬i<n:=by cases lo<;>simp at g0 ⊢<;>omega
 obtain rfl:a0=D:=by
  rw[s0.o,<-f0.o]
  cases lo with
  |true=>show(T0 [] i).length=0;rw[DR];rfl
  |false=>rw[show i=n by simp at g0;omega,<-HN.o];rfl
 have HT:G (z8 M 88 #[V (J ⟨L,0,I⟩),Z oa a0 oc] wr fun e w'=>e=C (.tuple #[])/\(∃K N m,OW w c w' L v nv K mv N (x+1) xs es m/\m.length=fs.length+4/\∀e,e∈m->e∈fs\/e.n<=8796093022208)/\SG [1,5,6,8,9,10] c w w'):=by
  obtain⟨c2,I4,r7⟩:=Q6.o;obtain⟨F,s7⟩:=HC.o;obtain⟨_,_,_,i0⟩:=O.o wr Q.o;have E7:=(iA.1 HS.o.bx).1;have J4:=F.trans I4 A4.o.size;have K4:SG [1,5,6,8,9,10] c w wr:=SG.cls (c1:=c) (SG.cls (c1:=c1) (A4.o.mono) F P6.o fun k hk=>by rw[hk,F X B4.o.1,B4.o.2];decide) (Wz.refl _ _) (S:=fun _=>False) Q.o (by simp);refine(EL c2 wr L v nv ov mv kv x xs es fs oa a0 oc _ (r7.keep Q.o (Wz.refl _ _)) (oS i0 (by omega)) (fun k hk=>(I4 k (r0.o.lt k hk).2).trans (s7 k hk)) (fun e he k hk g e1 e2=>?_) z4.o.1 z4.o.2 (by omega)).mono ?_
  ·obtain⟨g',k1,_,cs,k3,_⟩:=HS.o.o.el e (by simpa using he) k hk
   rw[k1]at e1;injection e1 with e1;injection e1 with e1;have:=(iA.1 k3).1;have:=(r0.o.lt g e2).1;omega
  rintro e w' ⟨he,K,N,m,⟨c',q1,q2⟩,q3,q4,q5⟩
  exact⟨he,⟨K,N,m,⟨c',J4.trans q1 K4.size,q2⟩,q3,q4⟩,K4.cls J4 q5 fun k hk=>by revert hk;simp;omega⟩
 rcases q7 with⟨h0,rfl⟩|h0
 case' inl=>have h0:(i:Int)<(n:Int):=by omega
 case' inr=>have h0:¬(i:Int)<(n:Int):=by omega
 all_goals
  go_wp2_with fail;refine HT.o.mono ?_;rintro e w7 ⟨rfl,h7,h8⟩;have H7:=Za (x6 h7 h8);go_wp2_with fail;go_ret;exact⟨rfl,H7.o⟩
def uE (lo:Bool)(b:x9)(X T q:Nat)(a:Value)(R:List Ze)(i:Nat)(c:Value)(wr:x9):Prop:=
 wr.heap[X]?=J (z6 #[V (J ⟨T,0,I⟩),V (J ⟨q,0,I⟩),U lo,U false,c,a] 97)/\wr.ownsRow b.heap.size 35 4 c ((Ut R).take i).length (XQ ((Ut R).take i))/\Fr (fun k=>k=X) b wr
theorem uE.more {lo c wr d X T q i g2 a g h b R p o}(s:wr.heap[X]?=J (z6 #[V (J ⟨T,0,I⟩),V (J ⟨q,0,I⟩),U lo,U false,Z h i g,b] 97))(l:wr.ownsRow c.heap.size 35 4 (Z h i g) i (XQ ((Ut R).take i)))(t:Fr (fun k=>k=X) c wr)(m:(Ut R)[i]?=J p)(w:X<c.heap.size)(u:(wr.drew.alloc o).grownBy d (z9 h i g).ownBlock)(f:d.ownsRow c.heap.size 35 4 (Z (J ⟨g2,0,I⟩) (i+1) a) (i+1) (XQ ((Ut R).take i)++[E p.pan,H B p.mcc,H B p.am,H B p.cur])):
  d.heap[X]?=J (z6 #[V (J ⟨T,0,I⟩),V (J ⟨q,0,I⟩),U lo,U false,Z h i g,b] 97)/\uE lo c X T q b R (i+1) (Z (J ⟨g2,0,I⟩) (i+1) a) (d.setCell ⟨X,4,I⟩ (Z (J ⟨g2,0,I⟩) (i+1) a)):=by
 have n:=(((Fr.refl _ wr).drew).alloc o).grown u fun k j=>z7 j
 have r:=n.whole s fun e=>by have:=(l.lt X e).1;omega
 have hi:=(iG.1 m).1;have e:=heap_setCell_same d X 4 _ _ (Z (J ⟨g2,0,I⟩) (i+1) a) r;refine⟨r,by simpa using e,?_,(t.monoNew n fun k j=>x7 (l.lt k j).1).trans (Tu _ 4)⟩
 have v:((Ut R).take (i+1)).length=i+1:=by rw[j6];omega
 rw[v,show XQ ((Ut R).take (i+1))=XQ ((Ut R).take i)++[E p.pan,H B p.mcc,H B p.am,H B p.cur]from by rw[List.take_add_one,m];simp[XQ]]
 exact oF f (Tu _ 4) fun k j=>by omega
theorem J7 (c w L v nv ov mv kv t xs es fs X)(h:RA c w L v nv ov mv kv t xs es fs)(hX:X∈xs)(ht:QW w)(hc:t<=4611686018427387904)(hE:(fs.length+4)*24<=140737488355328):
  z8 M 47 #[V (J ⟨L,0,I⟩),V (J ⟨X,0,I⟩)] w fun e w'=>e=C (U true)/\(∃O0 P0 n0,OW w c w' L v nv O0 mv P0 (t+1) xs es n0/\n0.length=fs.length+4/\∀e,e∈n0->e∈fs\/e.n<=8796093022208)/\SG [1,5,6,8,9,10] c w w':=by
 obtain⟨ij,Q0,S0,T0,V0⟩:=info_parts R6;obtain⟨T,q,rts,R0,lo,f,P,g,h0,hx,D0,z,o0,e0,_⟩:=(h.tb X hX).now;obtain⟨R,hR⟩:∃R,LW lo R0=R:=⟨_,rfl⟩
 have p0:R.length<=8:=by rw[<-hR];have:=h0.bk.l8;cases lo<;>simp[LW];omega
 have HR:=Za hR;rw[hR]at z e0;have HS:=Za h;have W0:=Za o0;have E0:=Za h0;have HX:=Za hx;have r0:=Za D0;have s0:=Za z;have X0:=Za e0;have Y0:=Za (x6 hc hE);have i0:=Za ((o0 w (Fr.refl _ _)).1.overlaps ht);rw[hR]at i0;have x0:=bC hx 0 _ rfl;obtain⟨d,f0⟩:∃d,(T1 R).length=d:=⟨_,rfl⟩;have A:=Za f0;obtain⟨n,hn⟩:∃n,R0.length=n:=⟨_,rfl⟩;have HN:=Za hn
 have y1:n<=8:=by have:=h0.bk.l8;omega
 have Z0:d<=64:=by
  have:=O8 R R.length;have e3:=j7 p0 p0;unfold T1 at f0;omega
 rw[f0]at i0
 have v0:G ((Ut R).length=d):=by show _=_;rw[Ut,j0];exact f0
 clear h hX ht hc hE h0 hx D0 z o0 e0 f0 hn hR p0;go_enter Tryz.func47,Tryz.ntmps47;go_wp2_with fail;refine i0.o.mono ?_;rintro e r ⟨⟨lv,rfl,j⟩,w0⟩;obtain⟨oa,oc,e⟩:=oL j;subst e;have y0:=Za j;have u:=Za w0
 have G0:G (∃c1,Wz w c c1/\Cl c1 (Z oa d oc) 8/\RA c1 r L v nv ov mv kv t xs es fs):=by
  have Y:Wz w c fun k=>if(z9 oa d oc).ownBlock=J k then 8 else c k:=fun k hk=>if_neg fun e=>by have:=(j.lt k e).1;omega
  exact⟨_,Y,fun k hk=>if_pos hk,HS.o.keep w0 Y⟩
 obtain⟨c1,H0⟩:=G0.o;have HC:=Za H0;clear G0 H0 j w0 i0 x0
 have I0:G (f=true->∃ta tc b,P=Z ta d tc/\∀W,F0 r W->W.ownsRow b 35 4 (Z ta d tc) d (XQ (Ut R))):=fun e=>by
  subst e;obtain⟨_,b,s⟩:vV c w 10 35 4 P (Ut R).length (XQ (Ut R)):=s0.o.1;rw[v0.o]at s;obtain⟨ta,tc,e⟩:=oL s;subst e;exact⟨ta,tc,b,rfl,fun W hf=>oF s (u.o.trans hf) (by simp)⟩
 have O:G (∀W,F0 r W->W.heap[X]?=J (z6 #[V (J ⟨T,0,I⟩),V (J ⟨q,0,I⟩),U lo,U f,P,g] 97)/\W.ownsRow w.heap.size 44 6 (Z oa d oc) d (XD (T1 R))):=fun W hf=>⟨(u.o.trans hf).whole HX.o (by simp),oF y0.o hf (by simp)⟩
 go_upto_region 3 with fail
 go_cut [7] (fun bv wz=>bv=U true/\wz=r)
 case first=>
  have c0:=(O.o r (Fr.refl _ _)).1;have x3:=bC c0 3 _ rfl;have x4:=bC c0 4 _ rfl;clear c0
  cases f with
  |true=>
   obtain⟨ta,tc,b,rfl,_⟩:=I0.o rfl;go_wp2_with fail;go_meet;exact⟨rfl,rfl⟩
  |false=>
   go_wp2_with fail;go_meet;exact⟨rfl,rfl⟩
 case rest=>
 obtain⟨rfl,hw⟩:=hcut;replace hw:=hw.symm;subst hw
 go_upto_block 0 with fail
 go_cut [7] (fun bv wz=>bv=U true/\G (F0 r wz))
 case first=>
  cases f with
  |true=>
   obtain⟨ta,tc,b,rfl,s⟩:=I0.o rfl;have J0:=Za s;clear s;go_wp2_with fail
   go_loopg [7,8] d (fun m bv iv wr=>∃i,i<=d/\m=d-i/\bv=U true/\iv=H B (i:Nat)/\G (F0 r wr))
   case atStart=>exact⟨0,q0 _,rfl,rfl,rfl,Fr.refl _ _⟩
   obtain⟨i,hi,rfl,rfl,rfl,k0⟩:=hrel;obtain⟨r3,r2⟩:=O.o wr k0.o;have r1:=J0.o wr k0.o;have x3:=bC r3 3 _ rfl;by_cases d1:i<d
   ·have z0:(i:Int)<(d:Int):=by omega
    obtain⟨x,hx⟩:∃x,(T1 R)[i]?=J x:=⟨_,gE (by have:=A.o;omega)⟩;obtain⟨n1,n2,p⟩:=x;obtain⟨tg,e,_⟩:=J6 r1 v0.o (show(Ut R)[i]?=J p by rw[Ut,y7,hx];rfl);subst e;obtain⟨og,e,l⟩:=zV r2 A.o hx;subst e;have o2:=l 2 _ rfl;have o3:=l 3 _ rfl;have o4:=l 4 _ rfl;have o5:=l 5 _ rfl
    have A0:G ((Ut R)[i]?=J p):=by rw[Ut,y7,hx];rfl
    clear l r1 r2 r3 hx;go_upto_region 8 with fail;clear x3 o2 o3 o4 o5;generalize hA:wr.alloc _=WA at*;have B0:=Za (k0.o.trans (Ed hA));have K0:=Za (BW hA);obtain⟨PA,L0⟩:∃PA,wr.heap.size=PA:=⟨_,rfl⟩;rw[L0]at K0 ⊢;obtain⟨r3,r2⟩:=O.o WA B0.o;have r1:=J0.o WA B0.o;have x4:=bC r3 4 _ rfl;obtain⟨z1,e,t0,t1,t2,t3⟩:=J6 r1 v0.o A0.o;injection e with e;injection e with e _ _;subst e;clear hA L0 r1 r2 r3;go_upto_region 9 with fail;clear x4 t0 t1 t2 t3;generalize hB:WA.alloc _=WB at*;have f1:=Za (B0.o.trans (Ed hB));have hb:=BW hB;have Y:=EG hB K0.o;have a0:=bC Y 0 _ rfl;have a1:=bC Y 1 _ rfl;have a2:=bC Y 2 _ rfl;have a3:=bC Y 3 _ rfl;have b0:=bC hb 0 _ rfl;have b1:=bC hb 1 _ rfl;have b2:=bC hb 2 _ rfl;have b3:=bC hb 3 _ rfl;clear Y hb hB;go_wp2_with fail;go_roundg (d-(i+1))
    case measure=>omega
    exact⟨i+1,by omega,rfl,rfl,by go_num,f1⟩
   have z0:¬(i:Int)<(d:Int):=by omega
   clear r1 r2 r3;go_wp2_with fail;go_meet;exact⟨rfl,k0⟩
  |false=>
   have c0:=(O.o r (Fr.refl _ _)).1;have x3:=bC c0 3 _ rfl;clear c0;go_wp2_with fail
   go_loopg [7,8] 0 (fun _ bv iv wr=>bv=U true/\iv=H B 0/\G (wr=r))
   case atStart=>exact⟨rfl,rfl,rfl⟩
   obtain⟨rfl,rfl,HW⟩:=hrel;have e:=HW.o;subst e;go_wp2_with fail;go_meet;exact⟨rfl,Fr.refl _ _⟩
 case rest=>
 obtain⟨rfl,d0⟩:=hcut;generalize wc=w2 at*;have x3:=bC (O.o w2 d0.o).1 3 _ rfl
 go_upto_if 96 with fail
 go_cut [] (fun wz=>G (Fr (fun k=>k=X) r wz)/\G (OW r c1 wz L v nv ov mv kv t xs es fs)/\G (∃a2 t2,wz.heap[X]?=J (z6 #[V (J ⟨T,0,I⟩),V (J ⟨q,0,I⟩),U lo,U a2,t2,g] 97)))
 case first=>
  clear x3
  cases f with
  |true=>
   have y:G (Fr (fun k=>k=X) r w2/\OW r c1 w2 L v nv ov mv kv t xs es fs):=⟨d0.o.mono (by simp),c1,Wz.refl _ _,HC.o.2.2.keep d0.o (Wz.refl _ _)⟩;go_wp2_with fail;go_meet;exact⟨y.o.1,y.o.2,_,_,(O.o w2 d0.o).1⟩
  |false=>
   obtain rfl:P=Z I 0 0:=s0.o.1;have g1:G (uE lo r X T q g R 0 (Z I 0 0) w2):=⟨(O.o w2 d0.o).1,oZ _ _ _ _,d0.o.mono (by simp)⟩;go_wp2_with fail
   go_loopg [11] d (fun m iv wr=>∃i tv,i<=d/\m=d-i/\iv=H B (i:Nat)/\G (uE lo r X T q g R i tv wr))
   case atStart=>exact⟨0,_,q0 _,rfl,rfl,g1⟩
   obtain⟨i,tv,hi,rfl,rfl,HM⟩:=hrel;by_cases d1:i<d
   ·have z0:(i:Int)<(d:Int):=by omega
    obtain⟨x,hx⟩:∃x,(T1 R)[i]?=J x:=⟨_,gE (by have:=A.o;omega)⟩;obtain⟨n1,n2,p⟩:=x
    have A0:G ((Ut R)[i]?=J p):=by rw[Ut,y7,hx];rfl
    obtain⟨m1,m2,m3⟩:=HM.o
    have m0:((Ut R).take i).length=i:=by rw[j6,Ut,j0,A.o];omega
    rw[m0]at m2;obtain⟨ta,tc,e⟩:=oL m2;subst e;have m4:=oF y0.o m3 (fun k hk=>by have:=(iA.1 HX.o).1;omega);obtain⟨og,e,l⟩:=zV m4 A.o hx;subst e;have l0:=Za (x6 m2 m3);have i1:=Za m1;have x4:=bC m1 4 _ rfl;have o2:=l 2 _ rfl;have o3:=l 3 _ rfl;have o4:=l 4 _ rfl;have o5:=l 5 _ rfl
    have y4:∀o,(wr.alloc o).cell? ⟨X,4,I⟩=J (Z ta i tc):=fun o=>(World.cell?_alloc_some wr ⟨X,4,I⟩ o (by simp[x4])).trans x4
    clear l hx m1 m2 m3 m4 m0;go_upto_region 14 with fail;refine wp_region_held_drew (S:=fun _=>True) (by kernel_rfl) trivial (fun Q=>?_)
    iterate 4 (refine YO 0 Q ?_;try go_frame)
    iterate 4 ((first|refine YO 0 Q ?_|refine YO 1 Q ?_);try go_frame)
    refine Xz [4,9] ?_;refine Zb rfl (fun K a=>?p1) (Zb rfl (fun K a=>?p2) y9)
    case' p1=>
     try rw[if_pos (by rfl)]
     go_simp;refine a.out _ _ Q (fun _=>?_);clear a K
     try go_frame
     refine Vv 9 (fun K a=>?_);go_simp;refine a.out _ _ Q (fun _=>?_);clear a K
     try go_frame
     refine Vv 10 (fun K a=>?_);go_simp;refine a.out _ _ trivial (fun Q=>?_);clear a K
     try go_frame
    case' p2=>
     try rw[if_pos (by rfl)]
     go_simp;refine a.out _ _ Q (fun _=>?_);clear a K
     try go_frame
     refine Xz [4,10] ?_;refine Zb rfl (fun K a=>?p3) (Zb rfl (fun K a=>?p4) y9)
    case' p3=>
     try rw[if_pos (by rfl)]
     go_simp;refine a.out _ _ Q (fun _=>?_);clear a K
     try go_frame
     refine Vv 10 (fun K a=>?_);go_simp;refine a.out _ _ trivial (fun Q=>?_);clear a K
     try go_frame
    case' p4=>
     try rw[if_pos (by rfl)]
     go_simp;refine a.out _ _ trivial (fun Q=>?_);clear a K
     try go_frame
     refine Vv 4 (fun K a=>?_);have z4:=y4;go_simp;refine a.out _ _ Q (fun _=>?_);clear a K z4
     try go_frame
    all_goals
     refine Vv 11 (fun K a=>?_);refine wp_append_lies _ (.tmp 107) (.tmp 113) 94 rfl r.heap.size 35 ij _ 4 40 Tryz.underlying94 Q0 S0 T0 V0 rfl (by decide) (Z ta i tc) i (XQ ((Ut R).take i)) rfl ?h1 ⟨wr.drew.heap.size,0,I⟩ 1 1 [E p.pan,H B p.mcc,H B p.am,H B p.cur] rfl rfl ?h2 ?h3 (by decide) ?h4 ?h5 ?h6 _ rfl ?_
     case h1=>exact(oF l0.o.1 ((Fr.refl (fun _=>False) wr).drew) (by simp)).alloc _
     case h2=>exact N (aN wr.drew (z6 #[E p.pan,H B p.mcc,H B p.am,H B p.cur] 35))
     case h3=>simp[F]
     case h4=>unfold maxLen;omega
     case h5=>omega
     case h6=>have:=l0.o.2.size;simp;exact Nat.le_succ_of_le this
     intro g2 x1 w8 j g0 j1 _;obtain⟨C0,M0⟩:=uE.more i1.o l0.o.1 l0.o.2 A0.o (nL (iA.1 HX.o).1 u.o.size) g0 j;have k1:=Za M0;have e4:=bC C0 4 _ rfl;have f4:=bF C0 4;clear j g0 j1 M0 C0;refine a.out _ _ trivial (fun Q=>?_);clear a K
     try go_frame
     iterate 2 (refine YO 0 Q ?_;try go_frame)
     refine Vv 14 (fun K a=>?_);go_simp;refine a.out _ _ trivial (fun Q=>?_);clear a K
     try go_frame
     refine wpAnyH_done (by kernel_rfl) ?_ _;clear e4 f4;go_wp2_with fail;go_roundg (d-(i+1))
     case measure=>omega
     exact⟨i+1,_,by omega,rfl,by go_num,k1⟩
   have z0:¬(i:Int)<(d:Int):=by omega
   obtain rfl:i=d:=by omega
   obtain⟨m1,m2,m3⟩:=HM.o;have e3:=bC m1 3 _ rfl;have f3:=bF m1 3
   have y:G (Fr (fun k=>k=X) r (wr.setCell ⟨X,3,I⟩ (U true))/\OW r c1 (wr.setCell ⟨X,3,I⟩ (U true)) L v nv ov mv kv t xs es fs):=by
    have hf:Fr (fun k=>k=X) r (wr.setCell ⟨X,3,I⟩ (U true)):=m3.trans (Tu _ 3)
    have Y:Wz r c1 fun k=>if tv.ownBlock=J k then 10 else c1 k:=fun k hk=>if_neg fun e=>by have:=(m2.lt k e).1;omega
    have N0:=(iA.1 HX.o).1;refine⟨hf,_,Y,HC.o.2.2.tells ((HC.o.1 X N0).trans r0.o) hf Y ?_⟩;have e:=heap_setCell_same wr X 3 _ _ (U true) m1;refine X0.o _ _ true tv g ((u.o.mono (by simp)).trans hf) (HC.o.1.trans Y u.o.size) (by simpa using e) ⟨⟨fun k hk=>if_pos hk,r.heap.size,?_⟩,s0.o.2.imp id fun⟨D,e1,e2⟩=>⟨D,e1,(e2.keep (u.o) HC.o.1 (by simp)).keep hf Y fun k hk=>?_⟩⟩
    ·have hl:(Ut R).length=i:=by rw[Ut,j0];exact A.o
     rw[List.take_of_length_le (by omega)]at m2;exact oF m2 (Tu _ 3) (fun k hk=>by have:=u.o.size;omega)
    rw[hk,HC.o.1 X N0,r0.o]
    decide
   have l1:G ((wr.setCell ⟨X,3,I⟩ (U true)).heap[X]?=J (z6 #[V (J ⟨T,0,I⟩),V (J ⟨q,0,I⟩),U lo,U true,tv,g] 97)):=by
    have e:=heap_setCell_same wr X 3 _ _ (U true) m1
    show _=_
    simpa using e
   clear m1 m2 m3;go_wp2_with fail;go_meet;exact⟨y.o.1,y.o.2,_,_,l1.o⟩
 clear x3;obtain⟨o1,q1,s1⟩:=hcut;generalize wc=W at*;obtain⟨a2,t2,v1⟩:=s1.o
 apply_assumption
 exact BN c c1 w r W L v nv ov mv kv t xs es fs X T q rts R0 lo oa d oc n a2 t2 g HS.o ⟨E0.o.bk,E0.o.ar⟩ (iA.1 HX.o).1 r0.o Y0.o (fun W hf=>by obtain⟨_,_,_,h⟩:=W0.o W hf;exact Sm.of h) (by rw[HR.o];exact y0.o) u.o ⟨HC.o.1,HC.o.2.1⟩ o1.o q1.o v1 (by rw[HR.o];exact A.o) HN.o _ _ _ _ _ _ _ _ _ _ _ _ _ _ _ _ _ _ _ _ _ _ _ _ _ _ _ _ _ _ _ _ _ _ _ _ _ _ _ _ _ _ _ _ _ _ _ _ _ _ _ _ _ _ _ _ _ _ _ _ _ _ _ _ _ _ _ _ _ _ _ _ _ _ _ _ _ _ _ _ _ _ _ _ _ _ _ _ _ _ _ _ _ _ _ _ _ _ _ _ _ _ _ _ _ _ _ _ _ _ _ _ _ _ _ _ _ _ _ _ _ _ _ _ _ _ _ _ _ _ _ _ _ _ _ _ _ _ _ _ _ _ _ _ _ _ _ _ _ _ _ _ _ _ _ _ _ _ _ _ _ _ _ _ _ _ _ _ _ _ _ _ _ _ _ _ _ _ _ _ _ _ _ _ _ _ _ _ _ _ _ _ _ _ _ _ _ _ _ _ _ _ _ _ _ _ _ _ _ _ _ _ _ _ _ _ _ _ _ _ _ _ _ _ _ _ _ _ _ _ _ _ _ _ _ _ _ _ _ _ _ _ _ _ _ _ _ _ _ _
theorem EM (c w L v nv ov mv kv x O es fs X)(h:RA c w L v nv ov mv kv x O es fs)(hX:X∈O)(a:LP w):
  z8 M 49 #[V (J ⟨L,0,I⟩),V (J ⟨X,0,I⟩)] w fun e w'=>e=C (U true)/\(∃v' y,OW w c w' L v' nv ov mv kv x y es fs)/\SG [1,2] c w w':=by
 obtain⟨ii,hi,m0,n0,o0⟩:=info_parts TS;obtain⟨T,q,rts,R,lo,p0,H0,I0,l,hx,K0,_,q0,_,Q⟩:=(h.tb X hX).now;have P:=Za h;have HB:=Za l;have HX:=Za hx;have r0:=Za Q;have s0:=Za hX
 have t0:G (X≠L):=fun e=>by have u:=(h.tb X hX).cx;rw[e,h.bc]at u;cases u
 have HH:=Za a
 have HI:G (∀W,F0 w W->z8 M 23 #[V (J ⟨T,0,I⟩)] W fun e w'=>e=C (E (GN rts R))/\F0 W w'):=fun W hf=>(q0 W (hf.mono)).1.image l (a.fr hf)
 have v0:=Za l.load
 have L0:(GN rts R).size<=200000:=by
  have e:(GN rts R).size=(WS (XF (Wc rts R))).length:=by simp[GN,ByteArray.size]
  have:=(J4 l.bk l.ar l.im).2;rw[e,KL];omega
 have x0:=Zc hx 0;go_enter Tryz.func49,Tryz.ntmps49;go_wp2_with fail;refine(HI.o w Zt).mono ?_;rintro e w1 ⟨rfl,Y⟩;have x0:=bC (Y.whole HX.o) 0 _ rfl;have a0:=Za Y;go_wp2_with fail;refine(HI.o w1 a0.o).mono ?_;rintro e w2 ⟨rfl,w0⟩;have z:=Za (a0.o.trans w0);go_wp2_with fail;refine(zM (GN rts R) w2 (by omega) (HH.o.fr z.o)).mono ?_;intro e w3 hT;rw[v0.o]at hT;obtain⟨⟨T',Bb,zb,TT,ra,rc,rfl,l1,l2,l3,l4,l5,l6,l7,l8⟩,y0⟩:=hT;have b0:G (GL w3 w2.heap.size T' rts R true):=⟨Bb,TT,l7,l1,l2,l8,l3,zb,ra,rc,l4,l5,by omega⟩;have f0:=Za (z.o.trans y0);have HI:=Za ((b0.o.tq HB.o).image HB.o (HH.o.fr f0.o));generalize GN rts R=S at*
 have M0:¬(200000:Int)<(S.size:Int):=by omega
 go_wp2_with fail;refine HI.o.mono ?_;rintro e j ⟨rfl,g0⟩;have g:=Za (f0.o.trans g0);have h0:=Za g0;obtain⟨va,vc,hv⟩:=oL P.o.tv;subst hv;have A:=Za (P.o.keep g.o.drew (Wz.refl _ _));have c0:=bC (g.o.whole P.o.bx) 0 _ rfl;have x1:=bC (g.o.whole HX.o) 1 _ rfl;obtain⟨n,hn⟩:∃n,O.length=n:=⟨_,rfl⟩;have HN:=Za hn;rw[hn]at c0 A
 have J0:n<=20:=by have:=A.o.few;omega
 have N0:=(iA.1 P.o.bx).1
 have O0:L+1<=j.heap.size:=by have:=g.o.size;omega
 by_cases z0:n<20
 ·have i0:(n:Int)<20:=by omega
  have A0:G (∀g2 b r,((j.drew.alloc (z6 #[V (J ⟨T',0,I⟩),V (J ⟨q,0,I⟩),U true,U false,Z I 0 0,Z I 0 0] 97)).alloc (z6 #[V (J ⟨j.heap.size,0,I⟩)] 93)).grownBy r (z9 va n vc).ownBlock->r.ownsRow (L+1) 93 1 (Z (J ⟨g2,0,I⟩) (n+1) b) (n+1) ((O.map fun X=>y8 (J ⟨X,0,I⟩))++[V (J ⟨j.heap.size,0,I⟩)])->((z9 va n vc).ownBlock=J g2\/j.heap.size+1<=g2)->
    r.cell? ⟨L,0,I⟩=J (Z va n vc)/\r.cell? ⟨X,1,I⟩=J (V (J ⟨q,0,I⟩))/\(∀o,r.frozen? ⟨L,o,I⟩=false)/\G ((∃v' y,OW w c (r.setCell ⟨L,0,I⟩ (Z (J ⟨g2,0,I⟩) (n+1) b)) L v' nv ov mv kv x y es fs)/\SG [1,2] c w (r.setCell ⟨L,0,I⟩ (Z (J ⟨g2,0,I⟩) (n+1) b)))):=by
   intro g2 b r f m s;have hn:=HN.o;subst hn;obtain⟨j0,B0⟩:=Lp j.drew (z6 #[V (J ⟨T',0,I⟩),V (J ⟨q,0,I⟩),U true,U false,Z I 0 0,Z I 0 0] 97);have p:=g.o.drew.trans j0
   have t:Wz w c fun k=>if k=j.heap.size then 9 else if w.heap.size<=k then 0 else c k:=fun k hk=>by
    have:=g.o.size
    dsimp only
    rw[if_neg (by omega),if_neg (by omega)]
   have hT:=r0.o _ _ w3 w2.heap.size j.heap.size T' p t b0.o ⟨(h0.o.drew.trans j0).mono,fun k h1 h2=>by
    have:=z.o.size;have:=h0.o.size
    dsimp only
    rw[if_neg (by omega),if_pos (by omega)]⟩ (if_pos rfl) B0
   have B:=P.o.keep p t;obtain⟨u,c',C0,k0,D0⟩:=B.more hT f m (s.imp id fun h=>by simpa using h) z0;have e2:=(Po B.tc f (s.imp id fun h=>by simpa using h));obtain⟨_,_,_,E0⟩:=e2
   refine⟨Zc u 0,bC (E0.whole (p.whole HX.o) (fun e=>by
    have:=B.tb X s0.o;rw[this.cx]at e
    cases e)) 1 _ rfl,bF u,⟨_,_,c',t.trans C0 p.size,k0⟩,SG.cls (p.mono) t D0 fun i hi=>hi⟩
  have G0:G (j.drew.ownsRow (L+1) 93 1 (Z va n vc) n (O.map fun X=>y8 (J ⟨X,0,I⟩))):=by have e:=A.o.tv;rw[HN.o]at e;exact e
  go_upto_region 8 with fail
  have d0:=fun o=>(Lp j o).1.get c0
  have d1:=fun o o'=>(Ic j o o').1.get c0
  have D:=fun o=>(Lp j o).1.get x1
  have y2:=fun o o'=>(Ic j o o').1.get x1
  refine wp_region_held_drew (S:=fun W=>W.cell? ⟨X,1,I⟩=J (V (J ⟨q,0,I⟩))) (by kernel_rfl) x1 (fun a=>?_)
  iterate 4 (refine YO 0 a ?_;try go_frame)
  iterate 4 (refine YO 1 a ?_;try go_frame)
  refine Xz [4,9] ?_;refine Zb rfl (fun K d=>?_) (Zb rfl (fun K d=>?_) y9)
  all_goals
   rw[if_pos (by rfl)];go_simp;refine d.out _ _ (by first|exact a|exact D _|exact y2 _ _) (fun a=>?_)
   try go_frame
  focus
   refine Vv 9 (fun K d=>?_);go_simp;refine d.out _ _ (by first|exact a|exact D _|exact y2 _ _) (fun a=>?_)
   try go_frame
  all_goals
   refine ZX 10 a ?_
   try go_frame
  rotate_left
  focus
   refine Xz [4,11] ?_;refine Zb rfl (fun K d=>?_) (Zb rfl (fun K d=>?_) y9)
   all_goals
    rw[if_pos (by rfl)];go_simp;refine d.out _ _ (by first|exact a|exact D _|exact y2 _ _) (fun a=>?_)
    try go_frame
  rotate_left
  focus
   refine Xz [4,12] ?_;refine Zb rfl (fun K d=>?_) (Zb rfl (fun K d=>?_) y9)
   all_goals
    rw[if_pos (by rfl)];go_simp;refine d.out _ _ (by first|exact a|exact D _|exact y2 _ _) (fun a=>?_)
    try go_frame
  rotate_left 2
  iterate 2
   focus
    refine Vv 11 (fun K d=>?_);go_simp;refine d.out _ _ (by first|exact a|exact D _|exact y2 _ _) (fun a=>?_)
    try go_frame
   rotate_left
  rotate_left
  focus
   refine Vv 4 (fun K d=>?_);go_simp;refine d.out _ _ (by first|exact a|exact D _|exact y2 _ _) (fun a=>?_)
   try go_frame
  rotate_left
  iterate 3
   focus
    refine Vv 12 (fun K d=>?_);go_simp;refine d.out _ _ (by first|exact a|exact D _|exact y2 _ _) (fun a=>?_)
    try go_frame
   rotate_left
  all_goals
   refine Xz [13] ?_;refine Zb rfl (fun K d=>?_) y9;refine step_append_lies _ rfl (.tmp 53) (.tmp 61) 53 rfl (L+1) 93 ii _ 1 8 Tryz.underlying53 hi m0 n0 o0 rfl (by decide) (Z va n vc) n (O.map fun X=>y8 (J ⟨X,0,I⟩)) rfl (by exact(G0.o.alloc _).alloc _) ⟨j.heap.size+1,0,I⟩ 1 1 [V (J ⟨j.heap.size,0,I⟩)] rfl rfl (by exact N (Ic j _ _).2.2) (by simp[F]) (by decide) (by unfold maxLen;omega) (by omega) (by simp;omega) _ rfl (fun g2 b r m f s _=>?_);obtain⟨e0,u,fz,l0⟩:=A0.o g2 b r f m (s.imp id fun h=>by first|omega|(rw[h];simp));refine d.out _ _ u (fun a=>?_)
   try go_frame
   refine ZX 14 a ?_
   try go_frame
   refine ZX 15 a ?_
   try go_frame
   refine Vv 16 (fun K d=>?_);go_simp;refine d.out _ _ (by rw[cO _ _ _ _ (by intro e;injection e with e;exact t0.o e.symm)];exact u) (fun _=>?_)
   try go_frame
   refine wpAnyH_done (by kernel_rfl) ?_ _;go_wp2;go_ret;exact⟨by simp,l0.o⟩
 have i0:¬(n:Int)<20:=by omega
 go_wp2;go_ret;exact⟨by simp,⟨_,_,c,Wz.refl _ _,P.o.keep g.o (Wz.refl _ _)⟩,g.o.mono⟩
