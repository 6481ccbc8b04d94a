import Derived.Laws.CopyOwn
import Derived.Test.YtccikgogjfbpeaaGreatDoorFb
open Option renaming none->I,some->J
open Go.Value renaming slice->P,string->V,oneCell'->U,string->E,int->H,pointer->D,slice->N,pointer->y6,bool->x2
open Go.World renaming news_of_block->Z
open Go renaming World->K,Value->z6,Calls->x3
open Go.IntKind renaming i64->B
open Or renaming inl->G,inr->z7
open Go.RowKit renaming Hid->M
open Nat renaming zero_le->R,zero_add->y7,le_refl->x1
open Go.Proofs.Tryz renaming prog->C
open List renaming append_nil->F,mem_singleton->z8,mem_append->z9,length_append->y8,getElem?_set->y9,getElem?_map->x0
namespace Go.Proofs.YtccikgogjfbpeaaGreatDoor
set_option maxRecDepth 30000
set_option maxHeartbeats 8000000
open Go.RowKit
theorem U6:(C.info? 9).map (fun i=>(i.zero,i.size,i.bytes))=J (J (V ByteArray.empty),1,16):=by kernel_rfl
theorem Nh:(C.info? 28).map (fun i=>(i.zero,i.size,i.bytes))=J (J (P I 0 0),1,24):=by kernel_rfl

def Ni (w:K)(A:Nat)(b:List ByteArray):Prop:=
 ∃a:Array z6,w.heap[A]?=J (.cells a 9)/\a.size=b.length+2/\(∀(k:Nat)(s:ByteArray),b[k]?=J s->a[k]?=J (E s))/\a[b.length]?=J (E ⟨#[98,101,104,105,110,100]⟩)/\a[b.length+1]?=J (E ⟨#[105,116]⟩)
theorem Ni.fr {w w':K}{S:Nat->Prop}{A:Nat}{a:List ByteArray}(h:Ni w A a)(b:Fr S w w')(c:¬S A):Ni w' A a:=by
 obtain⟨d,e,f⟩:=h;exact⟨d,b.whole e c,f⟩
theorem Ni.strs {w:K}{A:Nat}{a:List ByteArray}(h:Ni w A a):Yz w (J ⟨A,0,I⟩) a:=by
 intro k s b;obtain⟨e,c,_,d,_⟩:=h;exact⟨A,0,rfl,by rw[y7];exact bC c k _ (d k s b)⟩
theorem Ni.row {w:K}{A L:Nat}{a:List ByteArray}(h:Ni w A a)(d:L<A)(e:a.length+2<=maxLen):∃f,w.ownsRow (L+1) 9 1 (P (J ⟨A,0,I⟩) (a.length+2) (a.length+2)) (a.length+2) f:=by
 obtain⟨b,g,c,_⟩:=h;exact⟨b.toList,by simp[c],.inr ⟨A,a.length+2,b,rfl,d,g,x1 _,e,by omega,by rw[List.take_of_length_le (by simp[c])]⟩⟩
theorem Ni.lay {W:K}{A:Nat}{a:List ByteArray}{b:List z6}(h:W.heap[A]?=J (.cells (splice b 0 (a.map E)).toArray 9))(j:b.length=a.length+2):
  Ni ((W.setCell ⟨A,a.length,I⟩ (V ⟨#[98,101,104,105,110,100]⟩)).setCell ⟨A,a.length+1,I⟩ (V ⟨#[105,116]⟩)) A a/\(∃u,W.cell? ⟨A,a.length,I⟩=J u)/\W.frozen? ⟨A,a.length,I⟩=false/\(∃u,(W.setCell ⟨A,a.length,I⟩ (V ⟨#[98,101,104,105,110,100]⟩)).cell? ⟨A,a.length+1,I⟩=J u)/\(W.setCell ⟨A,a.length,I⟩ (V ⟨#[98,101,104,105,110,100]⟩)).frozen? ⟨A,a.length+1,I⟩=false:=by
 obtain⟨e,c⟩:∃e,(splice b 0 (a.map E)).toArray=e:=⟨_,rfl⟩
 have f:e.size=a.length+2:=by rw[<-c];simp[splice,j]
 have g:∀(k:Nat)(s:ByteArray),a[k]?=J s->e[k]?=J (E s):=fun k s d=>by
  have:=(iG.1 d).1;rw[<-c];simp[splice,List.getElem?_append,this];exact(iG.1 d).2
 rw[c]at h;have i:=heap_setCell_same W A a.length _ _ (V ⟨#[98,101,104,105,110,100]⟩) h;have l:=heap_setCell_same _ A (a.length+1) _ _ (V ⟨#[105,116]⟩) i;refine⟨⟨_,l,by simp[f],fun k s d=>?_,?_,?_⟩,⟨_,bC h _ _ (Array.getElem?_eq_getElem (by omega))⟩,bF h _,⟨_,bC i _ _ (Array.getElem?_eq_getElem (by simp;omega))⟩,bF i _⟩
 ·have:=(iG.1 d).1
  rw[Array.getElem?_setIfInBounds_ne (by omega),Array.getElem?_setIfInBounds_ne (by omega)];exact g k s d
 ·rw[Array.getElem?_setIfInBounds_ne (by omega),Array.getElem?_setIfInBounds_self_of_lt (by omega)]
 ·rw[Array.getElem?_setIfInBounds_self_of_lt (by simp;omega)]
def BI (o:Nat×ByteArray×ByteArray):Obj:=.cells #[H B (o.1:Nat),V o.2.1,V o.2.2] 38


def Ja (w:K)(b o:Nat):Prop:=
 ∃(k c:Int)(s a:ByteArray)(d i e:Int)(g:Option Addr)(f j:Nat)(l:Bool)(h:List ByteArray),(-9223372036854775808<=c/\c<=9223372036854775807/\h.length=f/\Yz w g h/\a.size<=maxLen/\(f+6)*16<=140737488355328)/\
  w.cell? ⟨b,o,I⟩=J (H B k)/\w.cell? ⟨b,o+1,I⟩=J (H B c)/\w.cell? ⟨b,o+2,I⟩=J (V s)/\w.cell? ⟨b,o+3,I⟩=J (V a)/\w.cell? ⟨b,o+4,I⟩=J (H B d)/\
  w.cell? ⟨b,o+5,I⟩=J (H B i)/\w.cell? ⟨b,o+6,I⟩=J (H B e)/\w.cell? ⟨b,o+7,I⟩=J (P g f j)/\w.cell? ⟨b,o+8,I⟩=J (x2 l)
theorem Yz.frL {w w':K}{L:Nat}{a:Option Addr}{l:List ByteArray}(h:Yz w a l)(c:Fr (fun k=>L<=k) w w')(i:w.heap.size<=L):Yz w' a l:=by
 intro k s d;obtain⟨g,o,e,b⟩:=h k s d;have f:g<w.heap.size:=bL w _ b;exact⟨g,o,e,(c.cell (p:=⟨g,o+k,I⟩) f (by show¬L<=g;omega)).trans b⟩
theorem Ja.fr {w w':K}{b o L:Nat}(h:Ja w b o)(f:Fr (fun k=>L<=k) w w')(i:b<w.heap.size)(l:w.heap.size<=L):Ja w' b o:=by
 obtain⟨k,m,s,a,c,n,d,q,r,t,v,x,⟨y,z,A,B,C⟩,D,c1,E,F,G,H,M,N,O⟩:=h
 have g:∀j u,w.cell? ⟨b,o+j,I⟩=J u->w'.cell? ⟨b,o+j,I⟩=J u:=fun j u e=>(f.cell (p:=⟨b,o+j,I⟩) i (by show¬L<=b;omega)).trans e
 exact⟨k,m,s,a,c,n,d,q,r,t,v,x,⟨y,z,A,B.frL f l,C⟩,g 0 _ D,g 1 _ c1,g 2 _ E,g 3 _ F,g 4 _ G,g 5 _ H,g 6 _ M,g 7 _ N,g 8 _ O⟩
theorem SU.taken {c f:Nat->Nat}{w w':K}{L:Nat}{v m n o p:z6}{g:Nat}{d:List Nat}{es r:List Ue}{Q:List Nat}(h:SU c w L v m n o p g d es r)(i:St Q c w w')(j:WJ w c f)(a:2∉Q/\0∉Q/\9∉Q/\10∉Q/\11∉Q):
  (w'.ownsRow (L+1) 93 1 v d.length (d.map fun X=>y6 (J ⟨X,0,I⟩))/\Cl f v 2)/\∀X,X∈d->Lv f w' X:=by
 have q:∀{k t:Nat},c k∈Q->t∉Q->c k≠t:=fun s a e=>a (e▸s)
 refine⟨XI h.tv h.tc i j fun k b=>q b a.1,fun X l=>(h.tb X l).keep i j fun k b=>⟨q b a.2.1,q b a.2.2.2.1,q b a.2.2.2.2,fun e=>?_⟩⟩;obtain⟨_,_,_,_,_,_,_,_,_,_,_,_,_,_,u,_⟩:=h.tb X l;exact q b a.2.2.1 (e▸u)
def B1 (d:K)(L:Nat)(a:Option Addr)(n b:Nat)(x:ByteArray)(i:Nat)(wr:K):Prop:=
 ∃c,wr.ownsRow (L+1) 9 1 (P a n b) n c/\(∀k,k<i->c[k]?=J (V x))/\Fr (fun k=>(N a n b).ownBlock=J k) d wr
theorem B1.step {b wr:K}{L A n c:Nat}{x:ByteArray}{i:Nat}(h:B1 b L (J ⟨A,0,I⟩) n c x i wr)(j:i<n):B1 b L (J ⟨A,0,I⟩) n c x (i+1) (wr.setCell ⟨A,i,I⟩ (V x))/\(∃u,wr.cell? ⟨A,i,I⟩=J u)/\wr.frozen? ⟨A,i,I⟩=false:=by
 obtain⟨l,a,d,f⟩:=h;have m:=a.1;obtain⟨g,_⟩:=a.stored i (V x);refine⟨⟨_,g,fun k o=>?_,f.setCell (p:=⟨A,i,I⟩) (G rfl) _⟩,?_,a.frozenAt i⟩
 ·by_cases e:k=i
  ·subst e
   rw[List.getElem?_set_self (by omega)]
  ·rw[List.getElem?_set_ne (by omega)]
   exact d k (by omega)
 ·rw[a.cellAt i (by omega),gE (by omega)]
  exact⟨_,rfl⟩
def Nj (w:K)(c:Nat->Nat)(w':K)(L:Nat)(v d e f g:z6)(a:Nat)(h:List Nat)(es i:List Ue):Prop:=∃b,WJ w c b/\SU b w' L v d e f g a h es i
theorem Nk (c:Nat->Nat)(w:K)(L:Nat)(v nv ov mv kv:z6)(r:Nat)(xs:List Nat)(es fs:List Ue)(la:Option Addr)(n c0:Nat)(ys:List z6)(h:SU c w L v nv ov mv kv r xs es fs)(hl:w.ownsRow (L+1) 9 1 (P la n c0) n ys)(n0:Cl c (P la n c0) 7)
  (o0:∀e,e∈es->∀k,k<e.n->∀g,e.a=J ⟨g,0,I⟩->(N la n c0).ownBlock≠J g)(hc:r<=4611686018427387904)(hE:(es.length+4)*24<=140737488355328)(hN:(n+4)*16<=140737488355328):
  x3 C 84 #[D (J ⟨L,0,I⟩),P la n c0] w fun e w'=>e=.returned (.tuple #[])/\∃s y es',Nj w c w' L v s ov y kv (r+1) xs es' fs/\es'.length=es.length+4/\(∀e,e∈es'->e∈es\/e.n<=8796093022208)/\St [1,3,4,7] c w w':=by
 obtain⟨ii,D0,E0,G0,H0⟩:=info_parts Nh;obtain⟨ij,O,g0,h0,i0⟩:=info_parts U6;have HS:=Za h;have p0:=Za (MC w L v nv ov mv kv r h.bx hc);have HL:=Za hl;have b0:=Za n0;have q0:=Za o0;have HE:=Za hE
 have X0:n<=8796093022204:=by omega
 have I0:=Za hN;clear h hl n0 o0 hc hE hN;go_enter Tryz.func84,Tryz.ntmps84;go_wp2_with fail;refine p0.o.mono ?_;rintro e w1 ⟨⟨x,rfl⟩,e0,j0⟩;have r0:=Za e0;have s0:=Za j0;have t0:M (B1 w1 L la n c0 x 0 w1):=⟨ys,oF HL.o j0 (fun k l=>by omega),fun k l=>by omega,Fr.refl _ _⟩;clear e0 j0 p0;go_wp2_with fail
 go_loopg [5] n (fun m kv wr=>∃i,i<=n/\m=n-i/\kv=H B (i:Nat)/\M (B1 w1 L la n c0 x i wr))
 case atStart=>exact⟨0,R _,rfl,rfl,t0⟩
 case round=>
  obtain⟨i,hi,rfl,rfl,HM⟩:=hrel;by_cases J0:i<n
  ·have K0:(i:Int)<(n:Int):=by omega
   obtain⟨_,h1,_⟩:=HM.o;obtain⟨A,_,e,_⟩:=h1.form (by omega);injection e with e _ e3;subst e e3;obtain⟨v0,⟨u,hu⟩,Y0⟩:=HM.o.step J0;have L0:=Za v0;clear v0 h1;go_wp2_with fail;go_roundg (n-(i+1))
   case measure=>omega
   case rel=>exact⟨i+1,by omega,rfl,by go_num,L0⟩
  ·have K0:¬(i:Int)<(n:Int):=by omega
   obtain rfl:i=n:=by omega
   have M0:M (K9 3 4 7 28 9 1 (fun a b=>Ji v a ov b kv (r+1)) c w L x c wr nv mv (P la i c0) i es []):=by
    obtain⟨zs,z1,z2,z3⟩:=HM.o;have Q:=HS.o;have hF:Fr (fun k=>k=L\/(N la i c0).ownBlock=J k) w wr:=(s0.o.mono fun k l=>G l).trans (z3.mono fun k l=>z7 l);refine⟨WJ.refl _ _,Q.n.keepL hF (WJ.refl _ _) (fun k l=>?_) (fun e he k l g eg=>?_),⟨zs,z1,fun k j u l hj=>?_,b0.o,fun e he k l g e1 e2=>?_⟩,hF.mono fun k l=>?_,z3.whole r0.o fun e=>?_,Q.bc⟩
    ·rcases l with e|e
     ·rw[e,Q.bc];decide
     ·rw[b0.o k e];decide
    ·rintro(e|e)
     ·obtain⟨g',k1,k2,_⟩:=Q.n.el _ he k l
      rw[k1]at eg;injection eg with eg;injection eg with eg;rw[eg,e,Q.bc]at k2
      cases k2
     ·exact q0.o _ (by simpa using he) k l g eg e
    ·have O:=(iG.1 hj).1
     obtain rfl:j=0:=by simpa[LA]using O
     have:E x=u:=by simpa[LA]using hj
     rw[<-this,Nat.mul_one];exact z2 k l
    ·exact absurd e2 (q0.o e (by simpa using he) k l g e1)
    ·rcases l with e|e
     ·rw[e,Q.bc];decide
     ·rw[b0.o k e];decide
    ·have:=b0.o L e
     rw[Q.bc]at this
     cases this
   clear HM t0 s0 r0;go_wp2_with fail
   go_loopg [1,6] 4 (fun m lv jv wr=>∃j c' es' s y,j<=4/\m=4-j/\jv=H B (j:Nat)/\M (K9 3 4 7 28 9 1 (fun a b=>Ji v a ov b kv (r+1)) c w L x c' wr s y lv (i+j) es' [])/\M (es'.length=es.length+j/\∀e,e∈es'->e∈es\/e.n<=8796093022208))
   case atStart=>exact⟨0,c,es,nv,mv,by omega,rfl,rfl,M0,⟨rfl,fun e he=>G he⟩⟩
   case round=>
    obtain⟨j,c',es',s,y,hj,rfl,rfl,HT,S⟩:=hrel;by_cases Z0:j<4
    ·have N0:(j:Int)<4:=by omega
     obtain⟨_,T,_⟩:=HT.o.ls;obtain⟨lb,cap,el⟩:=oL T;subst el;have d0:=HT.o.sh.nm;rw[F]at d0;obtain⟨na,nc,en⟩:=oL d0;subst en;obtain⟨ma,mc,em⟩:=oL HT.o.sh.ma;subst em;have O0:=Za d0
     have P0:(es'.length+1)*24<=140737488355328:=by have:=HE.o;have:=S.o.1;omega
     obtain⟨q,hq⟩:∃q,es'.length=q:=⟨_,rfl⟩;have HQ:=Za hq
     have c2:wr.cell? ⟨L,2,I⟩=J (P na q nc):=by rw[<-hq];exact bC HT.o.bx 2 _ rfl
     have a1:L+1<=wr.heap.size:=(iA.1 HT.o.bx).1
     have b1:q<=5864062014805:=by omega
     rw[hq]at P0;clear T d0 hq
     go_wp2_with (at_builtin;refine wpList_append_lies _ rfl (.tmp 27) (.tmp 29) 55 rfl (L+1) 28 ii _ 1 24 Tryz.underlying55 D0 E0 G0 H0 rfl (by decide) (P na q nc) q (es'.map Ue.val) rfl ?h1 ⟨wr.heap.size,0,I⟩ 1 1 [P lb (i+j) cap] rfl rfl ?h2 ?h3 (by decide) ?h4 ?h5 ?h6 _ rfl ?h7)
     case h1=>rw[<-HQ.o];exact O0.o.alloc _
     case h2=>exact Z (aN wr _)
     case h3=>simp[U]
     case h4=>unfold maxLen;omega
     case h5=>omega
     case h6=>simp;omega
     case h7=>
      intro g2 T0 w2 d f p _;rw[<-HQ.o]at d f p;obtain⟨k0,c1,w0⟩:=HT.o.s1 (i:=2) (by decide) (fun W a b u hW=>by have e:=heap_setCell_same W L 2 _ _ u hW;simpa[Ji]using e) f d (p.imp id (by omega));have d2:=bC k0 2 _ rfl;have Q0:=bF k0 2;rw[HQ.o]at d2;have X:=Za w0;rw[HQ.o]at X;clear w0 d f p c2 k0;go_upto_region 9 with fail;generalize w2.setCell _ _=W3 at*;have c4:W3.cell? ⟨L,4,I⟩=J (P ma q mc):=bC X.o.bx 4 _ rfl;have d1:L+1<=W3.heap.size:=(iA.1 X.o.bx).1;clear d2 Q0
      go_wp2_with (at_builtin;refine wpList_append_lies _ rfl (.tmp 37) (.tmp 39) 28 rfl (L+1) 9 ij _ 1 16 Tryz.underlying28 O g0 h0 i0 rfl (by decide) (P ma q mc) q (es'.map fun e=>E e.m) rfl ?k1 ⟨W3.heap.size,0,I⟩ 1 1 [V x] rfl rfl ?k2 ?k3 (by decide) ?k4 ?k5 ?k6 _ rfl ?k7)
      case k1=>have e:=X.o.sh.ma;rw[HQ.o]at e;exact e.alloc _
      case k2=>exact Z (aN W3 _)
      case k3=>simp[U]
      case k4=>unfold maxLen;omega
      case k5=>omega
      case k6=>simp;omega
      case k7=>
       intro g5 V0 w5 d f p _;rw[<-HQ.o]at d;obtain⟨l0,c5,x0⟩:=X.o.s2 (i:=4) rfl (by decide) (fun W a b u hW=>by have e:=heap_setCell_same W L 4 _ _ u hW;simpa[Ji]using e) f d (p.imp id (by omega));have d4:=bC l0 4 _ rfl;have R0:=bF l0 4;have Y:=Za x0;rw[HQ.o]at Y;clear x0 d f p c4 l0;go_upto_region 10 with fail;generalize w5.setCell _ _=W6 at*;have f1:L+1<=W6.heap.size:=(iA.1 Y.o.bx).1;obtain⟨y0,T,z0,_⟩:=Y.o.ls;have z:=Za (And.intro T z0)
       have W0:(i+j+1)*16<=140737488355328:=by have:=I0.o;omega
       have A0:M ((es'++[(⟨lb,i+j,cap,x⟩:Ue)]).length=es.length+(j+1)/\∀e,e∈es'++[(⟨lb,i+j,cap,x⟩:Ue)]->e∈es\/e.n<=8796093022208):=⟨by rw[y8,S.o.1];simp;omega,fun e he=>(z9.1 he).elim (S.o.2 e) (fun h=>by rw[z8.1 h];exact z7 (by show i+j<=_;omega))⟩;clear d4 R0 T z0;rcases z.o.1.2.symm with⟨g,_,_,el,_⟩|⟨el,hz⟩
       ·injection el with el _ S0
        subst el S0
        go_wp2_with (at_builtin;refine UU rfl (.tmp 43) (.tmp 45) 28 rfl (L+1) 9 ij _ 1 16 Tryz.underlying28 O g0 h0 i0 rfl g (i+j) cap y0 rfl ?q1 ⟨W6.heap.size,0,I⟩ 1 1 [V x] rfl rfl ?q2 ?q3 ?q4 ?q5 ?q6 _ rfl ?q7)
        case q1=>exact z.o.1.alloc _
        try case q2=>exact Z (aN W6 _)
        case q3=>simp[U]
        case q4=>unfold maxLen;omega
        try case q5=>omega
        case q6=>first|omega|(simp;omega)
        case q7=>
         intro g8 B0 w8 d p
         obtain⟨c8,a0⟩:=Y.o.s3 (by decide) rfl z.o.1 z.o.2 d (by
          rcases p with⟨e,hg⟩|⟨e,hg⟩
          ·exact G ⟨by rw[e],((Fr.refl _ _).alloc _).grown hg fun k l=>G (by injection l with l;omega)⟩
          ·exact z7 ⟨by omega,((Fr.refl _ _).alloc _).grown hg fun k l=>by cases l⟩)
         have m0:=Za a0;clear a0 d p;go_wp2_with fail;go_roundg (4-(j+1))
         case measure=>omega
         case rel=>exact⟨j+1,c8,_,_,_,by omega,rfl,by go_num,m0,A0⟩
       ·injection el with e1 e2 e3
        subst e1 e3;clear e2 hz
        go_wp2_with (at_builtin;refine wpList_append_lies _ rfl (.tmp 43) (.tmp 45) 28 rfl (L+1) 9 ij _ 1 16 Tryz.underlying28 O g0 h0 i0 rfl (by decide) (P I (i+j) 0) (i+j) y0 rfl ?p1 ⟨W6.heap.size,0,I⟩ 1 1 [V x] rfl rfl ?p2 ?p3 (by decide) ?p4 ?p5 ?p6 _ rfl ?p7)
        case p1=>exact z.o.1.alloc _
        case p2=>exact Z (aN W6 _)
        case p3=>simp[U]
        case p4=>unfold maxLen;omega
        case p5=>omega
        case p6=>simp;omega
        case p7=>
         intro g8 B0 w8 d f p _
         have f0:((I:Option Addr)=J ⟨g8,0,I⟩/\Fr (fun k=>k=g8) W6 w8)\/(W6.heap.size<=g8/\F0 W6 w8):=by
          rcases p with e|e
          ·cases e
          ·exact z7 ⟨by omega,((Fr.refl _ _).alloc _).grown f fun k l=>by cases l⟩
         obtain⟨c8,a0⟩:=Y.o.s3 (w2:=w8) (by decide) rfl z.o.1 z.o.2 d f0;have m0:=Za a0;clear a0 d p f f0;go_wp2_with fail;go_roundg (4-(j+1))
         case measure=>omega
         case rel=>exact⟨j+1,c8,_,_,_,by omega,rfl,by go_num,m0,A0⟩
    ·have N0:¬(j:Int)<4:=by omega
     obtain rfl:j=4:=by omega
     have C0:M (∃s y es',Nj w c wr L v s ov y kv (r+1) xs es' fs/\es'.length=es.length+4/\(∀e,e∈es'->e∈es\/e.n<=8796093022208)/\St [1,3,4,7] c w wr):=by
      have ht:=HT.o;have Q:=HS.o;obtain⟨⟨t1,t2⟩,t3⟩:=Q.taken ht.fq ht.ag (by decide)
      have q:∀{k t:Nat},c k∈[1,3,4,7]->t∉[1,3,4,7]->c k≠t:=fun h1 h2 e=>h2 (e▸h1)
      exact⟨s,y,es',⟨c',ht.ag,ht.bx,ht.bc,t1,t2,Q.few,t3,ht.sh,Q.o.keep ht.fq ht.ag fun k l=>⟨q l (by decide),q l (by decide),q l (by decide)⟩⟩,S.o.1,S.o.2,ht.fq⟩
     go_wp2_with fail
     go_end0
     exact⟨rfl,C0.o⟩
def B3 (d:K)(L:Nat)(a:Option Addr)(n b:Nat)(x:ByteArray)(i:Nat)(wr:K):Prop:=
 ∃c,wr.ownsRow (L+1) 44 6 (P a n b) n c/\(∀k j v,k<i->(LA 6 x)[j]?=J v->c[k*6+j]?=J v)/\Fr (fun k=>(N a n b).ownBlock=J k) d wr
theorem B3.step {c wr:K}{L A n d:Nat}{x:ByteArray}{i:Nat}(h:B3 c L (J ⟨A,0,I⟩) n d x i wr)(r:i<n):
  B3 c L (J ⟨A,0,I⟩) n d x (i+1) ((((((wr.setCell ⟨A,i*6,I⟩ (V x)).setCell ⟨A,i*6+1,I⟩ (V x)).setCell ⟨A,i*6+2,I⟩ (V ByteArray.empty)).setCell ⟨A,i*6+3,I⟩ (H B 0)).setCell ⟨A,i*6+4,I⟩ (H B 0)).setCell ⟨A,i*6+5,I⟩ (H B 0)):=by
 obtain⟨g,f,l,m⟩:=h;have o:g.length=n*6:=f.1;have q:=(((((f.stored (i*6) (V x)).1.stored (i*6+1) (V x)).1.stored (i*6+2) (V ByteArray.empty)).1.stored (i*6+3) (H B 0)).1.stored (i*6+4) (H B 0)).1.stored (i*6+5) (H B 0);refine⟨_,q.1,fun k j v s a=>?_,?_⟩
 ·have b:=(iG.1 a).1
  simp[LA]at b;by_cases e:k=i
  ·subst e
   have:j=0\/j=1\/j=2\/j=3\/j=4\/j=5:=by omega
   rcases this with rfl|rfl|rfl|rfl|rfl|rfl<;>simp[LA]at a<;>subst a<;>simp[y9,o]<;>omega
  ·simp only[y9]
   rw[if_neg (by omega),if_neg (by omega),if_neg (by omega),if_neg (by omega),if_neg (by omega),if_neg (by omega)];exact l k j v (by omega) a
 ·exact(((((m.setCell (p:=⟨A,i*6,I⟩) (G rfl) _).setCell (p:=⟨A,i*6+1,I⟩) (G rfl) _).setCell (p:=⟨A,i*6+2,I⟩) (G rfl) _).setCell (p:=⟨A,i*6+3,I⟩) (G rfl) _).setCell (p:=⟨A,i*6+4,I⟩) (G rfl) _).setCell (p:=⟨A,i*6+5,I⟩) (G rfl) _
theorem Pu:(C.info? 41).map (fun i=>(i.zero,i.size,i.bytes))=J (J (P I 0 0),1,24):=by kernel_rfl
theorem IT (c:Nat->Nat)(w:K)(L:Nat)(v nv ov mv kv:z6)(z:Nat)(xs:List Nat)(es X:List Ue)(la:Option Addr)(n c0:Nat)(ys:List z6)(h:SU c w L v nv ov mv kv z xs es X)(hl:w.ownsRow (L+1) 44 6 (P la n c0) n ys)(C0:Cl c (P la n c0) 8)
  (D0:∀e,e∈X->∀k,k<e.n->∀g,e.a=J ⟨g,0,I⟩->(N la n c0).ownBlock≠J g)(hc:z<=4611686018427387904)(hE:(X.length+4)*24<=140737488355328)(hN:(n+4)*72<=140737488355328):
  x3 C 88 #[D (J ⟨L,0,I⟩),P la n c0] w fun e w'=>e=.returned (.tuple #[])/\∃p0 q0 Q,Nj w c w' L v nv p0 mv q0 (z+1) xs es Q/\Q.length=X.length+4/\(∀e,e∈Q->e∈X\/e.n<=8796093022208)/\St [1,5,6,8] c w w':=by
 obtain⟨ii,Y0,Z0,a1,b1⟩:=info_parts Pu;obtain⟨ij,d1,g1,i1,j1⟩:=info_parts U6;obtain⟨iv,E0,G0,H0,I0⟩:=info_parts SS;have HS:=Za h;have J0:=Za (MC w L v nv ov mv kv z h.bx hc);have HL:=Za hl;have r0:=Za C0;have K0:=Za D0;have HE:=Za hE
 have J1:n<=1954687338264:=by omega
 have l1:=Za hN;clear h hl C0 D0 hc hE hN;go_enter Tryz.func88,Tryz.ntmps88;go_wp2_with fail;refine J0.o.mono ?_;rintro e w1 ⟨⟨x,rfl⟩,n0,j0⟩;have L0:=Za n0;have s0:=Za j0;go_upto_region 2 with fail;generalize hW:w1.alloc _=W1 at*;have t0:=Za (F2 hW);have k0:M (F0 w1 W1):=IOq hW;obtain⟨O,hO⟩:∃O,w1.heap.size=O:=⟨_,rfl⟩;have K1:=Za hO
 have M0:M (w.heap.size<=O):=by have:=j0.size;show _<=_;omega
 rw[hO]at t0 ⊢;have N0:M (B3 W1 L la n c0 x 0 W1):=⟨ys,oF (oF HL.o j0 (fun k l=>by omega)) k0.o (by simp),fun k j v l=>by omega,Fr.refl _ _⟩;clear n0 j0 J0 hW hO;go_wp2_with fail
 go_loopg [6] n (fun m kv wr=>∃i,i<=n/\m=n-i/\kv=H B (i:Nat)/\M (B3 W1 L la n c0 x i wr))
 case atStart=>exact⟨0,R _,rfl,rfl,N0⟩
 case round=>
  obtain⟨i,hi,rfl,rfl,HM⟩:=hrel;by_cases m1:i<n
  ·have n1:(i:Int)<(n:Int):=by omega
   obtain⟨_,h1,_⟩:=HM.o;obtain⟨A,_,e,_⟩:=h1.form (by omega);injection e with e _ e3;subst e e3;have r1:=Za (HM.o.step m1);obtain⟨zs,q1,_,q3⟩:=HM.o;have S:=q3.whole t0.o (fun e=>by have:=(HL.o.lt O e).2;have:=M0.o;omega);have o0:=bC S 0 _ rfl;have o1:=bC S 1 _ rfl;have o2:=bC S 2 _ rfl;have o3:=bC S 3 _ rfl;have o4:=bC S 4 _ rfl;have o5:=bC S 5 _ rfl
   have hx:∀r,r<6->∃u,wr.cell? ⟨A,i*6+r,I⟩=J u:=fun r hr=>⟨_,by rw[q1.cellAt (i*6+r) (by omega)];exact gE (by have:zs.length=n*6:=q1.1;omega)⟩
   obtain⟨y0,z0⟩:=hx 0 (by omega);obtain⟨y1,z1⟩:=hx 1 (by omega);obtain⟨y2,z2⟩:=hx 2 (by omega);obtain⟨y3,z3⟩:=hx 3 (by omega);obtain⟨y4,z4⟩:=hx 4 (by omega);obtain⟨y5,z5⟩:=hx 5 (by omega);rw[Nat.add_zero]at z0;have f0:=q1.frozenAt (i*6);have f1:=q1.frozenAt (i*6+1);have f2:=q1.frozenAt (i*6+2);have f3:=q1.frozenAt (i*6+3);have f4:=q1.frozenAt (i*6+4);have f5:=q1.frozenAt (i*6+5);clear q1 q3 S hx h1;go_wp2_with fail;go_roundg (n-(i+1))
   case measure=>omega
   case rel=>exact⟨i+1,by omega,rfl,by go_num,r1⟩
  ·have n1:¬(i:Int)<(n:Int):=by omega
   obtain rfl:i=n:=by omega
   obtain⟨cz,a0,O0⟩:∃cz:Nat->Nat,WJ w c cz/\cz O=0:=⟨fun k=>if k=O then 0 else c k,fun k l=>if_neg (by have:=M0.o;omega),if_pos rfl⟩;have P0:=Za a0;have v1:=Za O0;clear O0
   have Q0:M (St [1,5,6,8] c w W1):=(s0.o.trans (k0.o.mono (by simp))).mono fun k l=>by rw[l,HS.o.bc];decide
   have x1:M (K9 5 6 8 41 44 6 (fun a b=>Ji v nv a mv b (z+1)) cz W1 L x cz wr ov kv (P la i c0) i X []):=by
    obtain⟨zs,z1,z2,z3⟩:=HM.o;have hs:=HS.o;have A1:=(iA.1 hs.bx).1
    have R0:Cl cz (P la i c0) 8:=fun k l=>(a0 k (HL.o.lt k l).2).trans (r0.o k l)
    have hF:Fr (fun k=>k=L\/(N la i c0).ownBlock=J k) w wr:=((s0.o.trans (k0.o.mono (by simp))).mono fun k l=>G l).trans (z3.mono fun k l=>z7 l);refine⟨WJ.refl _ _,hs.o.keepL hF a0 (fun k l=>?_) (fun e he k l g eg=>?_),⟨zs,z1,z2,R0,fun e he k l g e1 e2=>?_⟩,z3.mono fun k l=>?_,z3.whole (k0.o.whole L0.o (by simp)) fun e=>?_,(a0 L A1).trans hs.bc⟩
    ·rcases l with e|e
     ·rw[e,hs.bc];decide
     ·rw[r0.o k e];decide
    ·rintro(e|e)
     ·obtain⟨g',k1,k2,_⟩:=hs.o.el _ he k l
      rw[k1]at eg;injection eg with eg;injection eg with eg;rw[eg,e,hs.bc]at k2
      cases k2
     ·exact K0.o _ (by simpa using he) k l g eg e
    ·exact absurd e2 (K0.o e (by simpa using he) k l g e1)
    ·rw[R0 k l];decide
    ·have:=r0.o L e
     rw[hs.bc]at this
     cases this
   clear HM N0 s0 L0 a0;go_wp2_with fail
   go_loopg [1,7] 4 (fun m lv jv wr=>∃j c' es' v0 w0,j<=4/\m=4-j/\jv=H B (j:Nat)/\M (K9 5 6 8 41 44 6 (fun a b=>Ji v nv a mv b (z+1)) cz W1 L x c' wr v0 w0 lv (i+j) es' [])/\M (es'.length=X.length+j/\∀e,e∈es'->e∈X\/e.n<=8796093022208))
   case atStart=>exact⟨0,_,X,ov,kv,by omega,rfl,rfl,x1,⟨rfl,fun e he=>G he⟩⟩
   case round=>
    obtain⟨j,c',es',v0,w0,hj,rfl,rfl,HT,b0⟩:=hrel;by_cases L1:j<4
    ·have B1:(j:Int)<4:=by omega
     obtain⟨_,d0,_⟩:=HT.o.ls;obtain⟨lb,cap,el⟩:=oL d0;subst el;have l0:=HT.o.sh.nm;rw[F]at l0;obtain⟨na,nc,en⟩:=oL l0;subst en;obtain⟨ma,mc,em⟩:=oL HT.o.sh.ma;subst em;have C1:=Za l0
     have D1:(es'.length+1)*24<=140737488355328:=by have:=HE.o;have:=b0.o.1;omega
     obtain⟨q,hq⟩:∃q,es'.length=q:=⟨_,rfl⟩;have HQ:=Za hq
     have c2:wr.cell? ⟨L,3,I⟩=J (P na q nc):=by rw[<-hq];exact bC HT.o.bx 3 _ rfl
     have M1:L+1<=wr.heap.size:=(iA.1 HT.o.bx).1
     have N1:q<=5864062014805:=by omega
     rw[hq]at D1;clear d0 l0 hq
     go_wp2_with (at_builtin;refine wpList_append_lies _ rfl (.tmp 31) (.tmp 33) 56 rfl (L+1) 41 ii _ 1 24 Tryz.underlying56 Y0 Z0 a1 b1 rfl (by decide) (P na q nc) q (es'.map Ue.val) rfl ?h1 ⟨wr.heap.size,0,I⟩ 1 1 [P lb (i+j) cap] rfl rfl ?h2 ?h3 (by decide) ?h4 ?h5 ?h6 _ rfl ?h7)
     case h1=>rw[<-HQ.o];exact C1.o.alloc _
     case h2=>exact Z (aN wr _)
     case h3=>simp[U]
     case h4=>unfold maxLen;omega
     case h5=>omega
     case h6=>simp;omega
     case h7=>
      intro g2 H1 w2 d f p _;rw[<-HQ.o]at d f p;obtain⟨x0,c1,S0⟩:=HT.o.s1 (i:=3) (by decide) (fun W a b u hW=>by have e:=heap_setCell_same W L 3 _ _ u hW;simpa[Ji]using e) f d (p.imp id (by omega));have d2:=bC x0 3 _ rfl;have E1:=bF x0 3;rw[HQ.o]at d2;have e0:=Za S0;rw[HQ.o]at e0;clear S0 d f p c2 x0;go_upto_region 10 with fail;generalize w2.setCell _ _=W3 at*;have c4:W3.cell? ⟨L,5,I⟩=J (P ma q mc):=bC e0.o.bx 5 _ rfl;have O1:L+1<=W3.heap.size:=(iA.1 e0.o.bx).1;clear d2 E1
      go_wp2_with (at_builtin;refine wpList_append_lies _ rfl (.tmp 41) (.tmp 43) 28 rfl (L+1) 9 ij _ 1 16 Tryz.underlying28 d1 g1 i1 j1 rfl (by decide) (P ma q mc) q (es'.map fun e=>E e.m) rfl ?k1 ⟨W3.heap.size,0,I⟩ 1 1 [V x] rfl rfl ?k2 ?k3 (by decide) ?k4 ?k5 ?k6 _ rfl ?k7)
      case k1=>have e:=e0.o.sh.ma;rw[HQ.o]at e;exact e.alloc _
      case k2=>exact Z (aN W3 _)
      case k3=>simp[U]
      case k4=>unfold maxLen;omega
      case k5=>omega
      case k6=>simp;omega
      case k7=>
       intro g5 I1 w5 d f p _;rw[<-HQ.o]at d;obtain⟨A0,c5,T0⟩:=e0.o.s2 (i:=5) rfl (by decide) (fun W a b u hW=>by have e:=heap_setCell_same W L 5 _ _ u hW;simpa[Ji]using e) f d (p.imp id (by omega));have d4:=bC A0 5 _ rfl;have F1:=bF A0 5;have Y:=Za T0;rw[HQ.o]at Y;clear T0 d f p c4 A0;go_upto_region 11 with fail;generalize w5.setCell _ _=W6 at*;have P1:L+1<=W6.heap.size:=(iA.1 Y.o.bx).1;obtain⟨m0,d0,V0,_⟩:=Y.o.ls;have T:=Za (And.intro d0 V0);have g0:(i+j+1)*72<=140737488355328:=Nat.le_trans (Nat.mul_le_mul_right 72 (show i+j+1<=i+4 by omega)) l1.o;have W0:M ((es'++[(⟨lb,i+j,cap,x⟩:Ue)]).length=X.length+(j+1)/\∀e,e∈es'++[(⟨lb,i+j,cap,x⟩:Ue)]->e∈X\/e.n<=8796093022208):=⟨by rw[y8,b0.o.1];simp;omega,fun e he=>(z9.1 he).elim (b0.o.2 e) (fun h=>by rw[z8.1 h];exact z7 (by show i+j<=_;omega))⟩;have S:=Y.o.fq.whole t0.o (by rw[v1.o];decide);have o0:=bC S 0 _ rfl;have o1:=bC S 1 _ rfl;have o2:=bC S 2 _ rfl;have o3:=bC S 3 _ rfl;have o4:=bC S 4 _ rfl;have o5:=bC S 5 _ rfl;clear d4 F1 d0 V0 S;rcases T.o.1.2.symm with⟨g,_,_,el,_⟩|⟨el,hz⟩
       ·injection el with el _ G1
        subst el G1
        go_wp2_with (at_builtin;refine UU rfl (.tmp 47) (.tmp 49) 41 rfl (L+1) 44 iv _ 6 72 Tryz.underlying41 E0 G0 H0 I0 rfl g (i+j) cap m0 rfl ?q1 ⟨W6.heap.size,0,I⟩ 1 1 [V x,V x,V ⟨#[]⟩,H B 0,H B 0,H B 0] rfl rfl ?q2 ?q3 ?q4 ?q5 ?q6 _ rfl ?q7)
        case q1=>exact T.o.1.alloc _
        try case q2=>exact Z (aN W6 _)
        case q3=>simp[U]
        case q4=>unfold maxLen;omega
        try case q5=>first|exact g0|omega
        case q6=>first|exact g0|omega|(simp;omega)
        case q7=>
         intro g8 h0 w8 d p
         have y:(J (⟨g,0,I⟩:Addr)=J ⟨g8,0,I⟩/\Fr (fun k=>k=g8) W6 w8)\/(W6.heap.size<=g8/\F0 W6 w8):=by
          rcases p with⟨e,hg⟩|⟨e,hg⟩
          ·exact G ⟨by rw[e],((Fr.refl _ _).alloc _).grown hg fun k l=>G (by injection l with l;omega)⟩
          ·exact z7 ⟨by omega,((Fr.refl _ _).alloc _).grown hg fun k l=>by cases l⟩
         have s:w8.ownsRow (L+1) 44 6 (P (J ⟨g8,0,I⟩) (i+j+1) h0) (i+j+1) (m0++LA 6 x):=d;obtain⟨c8,i0⟩:=Y.o.s3 (w2:=w8) (by decide) rfl T.o.1 T.o.2 s y;have B0:=Za i0;clear i0 d p s y;go_wp2_with fail;go_roundg (4-(j+1))
         case measure=>omega
         case rel=>exact⟨j+1,c8,_,_,_,by omega,rfl,by go_num,B0,W0⟩
       ·injection el with e1 e2 e3
        subst e1 e3;clear e2 hz
        go_wp2_with (at_builtin;refine wpList_append_lies _ rfl (.tmp 47) (.tmp 49) 41 rfl (L+1) 44 iv _ 6 72 Tryz.underlying41 E0 G0 H0 I0 rfl (by decide) (P I (i+j) 0) (i+j) m0 rfl ?p1 ⟨W6.heap.size,0,I⟩ 1 1 [V x,V x,V ⟨#[]⟩,H B 0,H B 0,H B 0] rfl rfl ?p2 ?p3 (by decide) ?p4 ?p5 ?p6 _ rfl ?p7)
        case p1=>exact T.o.1.alloc _
        case p2=>exact Z (aN W6 _)
        case p3=>simp[U]
        case p4=>unfold maxLen;omega
        case p5=>first|exact g0|omega
        case p6=>simp;omega
        case p7=>
         intro g8 h0 w8 d f p _
         have y:((I:Option Addr)=J ⟨g8,0,I⟩/\Fr (fun k=>k=g8) W6 w8)\/(W6.heap.size<=g8/\F0 W6 w8):=by
          rcases p with e|e
          ·cases e
          ·exact z7 ⟨by omega,((Fr.refl _ _).alloc _).grown f fun k l=>by cases l⟩
         have s:w8.ownsRow (L+1) 44 6 (P (J ⟨g8,0,I⟩) (i+j+1) h0) (i+j+1) (m0++LA 6 x):=d;obtain⟨c8,i0⟩:=Y.o.s3 (w2:=w8) (by decide) rfl T.o.1 T.o.2 s y;have B0:=Za i0;clear i0 d p f s y;go_wp2_with fail;go_roundg (4-(j+1))
         case measure=>omega
         case rel=>exact⟨j+1,c8,_,_,_,by omega,rfl,by go_num,B0,W0⟩
    ·have B1:¬(j:Int)<4:=by omega
     obtain rfl:j=4:=by omega
     have X0:M (∃p0 q0 Q,Nj w c wr L v nv p0 mv q0 (z+1) xs es Q/\Q.length=X.length+4/\(∀e,e∈Q->e∈X\/e.n<=8796093022208)/\St [1,5,6,8] c w wr):=by
      have ht:=HT.o;have hs:=HS.o
      have hf:St [1,5,6,8] c w wr:=Q0.o.cls P0.o ht.fq fun i hi=>hi
      have ha:=P0.o.trans ht.ag Q0.o.size;obtain⟨⟨t1,t2⟩,t3⟩:=hs.taken hf ha (by decide)
      have q:∀{k t:Nat},c k∈[1,5,6,8]->t∉[1,5,6,8]->c k≠t:=fun h1 h2 e=>h2 (e▸h1)
      exact⟨v0,w0,es',⟨c',ha,ht.bx,ht.bc,t1,t2,hs.few,t3,hs.n.keep hf ha fun k l=>⟨q l (by decide),q l (by decide),q l (by decide)⟩,ht.sh⟩,b0.o.1,b0.o.2,hf⟩
     go_wp2_with fail
     go_end0
     exact⟨rfl,X0.o⟩
theorem NN.at {c:Nat->Nat}{w W:K}{L x y z:Nat}{A B:TypeId}{s q C D:Nat}{t u:Option Addr}{es:List Ue}(h:NN c w L x y z A B s (P t q C) (P u q D) es [])(E:F0 w W){i:Nat}{e:Ue}(f:es[i]?=J e):
  ∃b d,t=J ⟨b,0,I⟩/\u=J ⟨d,0,I⟩/\W.cell? ⟨b,i,I⟩=J (P e.a e.n e.c)/\W.cell? ⟨d,i,I⟩=J (V e.m)/\∀k,k<e.n->∃g,e.a=J ⟨g,0,I⟩/\∀j v,(LA s e.m)[j]?=J v->W.cell? ⟨g,k*s+j,I⟩=J v:=by
 have l:=h.keep E (WJ.refl _ _) (by simp);have o:=l.nm;rw[F]at o;have Q:=(iG.1 f).1;obtain⟨b,_,p,_,_⟩:=o.form (by omega);obtain⟨d,_,r,_,_⟩:=l.ma.form (by omega);injection p with p _ _;injection r with r _ _;subst p r;refine⟨b,d,rfl,rfl,?_,?_,fun k G=>?_⟩
 ·have:=o.cells (g:=b) rfl i _ (by rw[x0,f];rfl)
  rw[YN,y7]at this;exact this
 ·have:=l.ma.cells (g:=d) rfl i _ (by rw[x0,f];rfl)
  rw[YN,y7]at this;exact this
 ·obtain⟨g,H,_,R,M,N⟩:=l.el e (by simpa using mG f) k G
  exact⟨g,H,fun j v O=>bC M _ _ (N j v O)⟩
theorem IU (c:Nat->Nat)(w:K)(L:Nat)(v nv ov mv O:z6)(a0:Nat)(xs:List Nat)(es E:List Ue)(h:SU c w L v nv ov mv O a0 xs es E)(hE:es.length<=8796093022208)(b0:E.length<=8796093022208)(hn:∀e,e∈es\/e∈E->e.n<=maxLen):
  x3 C 29 #[D (J ⟨L,0,I⟩)] w fun e w'=>e=.returned (x2 true)/\F0 w w':=by
 have Q:=Za hn;have h1:=h.n.nm;have h2:=h.o.nm;rw[F]at h1 h2;obtain⟨na,nc,e⟩:=oL h1;subst e;obtain⟨ma,mc,e⟩:=oL h.n.ma;subst e;obtain⟨oa,oc,e⟩:=oL h2;subst e;obtain⟨ka,kc,e⟩:=oL h.o.ma;subst e;obtain⟨q,Z⟩:∃q,es.length=q:=⟨_,rfl⟩;have HQ:=Za Z;obtain⟨u,hu⟩:∃u,E.length=u:=⟨_,rfl⟩;have HU:=Za hu;have N:=Za h;rw[Z,hu]at N
 have HC:M (∀W,F0 w W->W.cell? ⟨L,2,I⟩=J (P na q nc)/\W.cell? ⟨L,4,I⟩=J (P ma q mc)/\W.cell? ⟨L,3,I⟩=J (P oa u oc)/\W.cell? ⟨L,5,I⟩=J (P ka u kc)):=fun W hf=>by
  have b:=hf.whole N.o.bx (by simp);exact⟨bC b 2 _ rfl,bC b 4 _ rfl,bC b 3 _ rfl,bC b 5 _ rfl⟩
 rw[Z]at hE;rw[hu]at b0;clear h hn Z hu h1 h2;go_enter Tryz.func29,Tryz.ntmps29;go_wp2_with fail
 go_loopg [3,4] q (fun m iv _ wr=>∃i,i<=q/\m=q-i/\iv=H B (i:Nat)/\M (F0 w wr))
 case atStart=>exact⟨0,R _,rfl,rfl,(Fr.refl _ _)⟩
 case round=>
  obtain⟨i,hi,rfl,rfl,l⟩:=hrel;obtain⟨S,T,U,X⟩:=HC.o wr l.o;by_cases c0:i<q
  ·have r:(i:Int)<(q:Int):=by omega
   obtain⟨e,p⟩:∃e,es[i]?=J e:=⟨_,gE (by have:=HQ.o;omega)⟩;have s:M (es[i]?=J e):=p;have j:=Q.o e (G (mG p));unfold maxLen at j
   have Y:(e.n:Int)<=9223372036854775807:=by omega
   obtain⟨gn,gm,d,f,s1,_⟩:=N.o.n.at l.o p;subst d f;clear p j;go_wp2_with fail;clear S U T X s1
   go_loopg [4] e.n (fun m O wr=>∃k,k<=e.n/\m=e.n-k/\O=H B (k:Nat)/\M (F0 w wr))
   case atStart=>exact⟨0,R _,rfl,rfl,l⟩
   case round=>
    obtain⟨k,hk,rfl,rfl,a⟩:=hrel;obtain⟨d2,d4,d3,d5⟩:=HC.o wr a.o;obtain⟨d0,e0,d,f,r1,r2,t⟩:=N.o.n.at a.o s.o;injection d with d;injection d with d _ _;injection f with f;injection f with f _ _;subst d f;by_cases x:k<e.n
    ·have y:(k:Int)<(e.n:Int):=by omega
     obtain⟨g,ea,z⟩:=t k x;rw[ea]at r1
     (have t0:wr.cell? ⟨g,k,I⟩=J (V e.m):=(by simpa using z 0 _ rfl);clear t z;go_upto_region 7 with fail)
     go_quiet (fail)
     have A:M (F0 w (wr.drewN nq)):=a.o.trans ⟨rfl,rfl,rfl,x1 _,fun _ _ _=>rfl⟩;go_wp2_with fail;go_roundg (e.n-(k+1))
     case measure=>omega
     case rel=>exact⟨k+1,by omega,rfl,by go_num,A⟩
    ·have y:¬(k:Int)<(e.n:Int):=by omega
     clear t r2;go_wp2_with fail;go_roundg (q-(i+1))
     case measure=>omega
     case rel=>exact⟨i+1,by omega,rfl,by go_num,a⟩
  ·have r:¬(i:Int)<(q:Int):=by omega
   go_wp2_with fail;clear S U T X
   go_loopg [5,6] u (fun m iv _ wr=>∃i,i<=u/\m=u-i/\iv=H B (i:Nat)/\M (F0 w wr))
   case atStart=>exact⟨0,R _,rfl,rfl,l⟩
   case round=>
    obtain⟨i,hi,rfl,rfl,l⟩:=hrel;obtain⟨S,T,U,X⟩:=HC.o wr l.o;by_cases c0:i<u
    ·have r:(i:Int)<(u:Int):=by omega
     obtain⟨e,p⟩:∃e,E[i]?=J e:=⟨_,gE (by have:=HU.o;omega)⟩;have s:M (E[i]?=J e):=p;have j:=Q.o e (z7 (mG p));unfold maxLen at j
     have Y:(e.n:Int)<=9223372036854775807:=by omega
     obtain⟨gn,gm,d,f,s1,_⟩:=N.o.o.at l.o p;subst d f;clear p j;go_wp2_with fail;clear S U T X s1
     go_loopg [6] e.n (fun m O wr=>∃k,k<=e.n/\m=e.n-k/\O=H B (k:Nat)/\M (F0 w wr))
     case atStart=>exact⟨0,R _,rfl,rfl,l⟩
     case round=>
      obtain⟨k,hk,rfl,rfl,a⟩:=hrel;obtain⟨d2,d4,d3,d5⟩:=HC.o wr a.o;obtain⟨d0,e0,d,f,r1,r2,t⟩:=N.o.o.at a.o s.o;injection d with d;injection d with d _ _;injection f with f;injection f with f _ _;subst d f;by_cases x:k<e.n
      ·have y:(k:Int)<(e.n:Int):=by omega
       obtain⟨g,ea,z⟩:=t k x;rw[ea]at r1
       (have t0:wr.cell? ⟨g,k*6,I⟩=J (V e.m):=z 0 _ rfl;have t1:wr.cell? ⟨g,k*6+1,I⟩=J (V e.m):=z 1 _ rfl;have t2:wr.cell? ⟨g,k*6+2,I⟩=J (V ⟨#[]⟩):=z 2 _ rfl;clear t z;go_upto_region 15 with fail)
       go_quiet (fail)
       have A:M (F0 w (wr.drewN nq)):=a.o.trans ⟨rfl,rfl,rfl,x1 _,fun _ _ _=>rfl⟩;go_wp2_with fail;go_roundg (e.n-(k+1))
       case measure=>omega
       case rel=>exact⟨k+1,by omega,rfl,by go_num,A⟩
      ·have y:¬(k:Int)<(e.n:Int):=by omega
       clear t r2;go_wp2_with fail;go_roundg (u-(i+1))
       case measure=>omega
       case rel=>exact⟨i+1,by omega,rfl,by go_num,a⟩
    ·have r:¬(i:Int)<(u:Int):=by omega
     go_wp2_with fail;clear S U T X;go_ret;exact⟨rfl,l.o⟩
theorem Lv.kq {c d:Nat->Nat}{w w':K}{X:Nat}{Q:List Nat}(h:Lv c w X)(f:St Q c w w')(g:WJ w c d)(a:0∉Q/\9∉Q/\10∉Q/\11∉Q):Lv d w' X:=by
 have q:∀{k t:Nat},c k∈Q->t∉Q->c k≠t:=fun i a e=>a (e▸i)
 refine h.keep f g fun k b=>⟨q b a.1,q b a.2.2.1,q b a.2.2.2,fun e=>?_⟩
 obtain⟨_,_,_,_,_,_,_,_,_,_,_,_,_,_,j,_⟩:=h;exact q b a.2.1 (e▸j)
theorem SU.more {c:Nat->Nat}{w d:K}{L X g cap:Nat}{v m p r s:z6}{f:Nat}{a:List Nat}{es x:List Ue}{o:Obj}(h:SU c w L v m p r s f a es x)(A:Lv c w X)(B:(w.alloc o).grownBy d v.ownBlock)
  (C:d.ownsRow (L+1) 93 1 (P (J ⟨g,0,I⟩) (a.length+1) cap) (a.length+1) ((a.map fun X=>y6 (J ⟨X,0,I⟩))++[D (J ⟨X,0,I⟩)]))(u:v.ownBlock=J g\/w.heap.size<=g)(E:a.length<20):
  d.heap[L]?=J (Ji v m p r s f)/\∃j,WJ w c j/\SU j (d.setCell ⟨L,0,I⟩ (P (J ⟨g,0,I⟩) (a.length+1) cap)) L (P (J ⟨g,0,I⟩) (a.length+1) cap) m p r s f (a++[X]) es x/\St [1,2] c w (d.setCell ⟨L,0,I⟩ (P (J ⟨g,0,I⟩) (a.length+1) cap)):=by
 obtain⟨j,i,F,y⟩:=Ng h.tc B u;have z:=y.whole h.bx (fun e=>by rw[h.bc]at e;cases e);have l:St [1,2] c w (d.setCell ⟨L,0,I⟩ (P (J ⟨g,0,I⟩) (a.length+1) cap)):=(y.mono fun k b=>by simp[b]).trans ((UY _ 0).mono fun k b=>by subst b;simp[h.bc])
 have q:∀{k t:Nat},c k∈[1,2]->t∉[1,2]->c k≠t:=fun G H e=>H (e▸G)
 refine⟨z,j,i,⟨?_,(i L (iA.1 h.bx).1).trans h.bc,?_,QJ F,by simp;omega,fun Y M=>?_,h.n.keep l i fun k b=>⟨q b (by decide),q b (by decide),q b (by decide)⟩,h.o.keep l i fun k b=>⟨q b (by decide),q b (by decide),q b (by decide)⟩⟩,l⟩
 ·have e:=heap_setCell_same d L 0 _ _ (P (J ⟨g,0,I⟩) (a.length+1) cap) z
  simpa[Ji]using e
 ·rw[lA,List.map_append]
  exact oB C (by simp) _
 ·exact((z9.1 M).elim (h.tb Y) fun e=>z8.1 e▸A).kq l i (by decide)
theorem SV (c:Nat->Nat)(w:K)(L:Nat)(v nv ov mv kv:z6)(H:Nat)(W:List Nat)(es fs:List Ue)(s:ByteArray)(h:SU c w L v nv ov mv kv H W es fs):
  x3 C 25 #[D (J ⟨L,0,I⟩),V s] w fun e w'=>e=.returned (x2 true)/\(∃v' N,Nj w c w' L v' nv ov mv kv H N es fs)/\St [1,2] c w w':=by
 have HL:=Za h;obtain⟨ii,hi,o0,p0,q0⟩:=info_parts QC;clear h;go_enter Tryz.func25,Tryz.ntmps25;go_wp2_with fail;refine(Kt s w).mono ?_;intro e r m;have O:=Za (Cn s r)
 cases u:XP s with
 |error f=>
  rw[u]at O;obtain⟨rfl,b⟩:=(RS.err u).1 m;have HF:M (F0 w r):=Fr.of_below b;clear m b u;obtain⟨f1,f2⟩:=f
  as_aux_lemma=>
  go_wp2_with fail;refine O.o.mono ?_;intro e w2 m;obtain⟨rfl,b⟩:=(VE.err rfl).1 m;have a:=Za (HF.o.trans b);clear m b;go_wp2;go_ret;exact⟨rfl,⟨v,W,c,WJ.refl _ _,HL.o.keep a.o (WJ.refl _ _)⟩,a.o.mono (by simp)⟩
 |ok p=>
  rw[u]at O;have a0:=Za (And.intro (Oo u) (Dp u));obtain⟨⟨T,Y,TT,vr,vl,ys,rfl,b0,d0,x,e0,f0,g0⟩,b⟩:=(RS.ok u).1 m;have HF:M (F0 w r):=Fr.of_below b;have g:M (w.heap.size<=T/\r.cell? ⟨T,0,I⟩=J (D (J ⟨Y,0,I⟩))/\w.heap.size<=Y/\Bk r Y vr vl p.1 p.2 ys):=⟨b0,d0,e0,f0⟩;have Q:M (r.cell? ⟨T,1,I⟩=J (D (J ⟨TT,0,I⟩))/\XV w.heap.size r TT vr p.2 (ZE (ZA p.2) p.2.length)):=⟨x,g0⟩;clear m b u b0 d0 e0 f0 x g0
  as_aux_lemma=>
  go_wp2_with fail;refine O.o.mono ?_;intro e w2 m;obtain⟨⟨q,body,rfl,hq⟩,b⟩:=(VE.ok rfl).1 m;have a:=Za (HF.o.trans b);have HQ:=Za (hq.less HF.o.size);have y:M (w2.cell? ⟨T,0,I⟩=J (D (J ⟨Y,0,I⟩))/\Bk w2 Y vr vl p.1 p.2 ys):=⟨(b.cell (p:=⟨T,0,I⟩) (bL r _ g.o.2.1) (by simp)).trans g.o.2.1,g.o.2.2.2.fr b (by simp)⟩;have z:M (w2.cell? ⟨T,1,I⟩=J (D (J ⟨TT,0,I⟩))/\XV w.heap.size w2 TT vr p.2 (ZE (ZA p.2) p.2.length)):=⟨(b.cell (p:=⟨T,1,I⟩) (bL r _ Q.o.1) (by simp)).trans Q.o.1,Q.o.2.fr b (by simp)⟩;have d:=Za (HL.o.keep a.o (WJ.refl _ _));clear m b hq;obtain⟨va,vc,hv⟩:=oL d.o.tv;subst hv;have c0:=bC d.o.bx 0 _ rfl;have fz:=bF d.o.bx;obtain⟨n,hn⟩:∃n,W.length=n:=⟨_,rfl⟩;have O:=Za hn;rw[hn]at c0 d
  have t0:n<=20:=by have:=d.o.few;omega
  clear hn;have r0:=Za ((iA.1 HL.o.bx).1);by_cases s0:n<20
  ·have h0:(n:Int)<20:=by omega
   have v0:L+1<=w2.heap.size:=by have:=r0.o;have:=a.o.size;omega
   as_aux_lemma=>
   go_wp2_with (at_builtin;refine wpList_append_lies _ rfl (.tmp 52) (.tmp 57) 53 rfl (L+1) 93 ii _ 1 8 Tryz.underlying53 hi o0 p0 q0 rfl (by decide) (P va n vc) n (W.map fun X=>y6 (J ⟨X,0,I⟩)) rfl ?h1 ⟨w2.heap.size+1,0,I⟩ 1 1 [D (J ⟨w2.heap.size,0,I⟩)] rfl rfl ?h2 ?h3 (by decide) ?h4 ?h5 ?h6 _ rfl ?h7)
   case h1=>have e:=d.o.tv;rw[O.o]at e;exact(e.alloc _).alloc _
   case h2=>exact Z (by have e:=aN (w2.alloc (.cells #[D (J ⟨T,0,I⟩),D (J ⟨q,0,I⟩),x2 false,x2 false,P I 0 0,P I 0 0] 97)) (.cells #[D (J ⟨w2.heap.size,0,I⟩)] 93);simpa using e)
   case h3=>simp[U]
   case h4=>unfold maxLen;omega
   case h5=>omega
   case h6=>simp;omega
   case h7=>
    intro g2 A w8 B j i0 _;generalize R:w2.alloc _=W3 at*;have l:=IOq (S:=fun _=>False) R;have hX:=F2 R
    have t:WJ w c fun k=>if k=w2.heap.size then 9 else if w.heap.size<=k then 0 else c k:=fun k hk=>by
     have:=a.o.size
     dsimp only
     rw[if_neg (by omega),if_neg (by omega)]
    have j0:WJ W3 (fun k=>if k=w2.heap.size then 9 else if w.heap.size<=k then 0 else c k) (fun k=>if k=w2.heap.size then 9 else if w.heap.size<=k then 0 else c k):=WJ.refl _ _;have k0:=HL.o.keep (a.o.trans l) t
    have E:Lv (fun k=>if k=w2.heap.size then 9 else if w.heap.size<=k then 0 else c k) W3 w2.heap.size:=by
     refine⟨w2,w.heap.size,T,q,p.1,p.2,false,P I 0 0,P I 0 0,⟨Y,TT,vr,vl,ys,body,g.o.1,y.o.1,z.o.1,g.o.2.2.1,y.o.2,z.o.2,HQ.o⟩,a0.o.1,a0.o.2,l.mono (by simp),fun k h1 h2=>?_,if_pos rfl,hX,rfl,G rfl⟩
     dsimp only
     rw[if_neg (by omega),if_pos h1]
    have hn:=O.o;subst hn;obtain⟨e1,c',l0,F,m0⟩:=k0.more E j B (i0.imp id fun h=>by have:=Ae R;first|omega|(rw[h];simp)) s0;have c0:=bC e1 0 _ rfl;have fz:=bF e1;have n0:M ((∃v' N,Nj w c (w8.setCell ⟨L,0,I⟩ (P (J ⟨g2,0,I⟩) (W.length+1) A)) L v' nv ov mv kv H N es fs)/\St [1,2] c w (w8.setCell ⟨L,0,I⟩ (P (J ⟨g2,0,I⟩) (W.length+1) A))):=⟨⟨_,_,c',t.trans l0 (a.o.trans l).size,F⟩,St.cls ((a.o.trans l).mono (by simp)) t m0 fun i hi=>hi⟩;clear F j B E i0 e1 l0 m0 t j0 k0 hX l;go_wp2;go_ret;exact⟨rfl,n0.o⟩
  ·have h0:¬(n:Int)<20:=by omega
   as_aux_lemma=>
   go_wp2;go_ret;exact⟨rfl,⟨_,_,c,WJ.refl _ _,d.o⟩,a.o.mono (by simp)⟩
