import Derived.Test.YtccikgogjfbpeaaGreatDoorMd
import Derived.Test.YtccikgogjfbpeaaGreatDoorZb
open Go.Value renaming int->I,slice->V,bool->Y,string->Z,pointer->H,agg->z8,agg->y9
open Go.IntKind renaming i64->J
open Go.Obj renaming cells->U
open Option renaming none->O,some->E
open Nat renaming le_refl->G,le_trans->y7
open Go.RowKit renaming Hid->N
open Go.AllReadyH renaming nil->R
open Go.Proofs.Tryz renaming prog->L
open Go.Ending renaming returned->X
open List renaming mem_singleton->F,find?_eq_none->z6,replicate->z9,find?_append->y4,length_map->y5,length->y8
open Go renaming World->Q,Calls->z7,Value->y6
namespace Go.Proofs.YtccikgogjfbpeaaGreatDoor
set_option maxRecDepth 30000
set_option maxHeartbeats 8000000
open Go.RowKit Go.Shelf
theorem KY {side:Nat}{A:WH}{es es':List X9}(h:es.map X9.A=es'.map X9.A):Xq side A es=Xq side A es':=by
 have e:∀ZP es,st1 side ZP es=ZP.1::(es.map X9.A).flatMap fun B=>Yg ZP (B.at side):=fun ZP es=>by
  unfold st1;rw[List.flatMap_map]
 have a:YX side (A.at side) es=YX side (A.at side) es':=by
  unfold YX
  congr 1
  funext s
  rw[e,e,h]
 unfold Xq;rw[a]
theorem Mv {A:WH}:∀(k:Nat){es es':List X9},es.map X9.A=es'.map X9.A->XQ A k es=XQ A k es'
 |0,es,es',h=>by
  have:=congrArg y8 h;rw[y5,y5]at this;simp only[XQ,this]
 |k+1,es,es',h=>by
  have e:∀n,XQ A k (WP (3-k) n es)=XQ A k (WP (3-k) n es'):=fun n=>by
   refine Mv k ?_
   have f:∀l:List X9,(WP (3-k) n l).map X9.A=(l.map X9.A).filter fun B=>Xp B (3-k) n:=fun l=>by
    unfold WP;rw[List.filter_map];rfl
   rw[f,f,h]
  simp only[XQ];rw[KY h]
  congr 1
  funext n
  rw[e n]
def Sf (A B:WH):Option (UN×Nat):=(XQ A 4 [⟨B,⟨O,0⟩,⟨O,0⟩,⟨O,0⟩,⟨O,0⟩⟩]).find? fun y=>decide (0<y.2)
theorem Mw {A B:WH}(b:∀side s,s∈A.at side->s.1<=s.2){y:UN×Nat}(h:Sf A B=E y):W7 A 4 y.1=true/\W7 B 4 y.1=true:=by
 unfold Sf at h;have c:=List.find?_some h;obtain⟨d,a⟩:=UI b 4 (by omega) _ y (List.mem_of_find?_eq_some h);refine⟨d,?_⟩
 cases e:W7 B 4 y.1 with
 |true=>rfl
 |false=>
  simp[e]at a;simp[a]at c
theorem FO {A B:WH}(c:∀side s,s∈A.at side->s.1<=s.2)(h:Sf A B=O)(p:UN):¬(W7 A 4 p=true/\W7 B 4 p=true):=by
 rintro⟨d,e⟩;unfold Sf at h;rw[z6]at h;obtain⟨y,b,f⟩:=Ro 4 (by omega) [⟨B,⟨O,0⟩,⟨O,0⟩,⟨O,0⟩,⟨O,0⟩⟩] p d;obtain⟨_,a⟩:=UI c 4 (by omega) _ y b;have g:W7 B 4 y.1=W7 B 4 p:=f ⟨B,⟨O,0⟩,⟨O,0⟩,⟨O,0⟩,⟨O,0⟩⟩ (by simp);have i:=h y b;simp only[List.filter_cons,List.filter_nil]at a;rw[g,e]at a;simp at a i;omega
structure BX (w0:Q)(A A2:WH)(B:Nat)(x0 x1 x2 x3:Rl)(a:Option Addr)(c:Nat)(es:List X9)(wx:Q):Prop where
 em:es.map X9.A=[A2]
 sz:wx.heap.size=B+3
 lo:w0.heap.size<=B
 b0:wx.heap[B]?=E (U #[I J ((0:Nat):Int)] 3)
 b1:wx.heap[B+1]?=E (U #[Xg x0 A.s0,Xg x1 A.s1,Xg x2 A.s2,Xg x3 A.s3] 215)
 b2:wx.heap[B+1+1]?=E (U #[V a 1 c] 217)
 ar:QD wx A x0 x1 x2 x3
 nw:UV w0.heap.size wx.heap.size x0 x1 x2 x3
 ars:VF wx a es
 an:∀g o,a=E ⟨g,o,O⟩->w0.heap.size<=g/\g<wx.heap.size
 en:∀e,e∈es->UV w0.heap.size wx.heap.size e.x0 e.x1 e.x2 e.x3
 fr:F0 w0 wx
theorem UV.more {m n a b:Nat}{c d f i:Rl}(h:UV m n c d f i)(k:a<=m)(l:n<=b):UV a b c d f i:=fun x j g o e=>⟨y7 k (h x j g o e).1,nL (h x j g o e).2 l⟩
theorem Dt {w:Q}{A:WH}{b d f g:Rl}(h:QD w A b d f g):VF (w.alloc (U #[V b.a A.s0.length b.c,V d.a A.s1.length d.c,V f.a A.s2.length f.c,V g.a A.s3.length g.c] 215)) (E ⟨w.heap.size,0,O⟩) [⟨A,b,d,f,g⟩]:=by
 intro k e i;have l:=aN w (U #[V b.a A.s0.length b.c,V d.a A.s1.length d.c,V f.a A.s2.length f.c,V g.a A.s3.length g.c] 215)
 cases k with
 |succ k=>simp at i
 |zero=>
  simp at i;subst i;refine⟨QD.fr h ((Fr.refl _ _).alloc _),w.heap.size,0,rfl,fun j v m=>?_⟩;rw[show 0+0*4+j=j from by omega];exact bC l j v (by simpa[R5,Xg]using m)
attribute [local go_sem] Oper.semAt_some
structure KZ (w0:Q)(A A2:WH)(x0 x1 x2 x3:Rl)(a:Option Addr)(es:List X9)(W:Q):Prop where
 em:es.map X9.A=[A2]
 ar:QD W A x0 x1 x2 x3
 nw:UV w0.heap.size W.heap.size x0 x1 x2 x3
 ars:VF W a es
 an:∀g o,a=E ⟨g,o,O⟩->w0.heap.size<=g/\g<W.heap.size
 en:∀e,e∈es->UV w0.heap.size W.heap.size e.x0 e.x1 e.x2 e.x3
 fr:F0 w0 W
theorem KZ.pays {w0 W:Q}{A k:WH}{d f i j:Rl}{a:Option Addr}{es:List X9}(h:KZ w0 A k d f i j a es W):
  z7 L 113 #[z8 #[V d.a A.s0.length d.c,V f.a A.s1.length f.c,V i.a A.s2.length i.c,V j.a A.s3.length j.c],V a 1 1] W fun e w'=>∃B,e=X (.func (.func 212) #[] #[H (E ⟨B,0,O⟩),H (E ⟨B+1+1,0,O⟩),H (E ⟨B+1,0,O⟩)])/\BX w0 A k B d f i j a 1 es w':=by
 refine(Qa A d f i j a 1 1 W).mono ?_;rintro e w' ⟨B,rfl,l,m,n,p,q,b⟩;exact⟨B,rfl,h.em,m,y7 h.fr.size l,n,p,q,h.ar.fr b,h.nw.more (G _) b.size,h.ars.fr b,fun g o e=>⟨(h.an g o e).1,nL (h.an g o e).2 b.size⟩,fun e r=>(h.en e r).more (G _) b.size,h.fr.trans b⟩
theorem KZ.mk1 {w0 d:Q}{A b:WH}{l m n p h i j k:Rl}(r:QD d A l m n p)(s:UV w0.heap.size d.heap.size l m n p)(t:QD d b h i j k)(n2:UV w0.heap.size d.heap.size h i j k)(q:F0 w0 d):
  KZ w0 A b l m n p (E ⟨d.heap.size,0,O⟩) [⟨b,h,i,j,k⟩] (d.alloc (U #[V h.a b.s0.length h.c,V i.a b.s1.length i.c,V j.a b.s2.length j.c,V k.a b.s3.length k.c] 215)):=by
 have f:F0 d (d.alloc (U #[V h.a b.s0.length h.c,V i.a b.s1.length i.c,V j.a b.s2.length j.c,V k.a b.s3.length k.c] 215)):=(Fr.refl _ _).alloc _;refine⟨rfl,r.fr f,s.more (G _) f.size,Dt t,fun g o e=>?_,fun e u=>?_,q.trans f⟩
 ·cases e
  exact⟨q.size,by simp⟩
 ·rw[F.1 u]
  exact n2.more (G _) f.size
theorem BY {W:Q}{P:Nat}{b c:Bool}{t u:TypeId}{v0 v1 v2 v3:y6}(i:W.heap[P+1+1]?=E (U #[v0,v1,v2,v3] t))(j:W.heap[P+1+1+1]?=E (U #[Y c] u))(a d e f:Nat):
    ((((((W.setCell ⟨P+1+1,0,O⟩ (I J (a:Nat))).setCell ⟨P+1+1,1,O⟩ (I J (d:Nat))).setCell ⟨P+1+1,2,O⟩ (I J (e:Nat))).setCell ⟨P+1+1,3,O⟩ (I J (f:Nat))).setCell ⟨P+1+1+1,0,O⟩ (Y b)).heap[P+1+1]?=E (U #[I J (a:Nat),I J (d:Nat),I J (e:Nat),I J (f:Nat)] t))/\
    ((((((W.setCell ⟨P+1+1,0,O⟩ (I J (a:Nat))).setCell ⟨P+1+1,1,O⟩ (I J (d:Nat))).setCell ⟨P+1+1,2,O⟩ (I J (e:Nat))).setCell ⟨P+1+1,3,O⟩ (I J (f:Nat))).setCell ⟨P+1+1+1,0,O⟩ (Y b)).heap[P+1+1+1]?=E (U #[Y b] u))/\
    Fr (fun k=>k=P+1+1\/k=P+1+1+1) W (((((W.setCell ⟨P+1+1,0,O⟩ (I J (a:Nat))).setCell ⟨P+1+1,1,O⟩ (I J (d:Nat))).setCell ⟨P+1+1,2,O⟩ (I J (e:Nat))).setCell ⟨P+1+1,3,O⟩ (I J (f:Nat))).setCell ⟨P+1+1+1,0,O⟩ (Y b)):=by
  have l:=heap_setCell_same W (P+1+1) 0 _ _ (I J (a:Nat)) i;have m:=heap_setCell_same _ (P+1+1) 1 _ _ (I J (d:Nat)) l;have n:=heap_setCell_same _ (P+1+1) 2 _ _ (I J (e:Nat)) m;have o:=heap_setCell_same _ (P+1+1) 3 _ _ (I J (f:Nat)) n
  have g:Fr (fun k=>k=P+1+1) W ((((W.setCell ⟨P+1+1,0,O⟩ (I J (a:Nat))).setCell ⟨P+1+1,1,O⟩ (I J (d:Nat))).setCell ⟨P+1+1,2,O⟩ (I J (e:Nat))).setCell ⟨P+1+1,3,O⟩ (I J (f:Nat))):=
    ((((Fr.refl (fun k=>k=P+1+1) W).setCell (p:=⟨P+1+1,0,O⟩) (.inl rfl) _).setCell (p:=⟨P+1+1,1,O⟩) (.inl rfl) _).setCell (p:=⟨P+1+1,2,O⟩) (.inl rfl) _).setCell (p:=⟨P+1+1,3,O⟩) (.inl rfl) _
  have q:=g.whole j (by show¬P+1+1+1=P+1+1;omega);refine⟨?_,heap_setCell_same _ (P+1+1+1) 0 _ _ (Y b) q,(g.mono (fun k h=>.inl h)).setCell (p:=⟨P+1+1+1,0,O⟩) (.inl (.inr rfl)) _⟩;exact((Fr.refl (fun k=>k=P+1+1+1) _).setCell (p:=⟨P+1+1+1,0,O⟩) (.inl rfl) _).whole o (by show¬P+1+1=P+1+1+1;omega)
theorem Hw {n:Nat}{w w2 W:Q}{S:Nat->Prop}{P:Nat}{y:UN×Nat}{b:Bool}{v:y6}{f g i j:y6}{a:List y6}
  (A:P+1+1+1<w2.heap.size)(d:F0 w w2)(l:∀k,S k->w.heap.size<=k)(m:Fr S w2 W)(o:W.heap[w2.heap.size]?=E (.deferred (E [])))
  (p:W.heap[P+1+1]?=E (U #[I J (y.1.p0:Nat),I J (y.1.p1:Nat),I J (y.1.p2:Nat),I J (y.1.p3:Nat)] 139))(q:W.heap[P+1+1+1]?=E (U #[Y b] 4))(r:v=.tuple #[Mu y.1,Y b]):
  LeavesInM Fence.wide n L Tryz.f67 (f::g::i::j::H (E ⟨P+1+1,0,O⟩)::H (E ⟨P+1+1+1,0,O⟩)::a).toArray (fun e w'=>e=X v/\F0 w w') [{target:=.collected w2.heap.size,args:=#[]}] .returning W:=by
 refine WC [w2.heap.size] W (by simp) (fun D h=>by rw[F.1 h];exact o) ?_;have c:(W.putObj w2.heap.size (.deferred O)).heap[P+1+1]?=_:=(World.putObj_heap_other (by omega)).trans p;have s:(W.putObj w2.heap.size (.deferred O)).heap[P+1+1+1]?=_:=(World.putObj_heap_other (by omega)).trans q;have t:=bC c 0 _ rfl;have c1:=bC c 1 _ rfl;have u:=bC c 2 _ rfl;have x:=bC c 3 _ rfl;have z:=bC s 0 _ rfl;refine⟨.tuple #[Mu y.1,Y b],?_,by rw[r],?_⟩
 ·show(results _ _).run _ (W.putObj w2.heap.size (.deferred O))=_
  simp[results,Tryz.results67,go_sem,t,c1,u,x,z,Mu];rfl
 ·exact d.monoNew (m.mono (T:=fun k=>S k\/k=w2.heap.size) (fun _ h=>.inl h)|>.trans (Rp (.inr rfl) _)) (fun k h=>.inr (h.elim (l k) (fun e=>by have:=d.size;omega)))
def BB (o:Option (UN×Nat)):y6:=match o with
 |some y=>.tuple #[Mu y.1,Y true]
 |none=>.tuple #[Mu ⟨0,0,0,0⟩,Y false]
set_option maxRecDepth 100000 in
theorem IN (w:Q)(r q:Zc)(nr:Nat)(ma:Option Addr)(mc:Nat)(ca:Option Addr)(cc:Nat)(pa:Option Addr)(pc:Nat)(l:Option Addr)(u:Nat)(p:Option Addr)(D:Nat)(a0:Option Addr)(e0:Nat)
    (h1:UL nr r/\UJ r)(h2:UL nr q/\UJ q)(i1:Zw w ma r.mcc)(i2:Zw w ca r.cur)(i3:Zw w l q.mcc)(i4:Zw w p q.cur):
    z7 L 67 #[z8 #[Z r.name,I J r.rank,I J r.digits,I J r.lo,I J r.hi,V ma r.mcc.length mc,Y r.am.isSome,I J (r.am.getD (0,0)).1,I J (r.am.getD (0,0)).2,V ca r.cur.length cc,Y r.decline,Y r.cheapest,V pa r.routes.length pc,I J r.ahead],z8 #[Z q.name,I J q.rank,I J q.digits,I J q.lo,I J q.hi,V l q.mcc.length u,Y q.am.isSome,I J (q.am.getD (0,0)).1,I J (q.am.getD (0,0)).2,V p q.cur.length D,Y q.decline,Y q.cheapest,V a0 q.routes.length e0,I J q.ahead]] w fun e w'=>e=X (BB (Sf (VM r) (VM q)))/\F0 w w':=by
  obtain⟨w0,h0⟩:∃w0,(((w.alloc (U #[Z r.name,I J r.rank,I J r.digits,I J r.lo,I J r.hi,V ma r.mcc.length mc,Y r.am.isSome,I J (r.am.getD (0,0)).1,I J (r.am.getD (0,0)).2,V ca r.cur.length cc,Y r.decline,Y r.cheapest,V pa r.routes.length pc,I J r.ahead] 120)).alloc (U #[Z q.name,I J q.rank,I J q.digits,I J q.lo,I J q.hi,V l q.mcc.length u,Y q.am.isSome,I J (q.am.getD (0,0)).1,I J (q.am.getD (0,0)).2,V p q.cur.length D,Y q.decline,Y q.cheapest,V a0 q.routes.length e0,I J q.ahead] 120)).alloc (U #[I J 0,I J 0,I J 0,I J 0] 139)).alloc (U #[Y false] 4)=w0:=⟨_,rfl⟩;obtain⟨P,hP⟩:∃P,w.heap.size=P:=⟨_,rfl⟩
  have k0:N (F0 w w0):=by show Fr _ _ _;rw[<-h0];exact((((Fr.refl _ _).alloc _).alloc _).alloc _).alloc _
  have D0:N (w0.heap.size=P+4):=by show _=_;rw[<-h0,<-hP];simp
  have E0:N (w0.heap[P]?=E (U #[Z r.name,I J r.rank,I J r.digits,I J r.lo,I J r.hi,V ma r.mcc.length mc,Y r.am.isSome,I J (r.am.getD (0,0)).1,I J (r.am.getD (0,0)).2,V ca r.cur.length cc,Y r.decline,Y r.cheapest,V pa r.routes.length pc,I J r.ahead] 120)):=by
    show _=_
    rw[<-h0,<-hP];exact((((Fr.refl (fun _=>False) _).alloc _).alloc _).alloc _).whole (aN w _) (by simp)
  have G0:N (w0.heap[P+1]?=E (U #[Z q.name,I J q.rank,I J q.digits,I J q.lo,I J q.hi,V l q.mcc.length u,Y q.am.isSome,I J (q.am.getD (0,0)).1,I J (q.am.getD (0,0)).2,V p q.cur.length D,Y q.decline,Y q.cheapest,V a0 q.routes.length e0,I J q.ahead] 120)):=by
    show _=_
    rw[<-h0,<-hP];exact(((Fr.refl (fun _=>False) _).alloc _).alloc _).whole (by have:=aN (w.alloc (U #[Z r.name,I J r.rank,I J r.digits,I J r.lo,I J r.hi,V ma r.mcc.length mc,Y r.am.isSome,I J (r.am.getD (0,0)).1,I J (r.am.getD (0,0)).2,V ca r.cur.length cc,Y r.decline,Y r.cheapest,V pa r.routes.length pc,I J r.ahead] 120)) (U #[Z q.name,I J q.rank,I J q.digits,I J q.lo,I J q.hi,V l q.mcc.length u,Y q.am.isSome,I J (q.am.getD (0,0)).1,I J (q.am.getD (0,0)).2,V p q.cur.length D,Y q.decline,Y q.cheapest,V a0 q.routes.length e0,I J q.ahead] 120);simpa using this) (by simp)
  have H0:N (w0.heap[P+1+1]?=E (U #[I J 0,I J 0,I J 0,I J 0] 139)):=by
    show _=_
    rw[<-h0,<-hP];exact((Fr.refl (fun _=>False) _).alloc _).whole (by have:=aN ((w.alloc (U #[Z r.name,I J r.rank,I J r.digits,I J r.lo,I J r.hi,V ma r.mcc.length mc,Y r.am.isSome,I J (r.am.getD (0,0)).1,I J (r.am.getD (0,0)).2,V ca r.cur.length cc,Y r.decline,Y r.cheapest,V pa r.routes.length pc,I J r.ahead] 120)).alloc (U #[Z q.name,I J q.rank,I J q.digits,I J q.lo,I J q.hi,V l q.mcc.length u,Y q.am.isSome,I J (q.am.getD (0,0)).1,I J (q.am.getD (0,0)).2,V p q.cur.length D,Y q.decline,Y q.cheapest,V a0 q.routes.length e0,I J q.ahead] 120)) (U #[I J 0,I J 0,I J 0,I J 0] 139);simpa using this) (by simp)
  have I0:N (w0.heap[P+1+1+1]?=E (U #[Y false] 4)):=by
    show _=_
    rw[<-h0,<-hP];have:=aN (((w.alloc (U #[Z r.name,I J r.rank,I J r.digits,I J r.lo,I J r.hi,V ma r.mcc.length mc,Y r.am.isSome,I J (r.am.getD (0,0)).1,I J (r.am.getD (0,0)).2,V ca r.cur.length cc,Y r.decline,Y r.cheapest,V pa r.routes.length pc,I J r.ahead] 120)).alloc (U #[Z q.name,I J q.rank,I J q.digits,I J q.lo,I J q.hi,V l q.mcc.length u,Y q.am.isSome,I J (q.am.getD (0,0)).1,I J (q.am.getD (0,0)).2,V p q.cur.length D,Y q.decline,Y q.cheapest,V a0 q.routes.length e0,I J q.ahead] 120)).alloc (U #[I J 0,I J 0,I J 0,I J 0] 139)) (U #[Y false] 4)
    simpa using this
  have J0:N (∀W,F0 w0 W->z7 L 114 #[z8 #[Z r.name,I J r.rank,I J r.digits,I J r.lo,I J r.hi,V ma r.mcc.length mc,Y r.am.isSome,I J (r.am.getD (0,0)).1,I J (r.am.getD (0,0)).2,V ca r.cur.length cc,Y r.decline,Y r.cheapest,V pa r.routes.length pc,I J r.ahead]] W (IL W (VM r))):=fun W j=>Sr W r nr ma mc ca cc pa pc h1.1 h1.2 (i1.fr (k0.o.trans j) (by simp)) (i2.fr (k0.o.trans j) (by simp))
  have K0:N (∀W,F0 w0 W->z7 L 114 #[z8 #[Z q.name,I J q.rank,I J q.digits,I J q.lo,I J q.hi,V l q.mcc.length u,Y q.am.isSome,I J (q.am.getD (0,0)).1,I J (q.am.getD (0,0)).2,V p q.cur.length D,Y q.decline,Y q.cheapest,V a0 q.routes.length e0,I J q.ahead]] W (IL W (VM q))):=fun W j=>Sr W q nr l u p D a0 e0 h2.1 h2.2 (i3.fr (k0.o.trans j) (by simp)) (i4.fr (k0.o.trans j) (by simp))
  have l0:N (∀W,F0 w0 W->W.heap[P]?=E (U #[Z r.name,I J r.rank,I J r.digits,I J r.lo,I J r.hi,V ma r.mcc.length mc,Y r.am.isSome,I J (r.am.getD (0,0)).1,I J (r.am.getD (0,0)).2,V ca r.cur.length cc,Y r.decline,Y r.cheapest,V pa r.routes.length pc,I J r.ahead] 120)/\W.heap[P+1]?=E (U #[Z q.name,I J q.rank,I J q.digits,I J q.lo,I J q.hi,V l q.mcc.length u,Y q.am.isSome,I J (q.am.getD (0,0)).1,I J (q.am.getD (0,0)).2,V p q.cur.length D,Y q.decline,Y q.cheapest,V a0 q.routes.length e0,I J q.ahead] 120)):=fun W j=>⟨j.whole E0.o (by simp),j.whole G0.o (by simp)⟩
  have L0:N (∀i,(VM r).at i≠[]):=Hv _ _ _ _ _ _ _ _
  have M0:N (∀i s,s∈(VM q).at i->s.1<=10000000000/\s.2<=10000000000):=fun i s hs=>(Rq h2.1 h2.2 i s hs).2
  have N0:=Za hP;clear h1 h2 i1 i2 i3 i4;generalize VM r=A at*;generalize VM q=A2 at*;refine(callsIn_wide (n:=5)).1 ?_;refine callsIn_of_wp_marks Tryz.func67 rfl trivial ?_ rfl;simp only[Tryz.ntmps67,List.size_toArray,List.length_cons,List.length_nil,Nat.reduceAdd,Nat.reduceSub,Array.replicate_succ,Array.replicate_zero,List.push_toArray,List.append_toArray,List.nil_append,List.cons_append];refine(wpIn_wide (n:=5)).2 (Dn ?_);go_upto_region 1 with fail;clear h0 hP
  go_cut [13]from 8 to 13 (fun v wx=>∃(B:Nat)(x0 x1 x2 x3:Rl)(a:Option Addr)(es:List X9),v=.func (.func 212) #[] #[H (E ⟨B,0,O⟩),H (E ⟨B+1+1,0,O⟩),H (E ⟨B+1,0,O⟩)]/\N (BX w0 A A2 B x0 x1 x2 x3 a 1 es wx))
  case first=>
    have j0:N (F0 w0 w0.drew):=(Fr.refl _ _).drew;refine wp_region_held_drew (S:=fun W=>W.heap[P]?=E (U #[Z r.name,I J r.rank,I J r.digits,I J r.lo,I J r.hi,V ma r.mcc.length mc,Y r.am.isSome,I J (r.am.getD (0,0)).1,I J (r.am.getD (0,0)).2,V ca r.cur.length cc,Y r.decline,Y r.cheapest,V pa r.routes.length pc,I J r.ahead] 120)/\W.heap[P+1]?=E (U #[Z q.name,I J q.rank,I J q.digits,I J q.lo,I J q.hi,V l q.mcc.length u,Y q.am.isSome,I J (q.am.getD (0,0)).1,I J (q.am.getD (0,0)).2,V p q.cur.length D,Y q.decline,Y q.cheapest,V a0 q.routes.length e0,I J q.ahead] 120)) (by kernel_rfl) (l0.o _ j0.o) (fun hH=>?_);refine Uq 0 (v:=?v0z) ?y0z hH ?r0z
    case y0z=>
      rintro w ⟨s0,s1⟩;obtain⟨c0,c1,c2,c3,c4,c5,c6,c7,c8,c9,Z0,a1,f1,j1⟩:=ZX s0;obtain⟨d0,d1,d2,d3,d4,d5,d6,d7,d8,d9,k1,l1,m1,n1⟩:=ZX s1;clear s0 s1;go_simp
      with_reducible rfl
    try go_frame
    refine Uq 2 (v:=?v2z) ?y2z hH ?r2z
    case y2z=>
      rintro w ⟨s0,s1⟩;obtain⟨c0,c1,c2,c3,c4,c5,c6,c7,c8,c9,Z0,a1,f1,j1⟩:=ZX s0;obtain⟨d0,d1,d2,d3,d4,d5,d6,d7,d8,d9,k1,l1,m1,n1⟩:=ZX s1;clear s0 s1;go_simp
      with_reducible rfl
    try go_frame
    refine wpAnyH_ready (rs:=[1]) (by kernel_rfl) (by simp) ?_;refine Zb rfl (fun K2 hK=>?_) R
    try rw[if_pos (by rfl)]
    go_simp;refine(J0.o _ j0.o).mono ?_;rintro e wa ⟨⟨x0,x1,x2,x3,rfl,o0,q0⟩,j⟩;have o1:=Za o0;have q1:=Za q0;have t0:=Za (j0.o.trans j);clear o0 q0 j;refine hK.out _ _ (l0.o _ t0.o) (fun hH=>?_);clear hK K2
    try go_frame
    refine wpAnyH_ready (rs:=[3]) (by kernel_rfl) (by simp) ?_;refine Zb rfl (fun K2 hK=>?_) R
    try rw[if_pos (by rfl)]
    go_simp;refine(K0.o _ t0.o).mono ?_;rintro e wb ⟨⟨y0,y1,y2,y3,rfl,o0,q0⟩,j⟩;have O0:=Za (t0.o.trans j);have HP:=Za (KZ.mk1 (w0:=w0) (o1.o.fr j) (q1.o.more j0.o.size j.size) o0 (q0.more t0.o.size (G _)) O0.o);clear o0 q0 j;refine hK.out _ _ (l0.o _ O0.o) (fun hH=>?_);clear hK K2
    try go_frame
    refine wpAnyH_ready (rs:=[4]) (by kernel_rfl) (by simp) ?_;refine Zb rfl (fun K2 hK=>?_) R
    try rw[if_pos (by rfl)]
    go_simp;refine hK.out _ _ (l0.o _ HP.o.fr) (fun hH=>?_);clear hK K2
    try go_frame
    refine wpAnyH_ready (rs:=[5]) (by kernel_rfl) (by simp) ?_;refine Zb rfl (fun K2 hK=>?_) R
    try rw[if_pos (by rfl)]
    go_simp;refine HP.o.pays.mono ?_;rintro e wd ⟨B,rfl,P0⟩;have r0:=Za P0;clear P0;refine hK.out _ _ (l0.o _ r0.o.fr) (fun hH=>?_);clear hK K2
    try go_frame
    refine wpAnyH_done (by kernel_rfl) ?_ _;go_wp2_with fail;go_meet;exact⟨B,_,_,_,_,_,_,rfl,r0⟩
  case rest=>
    obtain⟨B,x0,x1,x2,x3,a,es,rfl,r0⟩:=hcut;generalize wc=w2 at*;go_wp2_with fail;generalize y9 #[Z r.name,I J r.rank,I J r.digits,I J r.lo,I J r.hi,V ma r.mcc.length mc,Y r.am.isSome,I J (r.am.getD (0,0)).1,I J (r.am.getD (0,0)).2,V ca r.cur.length cc,Y r.decline,Y r.cheapest,V pa r.routes.length pc,I J r.ahead]=r1;generalize y9 #[Z q.name,I J q.rank,I J q.digits,I J q.lo,I J q.hi,V l q.mcc.length u,Y q.am.isSome,I J (q.am.getD (0,0)).1,I J (q.am.getD (0,0)).2,V p q.cur.length D,Y q.decline,Y q.cheapest,V a0 q.routes.length e0,I J q.ahead]=t1;have c:=r0.o;have e1:w.heap.size=P:=N0.o;have e2:w0.heap.size=P+4:=D0.o;have e3:=c.lo;have e5:=c.sz;have o2:=c.fr.whole H0.o (by simp);have o3:=c.fr.whole I0.o (by simp)
    obtain⟨S,v0⟩:∃S:Nat->Prop,S=fun k=>k=P+1+1\/k=P+1+1+1:=⟨_,rfl⟩
    have Q0:S (P+1+1):=by rw[v0];exact .inl rfl
    have R0:S (P+1+1+1):=by rw[v0];exact .inr rfl
    have A0:∀k,S k->k<P+4/\P<=k:=fun k hk=>by rw[v0]at hk;rcases hk with h|h<;>omega
    have g0:KS L 212 #[H (E ⟨B,0,O⟩),H (E ⟨B+1+1,0,O⟩),H (E ⟨B+1,0,O⟩)] FH (UW S w2.heap.size) (XQ A 4 es) w2:=by
      have nR:∀i,w0.heap.size<=i->i<B+3->¬UW S w2.heap.size i:=by
        rintro i g1 d (h|h|h)
        · have:=A0 i h;omega
        · omega
        · omega
      have v1:es.length=1:=by have:=congrArg y8 c.em;simpa using this
      refine QH A x0 x1 x2 x3 (fun i _=>L0.o i) 4 (G _) B (B+1+1) (B+1) 1 _ a es w2 (by omega) (fun e he i s _ hs=>?_) (fun W j=>?_)
      · have:e.A∈es.map X9.A:=List.mem_map_of_mem he
        rw[c.em,F]at this;rw[this]at hs;exact M0.o i s hs
      · have ba:=j.whole c.b1 (nR _ (by omega) (by omega))
        refine⟨bC (j.whole c.b0 (nR _ (by omega) (by omega))) 0 _ rfl,?_,bC ba 0 _ rfl,bC ba 1 _ rfl,bC ba 2 _ rfl,bC ba 3 _ rfl,?_,?_⟩
        · rw[v1];exact bC (j.whole c.b2 (nR _ (by omega) (by omega))) 0 _ rfl
        · exact c.ar.frS j (fun x hx g o e S0=>nR g (c.nw x hx g o e).1 (by omega))
        · refine c.ars.frS j (fun g o e S0=>nR g (c.an g o e).1 (by omega)) (fun e he=>?_)
          obtain⟨k,hk⟩:=List.mem_iff_getElem?.1 he;exact QD.frS (c.ars k e hk).1 j (fun x hx g o e' S0=>nR g (c.en e he x hx g o e').1 (by omega))
    obtain⟨xs,C0⟩:∃xs,XQ A 4 es=xs:=⟨_,rfl⟩;rw[C0]at g0
    have T0:N (Sf A A2=xs.find? fun y=>decide (0<y.2)):=by
      show _=_
      unfold Sf;rw[<-C0,Mv (A:=A) 4 (es:=es) (es':=[⟨A2,⟨O,0⟩,⟨O,0⟩,⟨O,0⟩,⟨O,0⟩⟩]) c.em]
    have i0:N (P+1+1+1<w2.heap.size):=by show _<_;omega
    have V0:N (F0 w w2):=k0.o.trans c.fr
    have W0:N (∀k,S k->w.heap.size<=k):=fun k hk=>by have:=A0 k hk;omega
    have X0:=Za Q0;have Y0:=Za R0
    have B0:∀k,S k->k<w2.heap.size:=fun k hk=>by have:=A0 k hk;omega
    clear v0 Q0 R0 A0 C0 e1 e2 e3 e5 c r0 M0 L0 l0 J0 K0 E0 G0 H0 I0 k0 D0 N0;refine(wpIn_wide (n:=2)).1 ?_;refine QG (n:=0) (S:=S) rfl (enters_of Tryz.func212 (by kernel_rfl) rfl) g0 (Fr.refl _ _) (fun _=>rfl) B0
      (fun pre W=>(∀y,y∈pre->y.2=0)/\(W.heap[P+1+1]?=E (U #[I J 0,I J 0,I J 0,I J 0] 139)/\(W.heap[P+1+1+1]?=E (U #[Y false] 4)/\Fr S w2 W)))
      (fun co pre W=>∃f0 y,(co=.ret/\pre=f0++[y]/\(∀z,z∈f0->z.2=0)/\0<y.2)/\(W.heap[P+1+1]?=E (U #[I J (y.1.p0:Nat),I J (y.1.p1:Nat),I J (y.1.p2:Nat),I J (y.1.p3:Nat)] 139)/\(W.heap[P+1+1+1]?=E (U #[Y true] 4)/\Fr S w2 W)))
      (YA.and (YA.pure (fun(pre:List (UN×Nat))=>∀y,y∈pre->y.2=0)) (YA.and (YA.block (by have:=i0.o;omega)) (YA.and (YA.block i0.o) (YA.fr (G _)))))
      (fun co s W W' hs j=>by
        obtain⟨f0,y,g1,d,g3,g4⟩:=hs
        exact⟨f0,y,g1,YA.block (β:=Unit) (M:=w2.heap.size) (by have:=i0.o;omega) () W W' d j,YA.block (β:=Unit) (M:=w2.heap.size) i0.o () W W' g3 j,YA.fr (β:=Unit) (M:=w2.heap.size) (G _) () W W' g4 j⟩)
      ⟨by simp,o2,o3,Fr.refl _ _⟩
      (fun x m a' W=>∃Bx,m<=Bx/\W.heap[Bx]?=E (U #[I J (x.1.p0:Nat),I J (x.1.p1:Nat),I J (x.1.p2:Nat),I J (x.1.p3:Nat)] 139)/\a'={tmps:=#[r1,t1,H (E ⟨P,0,O⟩),H (E ⟨P+1,0,O⟩),H (E ⟨P+1+1,0,O⟩),H (E ⟨P+1+1+1,0,O⟩),H (E ⟨Bx,0,O⟩),I J (x.2:Nat),u8,u9,u10,u11,u12,.func (.func 212) #[] #[H (E ⟨B,0,O⟩),H (E ⟨B+1+1,0,O⟩),H (E ⟨B+1,0,O⟩)],Mu x.1,I J (x.2:Nat),undef,undef,undef,undef],defers:=[]})
      (fun x m a' s A B row hs hg hr=>by obtain⟨Bx,g1,d,g3⟩:=hs;exact⟨Bx,g1,SR (C:=w2.heap.size) () A B row d hg hr,g3⟩) ?assign ?body ?done ?stop
    case assign=>
      rintro pre x W K hp ⟨g1,d,g3,g4⟩ hK;unfold FH Mu
      gi_wp2
      have f:F0 W (W.alloc (U #[I J (x.1.p0:Nat),I J (x.1.p1:Nat),I J (x.1.p2:Nat),I J (x.1.p3:Nat)] 139)):=(Fr.refl _ _).alloc _;exact hK _ _ (f.mono (fun _ h=>h.elim)) ⟨g1,f.whole d (by simp),f.whole g3 (by simp),g4.trans (f.mono (fun _ h=>h.elim))⟩ ⟨W.heap.size,G _,aN W _,rfl⟩
    case body=>
      rintro pre x m a' W hp hm ⟨g1,d,g3,g4⟩ ⟨Bx,w1,hb,rfl⟩;have HI:=Za g1;have HF:=Za g4;have m0:=Za d;have n0:=Za g3;have A1:=Za hb;clear g0 o2 o3 B0 g1 g4;by_cases hx:0<x.2
      · have hz:(0:Int)<(x.2:Int):=by omega
        have HX:=Za hx;have y0:=bC hb 0 _ rfl;have y1:=bC hb 1 _ rfl;have y2:=bC hb 2 _ rfl;have y3:=bC hb 3 _ rfl;have c0:=bC d 0 _ rfl;have c1:=bC d 1 _ rfl;have c2:=bC d 2 _ rfl;have c3:=bC d 3 _ rfl;have z0:=bF d 0;have z1:=bF d 1;have z2:=bF d 2;have z3:=bF d 3;have d0:=bC g3 0 _ rfl;have d1:=bF g3 0;clear hb d g3
        gi_wp2
        obtain⟨k2,k3,k4⟩:=BY (b:=true) m0.o n0.o x.1.p0 x.1.p1 x.1.p2 x.1.p3;have k5:=k4.mono (T:=S) (by rintro k (rfl|rfl);exact X0.o;exact Y0.o);exact⟨k5.mono (fun k h=>.inl h),pre,x,⟨rfl,rfl,HI.o,HX.o⟩,k2,k3,HF.o.trans k5⟩
      · have hz:¬(0:Int)<(x.2:Int):=by omega
        have HX:=Za hx;clear hx hb d g3
        have HK:N (∀y,y∈pre++[x]->y.2=0):=fun y hy=>by
          rcases List.mem_append.1 hy with hy|hy
          · exact HI.o y hy
          · rw[F.1 hy];have:=HX.o;omega
        gi_wp2
        exact⟨Fr.refl _ _,fun a b h=>HK.o (a,b) h,m0.o,n0.o,HF.o⟩
    case done=>
      rintro W ⟨g1,d,g3,g4⟩ hD;have HI:=Za g1;have HF:=Za g4;have m0:=Za d;have n0:=Za g3;have HD:=Za hD;have c0:=bC d 0 _ rfl;have c1:=bC d 1 _ rfl;have c2:=bC d 2 _ rfl;have c3:=bC d 3 _ rfl;have z0:=bF d 0;have z1:=bF d 1;have z2:=bF d 2;have z3:=bF d 3;have d0:=bC g3 0 _ rfl;have d1:=bF g3 0;clear g1 d g3 g4 hD g0 o2 o3 B0;go_wp2_with fail;obtain⟨k2,k3,k4⟩:=BY (b:=false) m0.o n0.o 0 0 0 0;have k5:=k4.mono (T:=S) (by rintro k (rfl|rfl);exact X0.o;exact Y0.o);refine Hw (S:=S) (y:=(⟨0,0,0,0⟩,0)) i0.o V0.o W0.o (HF.o.trans k5) (k4.whole HD.o (by rintro(h|h)<;>(have:=i0.o;omega))) k2 k3 ?_
      rw[T0.o,show(xs.find? fun y=>decide (0<y.2))=O from by
        rw[z6];intro y hy
        simp[HI.o y hy]]
      rfl
    case stop=>
      rintro co pre W hp ⟨f0,y,⟨rfl,rfl,g1,d⟩,g3,g4,g5⟩ hD;have HI:=Za (show(∀z,z∈f0->z.2=0)/\0<y.2 from⟨g1,d⟩);have HF:=Za g5;have m0:=Za g3;have n0:=Za g4;have HD:=Za hD;have HP:=Za hp;clear g1 d g3 g4 g5 hD g0 o2 o3 B0 hp
      gi_wp2
      refine Hw (S:=S) (y:=y) i0.o V0.o W0.o HF.o HD.o m0.o n0.o ?_
      rw[T0.o,show(xs.find? fun y=>decide (0<y.2))=E y from by
        obtain⟨t,ht⟩:=HP.o;rw[<-ht,y4,y4]
        have e:(f0.find? fun y=>decide (0<y.2))=O:=by
          rw[z6];intro z hz;simp[HI.o.1 z hz]
        rw[e]
        simp[HI.o.2]]
      rfl
def U5 (y:UN):ZI:=⟨ZV (Tf y.p0 6),(y.p1:Nat),(y.p2:Nat),(y.p3:Nat)⟩
theorem Hx:∀(k u:Nat),u<10^(k+1)->Lib.nDigits u<=k+1
 |0,u,h=>by rw[Lib.nDigits_small (by simpa using h)];exact G _
 |k+1,u,h=>by
  by_cases a:u<10
  ·rw[Lib.nDigits_small a];omega
  ·rw[Lib.nDigits_big a]
   have:u/10<10^(k+1):=by rw[Nat.div_lt_iff_lt_mul (by decide)];rw[Nat.pow_succ]at h;exact h
   have:=Hx k (u/10) this;omega
theorem Al {n:Nat}(h:n<1000000):(Z6 n).length<=6:=by
 unfold Z6;rw[Lib.decDigits_length];exact Hx 5 n h
theorem Du (y:UN)(w:Q)(A:QA w)(B:y.p0<1000000):
  z7 L 115 #[Mu y] w fun e w'=>e=X (UM (U5 y))/\F0 w w':=by
 obtain⟨w0,b⟩:∃w0,(w.alloc (U #[I J (y.p0:Nat),I J (y.p1:Nat),I J (y.p2:Nat),I J (y.p3:Nat)] 139)).alloc (U #[Z ⟨#[]⟩,I J 0,I J 0,I J 0] 35)=w0:=⟨_,rfl⟩;obtain⟨P,q⟩:∃P,w.heap.size=P:=⟨_,rfl⟩
 have i:N (F0 w w0):=by show Fr _ _ _;rw[<-b];exact((Fr.refl _ _).alloc _).alloc _
 have f:N (w0.heap[P]?=E (U #[I J (y.p0:Nat),I J (y.p1:Nat),I J (y.p2:Nat),I J (y.p3:Nat)] 139)):=by
  show _=_
  rw[<-b,<-q];exact((Fr.refl (fun _=>False) _).alloc _).whole (aN w _) (by simp)
 have j:N (w0.heap[P+1]?=E (U #[Z ⟨#[]⟩,I J 0,I J 0,I J 0] 35)):=by
  show _=_
  rw[<-b,<-q];have:=aN (w.alloc (U #[I J (y.p0:Nat),I J (y.p1:Nat),I J (y.p2:Nat),I J (y.p3:Nat)] 139)) (U #[Z ⟨#[]⟩,I J 0,I J 0,I J 0] 35)
  simpa using this
 have C:=Za (RX y.p0 w0 (by omega) (A.fr i.o));have G:=Za (Al B);have H:=bC f.o 0 _ rfl
 have c:N (w.heap.size<=P+1):=by show _<=_;omega
 unfold Mu;clear A B;go_enter Tryz.func115,Tryz.ntmps115
 go_wp2_with (go_at_call 106;refine C.o.mono ?_)
 rintro e D ⟨rfl,d⟩;have r:=Za d;have g:=Za (d.whole f.o (by simp));have a:=Za (d.whole j.o (by simp));clear d C H b q f j;go_wp2_with fail
 go_loopg [3] 6 (fun K M R=>∃k,k+(Z6 y.p0).length<=6/\K=6-k/\M=Z (ZV (z9 k 48++Z6 y.p0))/\R=D)
 case atStart=>exact⟨0,by have:=G.o;omega,rfl,rfl,rfl⟩
 case round=>
  obtain⟨k,S,rfl,rfl,h⟩:=hrel;replace h:=h.symm;subst h;obtain⟨s,m⟩:∃s,ZV (z9 k 48++Z6 y.p0)=s:=⟨_,rfl⟩
  have l:s.size=k+(Z6 y.p0).length:=by rw[<-m,XE];simp
  have F:=Za m;rw[m];clear m;by_cases t:k+(Z6 y.p0).length<6
  ·have u:(s.size:Int)<6:=by omega
   have x:N ((⟨#[48]⟩:ByteArray)++s=ZV (z9 (k+1) 48++Z6 y.p0)):=by
    show _=_
    rw[<-F.o];apply ByteArray.ext;apply Array.ext';simp[ZV,List.replicate_succ]
   clear l;go_wp2_with fail;go_roundg (6-(k+1))
   case measure=>omega
   case rel=>exact⟨k+1,by omega,rfl,by rw[<-x.o],rfl⟩
  ·have u:¬(s.size:Int)<6:=by omega
   have T:N (s=(U5 y).pan):=by
    show s=ZV (Tf y.p0 6)
    rw[<-F.o];unfold Tf;rw[show 6-(Z6 y.p0).length=k from by omega]
   have a1:=bC g.o 1 _ rfl;have a2:=bC g.o 2 _ rfl;have a3:=bC g.o 3 _ rfl;have r0:=bC a.o 0 _ rfl;have r1:=bC a.o 1 _ rfl;have r2:=bC a.o 2 _ rfl;have r3:=bC a.o 3 _ rfl;have z0:=bF a.o 0;have z1:=bF a.o 1;have z2:=bF a.o 2;have z3:=bF a.o 3;clear t l S;go_wp2_with fail;have V:=heap_setCell_same D (P+1) 0 _ _ (Z s) a.o;have W:=heap_setCell_same _ (P+1) 1 _ _ (I J (y.p1:Nat)) V;have Y:=heap_setCell_same _ (P+1) 2 _ _ (I J (y.p2:Nat)) W;have n:=heap_setCell_same _ (P+1) 3 _ _ (I J (y.p3:Nat)) Y;have s0:=bC n 0 _ rfl;have s1:=bC n 1 _ rfl;have s2:=bC n 2 _ rfl;have s3:=bC n 3 _ rfl;have z:=((((i.o.trans r.o).setCell (p:=⟨P+1,0,O⟩) (Or.inr c.o) (Z s)).setCell (p:=⟨P+1,1,O⟩) (Or.inr c.o) (I J (y.p1:Nat))).setCell (p:=⟨P+1,2,O⟩) (Or.inr c.o) (I J (y.p2:Nat))).setCell (p:=⟨P+1,3,O⟩) (Or.inr c.o) (I J (y.p3:Nat));refine bodyPost_ret (v:=z8 #[Z s,I J (y.p1:Nat),I J (y.p2:Nat),I J (y.p3:Nat)]) (by simp[results,Tryz.results115,go_sem,s0,s1,s2,s3]) rfl ⟨?_,z⟩;unfold UM;rw[<-T.o];rfl
def Ad (a n2:ByteArray)(p:ZI):y6:=z8 #[Z a,Z n2,Z p.pan,I J p.mcc,I J p.am,I J p.cur]
set_option maxRecDepth 100000 in
theorem K0 (w:Q)(r q:Zc)(y:UN)(G:Option Addr)(H:Nat)(K:Option Addr)(M:Nat)(pa:Option Addr)(pc:Nat)(d:Option Addr)(f:Nat)(g:Option Addr)(i:Nat)(j:Option Addr)(l:Nat)
  (h1:r.name.size<=3000)(h2:q.name.size<=3000)(hy:y.p0<1000000)(ht:QA w):
  z7 L 68 #[z8 #[Z r.name,I J r.rank,I J r.digits,I J r.lo,I J r.hi,V G r.mcc.length H,Y r.am.isSome,I J (r.am.getD (0,0)).1,I J (r.am.getD (0,0)).2,V K r.cur.length M,Y r.decline,Y r.cheapest,V pa r.routes.length pc,I J r.ahead],z8 #[Z q.name,I J q.rank,I J q.digits,I J q.lo,I J q.hi,V d q.mcc.length f,Y q.am.isSome,I J (q.am.getD (0,0)).1,I J (q.am.getD (0,0)).2,V g q.cur.length i,Y q.decline,Y q.cheapest,V j q.routes.length l,I J q.ahead],Mu y] w fun e w'=>e=X (Ad r.name q.name (U5 y))/\F0 w w':=by
 obtain⟨w0,m⟩:∃w0,(((w.alloc (U #[Z r.name,I J r.rank,I J r.digits,I J r.lo,I J r.hi,V G r.mcc.length H,Y r.am.isSome,I J (r.am.getD (0,0)).1,I J (r.am.getD (0,0)).2,V K r.cur.length M,Y r.decline,Y r.cheapest,V pa r.routes.length pc,I J r.ahead] 120)).alloc (U #[Z q.name,I J q.rank,I J q.digits,I J q.lo,I J q.hi,V d q.mcc.length f,Y q.am.isSome,I J (q.am.getD (0,0)).1,I J (q.am.getD (0,0)).2,V g q.cur.length i,Y q.decline,Y q.cheapest,V j q.routes.length l,I J q.ahead] 120)).alloc (U #[I J (y.p0:Nat),I J (y.p1:Nat),I J (y.p2:Nat),I J (y.p3:Nat)] 139)).alloc (U #[Z ⟨#[]⟩,Z ⟨#[]⟩,Z ⟨#[]⟩,I J 0,I J 0,I J 0] 44)=w0:=⟨_,rfl⟩;obtain⟨P,hP⟩:∃P,w.heap.size=P:=⟨_,rfl⟩
 have a0:N (F0 w w0):=by show Fr _ _ _;rw[<-m];exact((((Fr.refl _ _).alloc _).alloc _).alloc _).alloc _
 have e0:N (w0.heap[P]?=E (U #[Z r.name,I J r.rank,I J r.digits,I J r.lo,I J r.hi,V G r.mcc.length H,Y r.am.isSome,I J (r.am.getD (0,0)).1,I J (r.am.getD (0,0)).2,V K r.cur.length M,Y r.decline,Y r.cheapest,V pa r.routes.length pc,I J r.ahead] 120)):=by
  show _=_
  rw[<-m,<-hP];exact((((Fr.refl (fun _=>False) _).alloc _).alloc _).alloc _).whole (aN w _) (by simp)
 have f0:N (w0.heap[P+1]?=E (U #[Z q.name,I J q.rank,I J q.digits,I J q.lo,I J q.hi,V d q.mcc.length f,Y q.am.isSome,I J (q.am.getD (0,0)).1,I J (q.am.getD (0,0)).2,V g q.cur.length i,Y q.decline,Y q.cheapest,V j q.routes.length l,I J q.ahead] 120)):=by
  show _=_
  rw[<-m,<-hP];exact(((Fr.refl (fun _=>False) _).alloc _).alloc _).whole (by have:=aN (w.alloc (U #[Z r.name,I J r.rank,I J r.digits,I J r.lo,I J r.hi,V G r.mcc.length H,Y r.am.isSome,I J (r.am.getD (0,0)).1,I J (r.am.getD (0,0)).2,V K r.cur.length M,Y r.decline,Y r.cheapest,V pa r.routes.length pc,I J r.ahead] 120)) (U #[Z q.name,I J q.rank,I J q.digits,I J q.lo,I J q.hi,V d q.mcc.length f,Y q.am.isSome,I J (q.am.getD (0,0)).1,I J (q.am.getD (0,0)).2,V g q.cur.length i,Y q.decline,Y q.cheapest,V j q.routes.length l,I J q.ahead] 120);simpa using this) (by simp)
 have g0:N (w0.heap[P+1+1]?=E (U #[I J (y.p0:Nat),I J (y.p1:Nat),I J (y.p2:Nat),I J (y.p3:Nat)] 139)):=by
  show _=_
  rw[<-m,<-hP];exact((Fr.refl (fun _=>False) _).alloc _).whole (by have:=aN ((w.alloc (U #[Z r.name,I J r.rank,I J r.digits,I J r.lo,I J r.hi,V G r.mcc.length H,Y r.am.isSome,I J (r.am.getD (0,0)).1,I J (r.am.getD (0,0)).2,V K r.cur.length M,Y r.decline,Y r.cheapest,V pa r.routes.length pc,I J r.ahead] 120)).alloc (U #[Z q.name,I J q.rank,I J q.digits,I J q.lo,I J q.hi,V d q.mcc.length f,Y q.am.isSome,I J (q.am.getD (0,0)).1,I J (q.am.getD (0,0)).2,V g q.cur.length i,Y q.decline,Y q.cheapest,V j q.routes.length l,I J q.ahead] 120)) (U #[I J (y.p0:Nat),I J (y.p1:Nat),I J (y.p2:Nat),I J (y.p3:Nat)] 139);simpa using this) (by simp)
 have h0:N (w0.heap[P+1+1+1]?=E (U #[Z ⟨#[]⟩,Z ⟨#[]⟩,Z ⟨#[]⟩,I J 0,I J 0,I J 0] 44)):=by
  show _=_
  rw[<-m,<-hP];have:=aN (((w.alloc (U #[Z r.name,I J r.rank,I J r.digits,I J r.lo,I J r.hi,V G r.mcc.length H,Y r.am.isSome,I J (r.am.getD (0,0)).1,I J (r.am.getD (0,0)).2,V K r.cur.length M,Y r.decline,Y r.cheapest,V pa r.routes.length pc,I J r.ahead] 120)).alloc (U #[Z q.name,I J q.rank,I J q.digits,I J q.lo,I J q.hi,V d q.mcc.length f,Y q.am.isSome,I J (q.am.getD (0,0)).1,I J (q.am.getD (0,0)).2,V g q.cur.length i,Y q.decline,Y q.cheapest,V j q.routes.length l,I J q.ahead] 120)).alloc (U #[I J (y.p0:Nat),I J (y.p1:Nat),I J (y.p2:Nat),I J (y.p3:Nat)] 139)) (U #[Z ⟨#[]⟩,Z ⟨#[]⟩,Z ⟨#[]⟩,I J 0,I J 0,I J 0] 44)
  simpa using this
 have t:N (∀W,Fr (fun k=>k=P+1+1+1) w0 W->W.cell? ⟨P,0,O⟩=E (Z r.name)/\W.cell? ⟨P+1,0,O⟩=E (Z q.name)/\W.heap[P+1+1]?=E (U #[I J (y.p0:Nat),I J (y.p1:Nat),I J (y.p2:Nat),I J (y.p3:Nat)] 139)):=fun W c=>⟨bC (c.whole e0.o (by show¬P=P+1+1+1;omega)) 0 _ rfl,bC (c.whole f0.o (by show¬P+1=P+1+1+1;omega)) 0 _ rfl,c.whole g0.o (by show¬P+1+1=P+1+1+1;omega)⟩
 have i0:N (∀W,z7 L 96 #[Z r.name] W fun e w'=>e=X (Z r.name)/\F0 W w'):=fun W=>VS r.name W h1
 have j0:N (∀W,z7 L 96 #[Z q.name] W fun e w'=>e=X (Z q.name)/\F0 W w'):=fun W=>VS q.name W h2
 have k0:N (∀W,F0 w0 W->z7 L 115 #[z8 #[I J (y.p0:Nat),I J (y.p1:Nat),I J (y.p2:Nat),I J (y.p3:Nat)]] W fun e w'=>e=X (z8 #[Z (U5 y).pan,I J (U5 y).mcc,I J (U5 y).am,I J (U5 y).cur])/\F0 W w'):=fun W c=>Du y W (ht.fr (a0.o.trans c)) hy
 have l0:N (w.heap.size<=P+1+1+1):=by show _<=_;omega
 generalize U5 y=n at*;unfold Mu;clear h1 h2 hy ht;go_enter Tryz.func68,Tryz.ntmps68;go_upto_region 1 with fail;clear m hP;have z:N (F0 w0 w0.drew):=(Fr.refl _ _).drew;refine wp_region_held_drew (S:=fun W=>W.cell? ⟨P,0,O⟩=E (Z r.name)/\W.cell? ⟨P+1,0,O⟩=E (Z q.name)/\W.heap[P+1+1]?=E (U #[I J (y.p0:Nat),I J (y.p1:Nat),I J (y.p2:Nat),I J (y.p3:Nat)] 139)) (by kernel_rfl) (t.o _ (z.o.mono (fun _ h=>h.elim))) (fun x=>?_);refine Uq 0 (v:=?v0z) ?y0z x ?r0z
 case y0z=>
  rintro w ⟨A,B,a⟩;have c0:=bC a 0 _ rfl;have c1:=bC a 1 _ rfl;have c2:=bC a 2 _ rfl;have c3:=bC a 3 _ rfl;clear a;go_simp
  with_reducible rfl
 try go_frame
 refine Uq 1 (v:=?v1z) ?y1z x ?r1z
 case y1z=>
  rintro w ⟨A,B,a⟩;have c0:=bC a 0 _ rfl;have c1:=bC a 1 _ rfl;have c2:=bC a 2 _ rfl;have c3:=bC a 3 _ rfl;clear a;go_simp
  with_reducible rfl
 try go_frame
 refine Uq 3 (v:=?v3z) ?y3z x ?r3z
 case y3z=>
  rintro w ⟨A,B,a⟩;have c0:=bC a 0 _ rfl;have c1:=bC a 1 _ rfl;have c2:=bC a 2 _ rfl;have c3:=bC a 3 _ rfl;clear a;go_simp
  with_reducible rfl
 try go_frame
 refine Uq 4 (v:=?v4z) ?y4z x ?r4z
 case y4z=>
  rintro w ⟨A,B,a⟩;have c0:=bC a 0 _ rfl;have c1:=bC a 1 _ rfl;have c2:=bC a 2 _ rfl;have c3:=bC a 3 _ rfl;clear a;go_simp
  with_reducible rfl
 try go_frame
 refine Uq 6 (v:=?v6z) ?y6z x ?r6z
 case y6z=>
  rintro w ⟨A,B,a⟩;have c0:=bC a 0 _ rfl;have c1:=bC a 1 _ rfl;have c2:=bC a 2 _ rfl;have c3:=bC a 3 _ rfl;clear a;go_simp
  with_reducible rfl
 try go_frame
 refine wpAnyH_ready (rs:=[2]) (by kernel_rfl) (by simp) ?_;refine Zb rfl (fun C u=>?_) R
 try rw[if_pos (by rfl)]
 go_simp;refine(i0.o _).mono ?_;rintro e wa ⟨rfl,c⟩;have b0:=Za (z.o.trans c);clear c;refine u.out _ _ (t.o _ (b0.o.mono (fun _ h=>h.elim))) (fun x=>?_);clear u C
 try go_frame
 refine wpAnyH_ready (rs:=[5]) (by kernel_rfl) (by simp) ?_;refine Zb rfl (fun C u=>?_) R
 try rw[if_pos (by rfl)]
 go_simp;refine(j0.o _).mono ?_;rintro e wb ⟨rfl,c⟩;have D:=Za (b0.o.trans c);clear c;refine u.out _ _ (t.o _ (D.o.mono (fun _ h=>h.elim))) (fun x=>?_);clear u C
 try go_frame
 refine wpAnyH_ready (rs:=[7]) (by kernel_rfl) (by simp) ?_;refine Zb rfl (fun C u=>?_) R
 try rw[if_pos (by rfl)]
 go_simp;refine(k0.o _ D.o).mono ?_;rintro e wd ⟨rfl,c⟩;have F:=Za (D.o.trans c);clear c;refine u.out _ _ (t.o _ (F.o.mono (fun _ h=>h.elim))) (fun x=>?_);clear u C
 try go_frame
 refine Uq 8 (v:=?v8z) ?y8z x ?r8z
 case y8z=>
  rintro w ⟨A,B,a⟩;have c0:=bC a 0 _ rfl;have c1:=bC a 1 _ rfl;have c2:=bC a 2 _ rfl;have c3:=bC a 3 _ rfl;clear a;go_simp
  with_reducible rfl
 try go_frame
 have b:=Za (F.o.whole h0.o (by simp));have r0:=bC b.o 0 _ rfl;have r1:=bC b.o 1 _ rfl;have r2:=bC b.o 2 _ rfl;have r3:=bC b.o 3 _ rfl;have r4:=bC b.o 4 _ rfl;have r5:=bC b.o 5 _ rfl;have z0:=bF b.o 0;have z1:=bF b.o 1;have z2:=bF b.o 2;have z3:=bF b.o 3;have z4:=bF b.o 4;have z5:=bF b.o 5;refine wpAnyH_ready (rs:=[9]) (by kernel_rfl) (by simp) ?_;refine Zb rfl (fun C u=>?_) R
 try rw[if_pos (by rfl)]
 go_simp;have t0:=heap_setCell_same wd (P+1+1+1) 0 _ _ (Z r.name) b.o;have t1:=heap_setCell_same _ (P+1+1+1) 1 _ _ (Z q.name) t0;have t2:=heap_setCell_same _ (P+1+1+1) 2 _ _ (Z n.pan) t1;have t3:=heap_setCell_same _ (P+1+1+1) 3 _ _ (I J n.mcc) t2;have t4:=heap_setCell_same _ (P+1+1+1) 4 _ _ (I J n.am) t3;have t5:=heap_setCell_same _ (P+1+1+1) 5 _ _ (I J n.cur) t4;have d0:=Za (((((((F.o.mono (S:=fun _=>False) (T:=fun k=>k=P+1+1+1) (fun _ h=>h.elim)).setCell (p:=⟨P+1+1+1,0,O⟩) (.inl rfl) (Z r.name)).setCell (p:=⟨P+1+1+1,1,O⟩) (.inl rfl) (Z q.name)).setCell (p:=⟨P+1+1+1,2,O⟩) (.inl rfl) (Z n.pan)).setCell (p:=⟨P+1+1+1,3,O⟩) (.inl rfl) (I J n.mcc)).setCell (p:=⟨P+1+1+1,4,O⟩) (.inl rfl) (I J n.am)).setCell (p:=⟨P+1+1+1,5,O⟩) (.inl rfl) (I J n.cur));have s:=Za t5;clear t0 t1 t2 t3 t4 t5 r0 r1 r2 r3 r4 r5 z0 z1 z2 z3 z4 z5;refine u.out _ _ (t.o _ d0.o) (fun x=>?_);clear u C
 try go_frame
 generalize((((((wd.setCell ⟨P+1+1+1,0,O⟩ (Z r.name)).setCell ⟨P+1+1+1,1,O⟩ (Z q.name)).setCell ⟨P+1+1+1,2,O⟩ (Z n.pan)).setCell ⟨P+1+1+1,3,O⟩ (I J n.mcc)).setCell ⟨P+1+1+1,4,O⟩ (I J n.am)).setCell ⟨P+1+1+1,5,O⟩ (I J n.cur))=we at*;refine wpAnyH_done (by kernel_rfl) ?_ _;go_wp2_with fail;have A:=bC s.o 0 _ rfl;have B:=bC s.o 1 _ rfl;have a:=bC s.o 2 _ rfl;have s3:=bC s.o 3 _ rfl;have s4:=bC s.o 4 _ rfl;have s5:=bC s.o 5 _ rfl;refine bodyPost_ret (v:=Ad r.name q.name n) (by simp[results,Tryz.results68,go_sem,A,B,a,s3,s4,s5,Ad]) rfl ⟨rfl,?_⟩;exact a0.o.monoNew d0.o (fun k h=>.inr (by have:=l0.o;omega))
