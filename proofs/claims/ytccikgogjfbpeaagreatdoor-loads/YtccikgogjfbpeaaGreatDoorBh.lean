import Derived.Test.YtccikgogjfbpeaaGreatDoorBg
import Derived.Test.YtccikgogjfbpeaaGreatDoorBe
open Option renaming some->I,none->J
open Go.Value renaming slice->V,string->Z,int->K,pointer->O,bool->C,pointer->F,string->Q
open List renaming append_nil->Y,getElem?_map->G
open Go renaming World->U,Value->H
open Nat renaming zero_le->E,lt_or_ge->M,zero_add->N,le_refl->A
namespace Go.Proofs.YtccikgogjfbpeaaGreatDoor
set_option maxRecDepth 30000
set_option maxHeartbeats 8000000
open Go.RowKit
def GL (w:U)(a T:Nat)(rts:List Zf)(R:List Ze)(lo:Bool):Prop:=
 ∃b c,a<=T/\w.cell? ⟨T,0,J⟩=I (O (I ⟨b,0,J⟩))/\w.cell? ⟨T,1,J⟩=I (O (I ⟨c,0,J⟩))/\a<=b/\
  match lo with
  |true=>w.heap[b]?=I (.cells #[V J 0 0,V J 0 0] 89)/\∃d f g,Eo d w c (Pm (Wc rts R)) f g/\a<=c/\a<=d
  |false=>∃e h i,Bk w b e h rts R i/\X7 a w c e R (Zx (Zv R) R.length)
theorem GL.fr {w w' a T rts R lo S}(h:GL w a T rts R lo)(b:Fr S w w')(c:∀k,S k->k<a:=by simp):GL w' a T rts R lo:=by
 obtain⟨q,r,f,l,m,g,n⟩:=h
 have d:∀{k:Nat},a<=k->¬S k:=fun e s=>by have:=c _ s;omega
 refine⟨q,r,f,(b.cell (p:=⟨T,0,J⟩) (bL w _ l) (d f)).trans l,(b.cell (p:=⟨T,1,J⟩) (bL w _ m) (d f)).trans m,g,?_⟩
 cases lo with
 |true=>
  obtain⟨i,t,u,v,j,o,x⟩:=n;exact⟨b.whole i (d g),t,u,v,j.fr b (fun k e=>by have:=c k e;omega) (d o),o,x⟩
 |false=>
  obtain⟨y,z,A,i,j⟩:=n;exact⟨y,z,A,i.fr b (fun k e=>nL (c k e) g),j.fr b c⟩
def vU (c:Nat->Nat)(w:U)(a:Nat)(w0:U):Prop:=Fr (fun k=>k<a) w0 w/\∀k,a<=k->k<w0.heap.size->c k=0
theorem vU.keep {c f w w' w0 a S}(h:vU c w a w0)(i:Fr S w w')(j:Wz w c f)(l:∀k,S k->c k≠0):vU f w' a w0:=by
 refine⟨h.1.monoNew i fun k b=>?_,fun k b g=>(j k (nL g h.1.size)).trans (h.2 k b g)⟩;rcases M k a with d|d
 ·exact Or.inl d
 rcases M k w0.heap.size with e|e
 ·exact absurd (h.2 k d e) (l k b)
 exact Or.inr e
structure wC (rts:List Zf)(R:List Ze):Prop where
 bk:Yx rts R
 ar:∀r,r∈R->Td r
 im:yg rts R
def LW (lo:Bool)(R:List Ze):List Ze:=match lo with
 |true=>[]
 |false=>R
def vV (c:Nat->Nat)(w:U)(t:Nat)(a:TypeId)(s:Nat)(v:H)(n:Nat)(d:List H):Prop:=Cl c v t/\∃b,w.ownsRow b a s v n d
theorem vV.keep {c a w w' t n s d v e S}(h:vV c w t d s v n e)(f:Fr S w w')(g:Wz w c a)(i:∀k,S k->c k≠t):vV a w' t d s v n e:=by
 obtain⟨j,b,l⟩:=h;obtain⟨m,o⟩:=XR l j f g i;exact⟨o,b,m⟩
def Ut (R:List Ze):List WC:=(T1 R).map fun o=>o.2.2
def LX (R:List Ze):List H:=(List.range R.length).map fun k=>Value.bool (!Rz R k)
def K1 (c:Nat->Nat)(w:U)(R:List Ze)(d:Bool)(b a:H):Prop:=
 (if d then vV c w 10 35 4 b (Ut R).length (XQ (Ut R))else b=V J 0 0)/\(a=V J 0 0\/∃D,a=V (I ⟨D,0,J⟩) R.length R.length/\vV c w 11 4 1 a R.length (LX R))
theorem K1.keep {c g w w' R a b d S}(h:K1 c w R a b d)(i:Fr S w w')(j:Wz w c g)(l:∀k,S k->c k≠10/\c k≠11):K1 g w' R a b d:=by
 obtain⟨m,n⟩:=h;refine⟨?_,n.imp id fun⟨D,e,h⟩=>⟨D,e,h.keep i j fun k f=>(l k f).2⟩⟩
 cases a with
 |false=>exact m
 |true=>exact vV.keep m i j fun k f=>(l k f).1
def K3 (c:Nat->Nat)(w:U)(X:Nat):Prop:=
 ∃w0 a q g b T rts R lo d e f,(∃body,X9 w0 a q body rts R)/\GL g b T rts R lo/\wC rts R/\vU c w a w0/\vU c w b g/\c X=9/\
  w.heap[X]?=I (.cells #[O (I ⟨T,0,J⟩),O (I ⟨q,0,J⟩),C lo,C d,e,f] 97)/\K1 c w (LW lo R) d e f
theorem K3.cx {c w X}(h:K3 c w X):c X=9:=by
 obtain⟨_,_,_,_,_,_,_,_,_,_,_,_,_,_,_,_,_,h,_⟩:=h;exact h
theorem K3.keep {c m w w' X S}(h:K3 c w X)(j:Fr S w w')(l:Wz w c m)(f:∀k,S k->c k≠0/\c k≠10/\c k≠11/\k≠X):K3 m w' X:=by
 obtain⟨w0,a,q,o,b,T,rts,R,lo,d,g,i,p,r,s,t,u,v,n,x⟩:=h;exact⟨w0,a,q,o,b,T,rts,R,lo,d,g,i,p,r,s,t.keep j l fun k e=>(f k e).1,u.keep j l fun k e=>(f k e).1,(l X (iA.1 n).1).trans v,j.whole n fun y=>(f X y).2.2.2 rfl,x.keep j l fun k e=>⟨(f k e).2.1,(f k e).2.2.1⟩⟩
structure RA (c:Nat->Nat)(w:U)(L:Nat)(v nv ov mv kv:H)(cnt:Nat)(xs:List Nat)(es fs:List J9):Prop where
 bx:w.heap[L]?=I (GY v nv ov mv kv cnt)
 bc:c L=1
 tv:w.ownsRow (L+1) 93 1 v xs.length (xs.map fun X=>F (I ⟨X,0,J⟩))
 tc:Cl c v 2
 few:xs.length<=20
 tb:∀X,X∈xs->K3 c w X
 n:LV c w L 3 4 7 28 9 1 nv mv es []
 o:LV c w L 5 6 8 41 44 6 ov kv fs []
theorem RA.keep {c e w w' L v f g i j a k es l}(h:RA c w L v f g i j a k es l)(b:F0 w w')(d:Wz w c e):RA e w' L v f g i j a k es l:=by
 obtain⟨m,p⟩:=XR h.tv h.tc b d (by simp);exact⟨b.whole h.bx,(d L (iA.1 h.bx).1).trans h.bc,m,p,h.few,fun X q=>(h.tb X q).keep b d (by simp),h.n.keep b d (by simp),h.o.keep b d (by simp)⟩
theorem K4 (w L v q r u x a)(h:w.heap[L]?=I (GY v q r u x a))(Q:a<=4611686018427387904):
  Calls Tryz.prog 136 #[O (I ⟨L,0,J⟩)] w fun e w'=>(∃s:ByteArray,e=.returned (Z s))/\w'.heap[L]?=I (GY v q r u x (a+1))/\Fr (fun k=>k=L) w w':=by
 have R:=Zc h 6;have S:=bF h 6
 have A:Hid ((w.setCell ⟨L,6,J⟩ (K .i64 ((a:Int)+1))).heap[L]?=I (GY v q r u x (a+1))):=by
  have e:=heap_setCell_same w L 6 _ _ (K .i64 ((a:Int)+1)) h
  show _=_
  simpa[GY]using e
 have B:Hid (Fr (fun k=>k=L) w (w.setCell ⟨L,6,J⟩ (K .i64 ((a:Int)+1)))):=(Fr.refl (fun k=>k=L) w).setCell (p:=⟨L,6,J⟩) (Or.inl rfl) _
 have C:(a:Int)<=4611686018427387904:=by omega
 clear h;go_enter Tryz.func136,Tryz.ntmps136;go_wp2_with fail;generalize w.setCell _ _=W at*
 go_loopg [3,4,5] 9 (fun m t n i wr=>∃k s c,k<=9/\m=9-k/\t=Z s/\s.size<=1+k/\n=K .i64 (c:Nat)/\c<=4611686018427387905/\i=K .i64 (k:Nat)/\Hid (F0 W wr))
 case atStart=>exact⟨0,⟨#[35]⟩,a+1,by omega,rfl,rfl,by decide,by simp,by omega,rfl,Zt⟩
 obtain⟨k,s,c,T,rfl,rfl,U,rfl,D,rfl,b⟩:=hrel;by_cases E:k<9
 ·have y:(k:Int)<9:=by omega
  obtain⟨m,F⟩:∃m,c % 16=m:=⟨_,rfl⟩
  have f:m<16:=by omega
  have G:(c:Int).tmod 16=(m:Int):=by rw[Int.tmod_eq_emod_of_nonneg (by omega)];omega
  obtain⟨d,g⟩:∃d:UInt8,d=UInt8.ofNat (97+m):=⟨_,rfl⟩
  have l:(d.toNat:Int)=(97+(m:Int)):=by rw[g,UInt8.toNat_ofNat'];omega
  have H:=Ho m f;have z:=Za (b.o.alloc (.cells #[K .u8 (97+(m:Int))] 5))
  have M:(convert 50 9 (V (I ⟨wr.heap.size,0,J⟩) 1 1)).run Tryz.prog (wr.alloc (.cells #[K .u8 (97+(m:Int))] 5))=.ok (Z ⟨#[d]⟩) (wr.alloc (.cells #[K .u8 (97+(m:Int))] 5)):=by
   have e:=run_convert_bytes_back (P:=Tryz.prog) (wr.alloc (.cells #[K .u8 (97+(m:Int))] 5)) 50 9 5 ⟨wr.heap.size,0,J⟩ 1 [d] Tryz.underlying50 Tryz.underlying5 Tryz.underlying9 (by
    intro j N
    have:j=0:=by simpa using N
    subst this;rw[Yc]
    exact bC (heap_alloc_new wr _) 0 _ (by simp[l]))
   simpa using e
  clear F g l;go_wp2_with fail;go_roundg (9-(k+1))
  case measure=>omega
  exact⟨k+1,s++⟨#[d]⟩,c/16,by omega,rfl,rfl,by rw[ByteArray.size_append];show s.size+1<=_;omega,by congr 1,by omega,by go_num,z⟩
 have y:¬(k:Int)<9:=by omega
 go_wp2_with fail;go_ret;exact⟨⟨s,rfl⟩,b.o.whole A.o,B.o.trans (b.o.mono)⟩
theorem LV.keepL {c l w w' L tn f m o p s q r es b S}(h:LV c w L tn f m o p s q r es b)(i:Fr S w w')(j:Wz w c l)(t:∀k,S k->c k≠tn/\c k≠f)(y:∀e,e∈es++b->∀k,k<e.n->∀g,e.a=I ⟨g,0,J⟩->¬S g):LV l w' L tn f m o p s q r es b:=by
 obtain⟨z,A⟩:=XR h.nm h.nc i j fun k d=>(t k d).1
 obtain⟨B,C⟩:=XR h.ma h.mc i j fun k d=>(t k d).2
 refine⟨z,A,B,C,fun e u k d=>?_⟩;obtain⟨g,v,D,E,x,F⟩:=h.el e u k d;exact⟨g,v,(j g (iA.1 x).1).trans D,E,i.whole x (y e u k d g v),F⟩
theorem Wz.refl (w c):Wz w c c:=fun _ _=>rfl
structure GM (tn tm tl:Nat)(tR tE:TypeId)(s:Nat)(B:H->H->Obj)(c0:Nat->Nat)(w0:U)(L:Nat)(x:ByteArray)(c:Nat->Nat)(wr:U)(nv mv lv:H)(n:Nat)(es pend:List J9):Prop where
 ag:Wz w0 c0 c
 sh:LV c wr L tn tm tl tR tE s nv mv es pend
 ls:yB c wr L tl tE s lv n x (es++pend)
 fq:SG [1,tn,tm,tl] c0 w0 wr
 bx:wr.heap[L]?=I (B nv mv)
 bc:c L=1
theorem Tu {w L}(u i):Fr (fun k=>k=L) w (w.setCell ⟨L,i,J⟩ u):=(Fr.refl (fun k=>k=L) w).setCell (p:=⟨L,i,J⟩) (Or.inl rfl) _
theorem GM.box {tn e b o g s B h w0 L x c wr j l p n i u es a}(q:Wz w0 h c)(t:LV c wr L tn e b o g s j l es a)(v:yB c wr L b g s p n x (es++a))(y:SG [1,tn,e,b] h w0 wr)(f:c L=1)(r:1≠tn/\1≠e/\1≠b)(z:(wr.setCell ⟨L,i,J⟩ u).heap[L]?=I (B j l)):
  GM tn e b o g s B h w0 L x c (wr.setCell ⟨L,i,J⟩ u) j l p n es a:=by
 have m:=Tu (w:=wr) (L:=L) u i;exact⟨q,t.keep m (Wz.refl _ _) (fun k d=>by subst d;rw[f];exact r),v.keep m (Wz.refl _ _) (fun k d=>by subst d;rw[f];exact r.2.2),y.cls q m (fun k d=>by subst d;simp[f]),z,f⟩
theorem GM.s1 {tn f g p y s B z w0 L x c w w2 j q n i es l cap g2 d o}(h:GM tn f g p y s B z w0 L x c w j q (V l n cap) n es [])(m:tn≠f/\tn≠g/\1≠tn/\1≠f/\1≠g)(F:∀(W:U) a b u,W.heap[L]?=I (B a b)->(W.setCell ⟨L,i,J⟩ u).heap[L]?=I (B u b))(G:(w.alloc o).grownBy w2 j.ownBlock)(H:w2.ownsRow (L+1) p 1 (V (I ⟨g2,0,J⟩) (es.length+1) d) (es.length+1) (es.map J9.val++[V l n cap]))(r:j.ownBlock=I g2\/w.heap.size<=g2):
  w2.heap[L]?=I (B j q)/\∃t,GM tn f g p y s B z w0 L x t (w2.setCell ⟨L,i,J⟩ (V (I ⟨g2,0,J⟩) (es.length+1) d)) (V (I ⟨g2,0,J⟩) (es.length+1) d) q (V l n cap) n es [⟨l,n,cap,x⟩]:=by
 have A:=h.ls;rw[Y]at A;obtain⟨t,C,K,v,D⟩:=h.sh.step1 A ⟨m.1,m.2.1⟩ G H r;have E:=D.whole h.bx (fun e=>m.2.2.1 (h.bc.symm.trans e));exact⟨E,t,GM.box (h.ag.trans C h.fq.size) K v (h.fq.cls h.ag D fun k M=>by simp[M]) ((C L (Array.getElem?_eq_some_iff.1 h.bx).1).trans h.bc) m.2.2 (F _ _ _ _ E)⟩
theorem GM.s2 {tn f g y z s B A w0 L x c w w2 p j C n i es q g2 d o}(h:GM tn f g y z s B A w0 L x c w p j C n es [q])(G:q.m=x)(l:f≠tn/\f≠g/\1≠tn/\1≠f/\1≠g)(H:∀(W:U) a b u,W.heap[L]?=I (B a b)->(W.setCell ⟨L,i,J⟩ u).heap[L]?=I (B a u))(K:(w.alloc o).grownBy w2 j.ownBlock)(M:w2.ownsRow (L+1) 9 1 (V (I ⟨g2,0,J⟩) (es.length+1) d) (es.length+1) ((es.map fun e=>Q e.m)++[Z x]))(r:j.ownBlock=I g2\/w.heap.size<=g2):
  w2.heap[L]?=I (B p j)/\∃t,GM tn f g y z s B A w0 L x t (w2.setCell ⟨L,i,J⟩ (V (I ⟨g2,0,J⟩) (es.length+1) d)) p (V (I ⟨g2,0,J⟩) (es.length+1) d) C n (es++[q]) []:=by
 obtain⟨t,D,N,v,E⟩:=h.sh.step2 h.ls G ⟨l.1,l.2.1⟩ K M r;have F:=E.whole h.bx (fun e=>l.2.2.2.1 (h.bc.symm.trans e));exact⟨F,t,GM.box (h.ag.trans D h.fq.size) N (by rw[Y];exact v) (h.fq.cls h.ag E fun k O=>by simp[O]) ((D L (Array.getElem?_eq_some_iff.1 h.bx).1).trans h.bc) l.2.2 (H _ _ _ _ F)⟩
theorem GM.s3 {tn f b p d s B q w0 L x c w w2 r t n es g cap g2 a i}(h:GM tn f b p d s B q w0 L x c w r t (V g n cap) n es [])(l:b≠tn/\b≠f/\1≠b)(A:(GZ s x).length=s)(C:w.ownsRow (L+1) d s (V g n cap) n i)(D:∀k j v,k<n->(GZ s x)[j]?=I v->i[k*s+j]?=I v)(E:w2.ownsRow (L+1) d s (V (I ⟨g2,0,J⟩) (n+1) a) (n+1) (i++GZ s x))(m:(g=I ⟨g2,0,J⟩/\Fr (fun k=>k=g2) w w2)\/(w.heap.size<=g2/\F0 w w2)):
  ∃o,GM tn f b p d s B q w0 L x o w2 r t (V (I ⟨g2,0,J⟩) (n+1) a) (n+1) es []:=by
 obtain⟨_,_,_,F,u⟩:=h.ls;rw[Y]at u;obtain⟨o,y,G,H,z⟩:=h.sh.step3 C D F u ⟨l.1,l.2.1⟩ A E m;exact⟨o,h.ag.trans y h.fq.size,G,by rw[Y];exact H,h.fq.cls h.ag z fun k K=>by simp[K],z.whole h.bx (fun e=>l.2.2 (h.bc.symm.trans e)),(y L (Array.getElem?_eq_some_iff.1 h.bx).1).trans h.bc⟩
theorem LV.at {c w W L tn u x y z s q A B r t es}(h:LV c w L tn u x y z s (V r q A) (V t q B) es [])(C:F0 w W){i e}(hi:es[i]?=I e):
  ∃b d,r=I ⟨b,0,J⟩/\t=I ⟨d,0,J⟩/\W.cell? ⟨b,i,J⟩=I (V e.a e.n e.c)/\W.cell? ⟨d,i,J⟩=I (Z e.m)/\∀k,k<e.n->∃g,e.a=I ⟨g,0,J⟩/\∀j v,(GZ s e.m)[j]?=I v->W.cell? ⟨g,k*s+j,J⟩=I v:=by
 have f:=h.keep C (Wz.refl _ _) (by simp);have l:=f.nm;rw[Y]at l;have M:=(iG.1 hi).1;obtain⟨b,_,o,_,_⟩:=l.form (by omega);obtain⟨d,_,p,_,_⟩:=f.ma.form (by omega);injection o with o _ _;injection p with p _ _;subst o p;refine⟨b,d,rfl,rfl,?_,?_,fun k D=>?_⟩
 ·have:=l.cells (g:=b) rfl i _ (by rw[G,hi];rfl)
  rw[Yc,N]at this;exact this
 ·have:=f.ma.cells (g:=d) rfl i _ (by rw[G,hi];rfl)
  rw[Yc,N]at this;exact this
 obtain⟨g,E,_,O,F,H⟩:=f.el e (by simpa using mG hi) k D
 exact⟨g,E,fun j v K=>bC F _ _ (H j v K)⟩
theorem EJ (c w L v nv ov mv D P xs es F)(h:RA c w L v nv ov mv D P xs es F)(hE:es.length<=8796093022208)(Q:F.length<=8796093022208)(hn:∀e,e∈es\/e∈F->e.n<=maxLen):
  Calls Tryz.prog 29 #[O (I ⟨L,0,J⟩)] w fun e w'=>e=.returned (C true)/\F0 w w':=by
 have G:=Za hn;have h1:=h.n.nm;have h2:=h.o.nm;rw[Y]at h1 h2;obtain⟨na,nc,e⟩:=oL h1;subst e;obtain⟨ma,mc,e⟩:=oL h.n.ma;subst e;obtain⟨oa,oc,e⟩:=oL h2;subst e;obtain⟨ka,kc,e⟩:=oL h.o.ma;subst e;obtain⟨q,R⟩:∃q,es.length=q:=⟨_,rfl⟩;have HQ:=Za R;obtain⟨u,S⟩:∃u,F.length=u:=⟨_,rfl⟩;have HU:=Za S;have B:=Za h;rw[R,S]at B
 have N:Hid (∀W,F0 w W->W.cell? ⟨L,2,J⟩=I (V na q nc)/\W.cell? ⟨L,4,J⟩=I (V ma q mc)/\W.cell? ⟨L,3,J⟩=I (V oa u oc)/\W.cell? ⟨L,5,J⟩=I (V ka u kc)):=fun W hf=>by
  have b:=hf.whole B.o.bx;exact⟨Zc b 2,Zc b 4,Zc b 3,Zc b 5⟩
 rw[R]at hE;rw[S]at Q;go_enter Tryz.func29,Tryz.ntmps29;go_wp2_with fail
 go_loopg [3,4] q (fun m T _ wr=>∃i,i<=q/\m=q-i/\T=K .i64 (i:Nat)/\Hid (F0 w wr))
 case atStart=>exact⟨0,E _,rfl,rfl,(Fr.refl _ _)⟩
 obtain⟨i,hi,rfl,rfl,j⟩:=hrel;obtain⟨c2,c4,c3,c5⟩:=N.o wr j.o;by_cases U:i<q
 ·have l:(i:Int)<(q:Int):=by omega
  obtain⟨e,p⟩:∃e,es[i]?=I e:=⟨_,gE (by have:=HQ.o;omega)⟩;have r:=Za p;have s:=G.o e (Or.inl (mG p));unfold maxLen at s
  have H:(e.n:Int)<=9223372036854775807:=by omega
  obtain⟨gn,gm,d,f,s1,_⟩:=B.o.n.at j.o p;subst d f;go_wp2_with fail
  go_loopg [4] e.n (fun m D wr=>∃k,k<=e.n/\m=e.n-k/\D=K .i64 (k:Nat)/\Hid (F0 w wr))
  case atStart=>exact⟨0,E _,rfl,rfl,j⟩
  obtain⟨k,hk,rfl,rfl,a⟩:=hrel;obtain⟨d2,d4,d3,d5⟩:=N.o wr a.o;obtain⟨X,a0,d,f,r1,r2,M⟩:=B.o.n.at a.o r.o;injection d with d;injection d with d _ _;injection f with f;injection f with f _ _;subst d f;by_cases t:k<e.n
  ·have x:(k:Int)<(e.n:Int):=by omega
   obtain⟨g,ea,y⟩:=M k t;rw[ea]at r1
   (have t0:wr.cell? ⟨g,k,J⟩=I (Z e.m):=(by simpa using y 0 _ rfl);clear M y;go_upto_region 7 with fail)
   go_quiet (fail)
   have z:Hid (F0 w (wr.drewN nq)):=a.o.trans ⟨rfl,rfl,rfl,A _,fun _ _ _=>rfl⟩;go_wp2_with fail;go_roundg (e.n-(k+1))
   case measure=>omega
   exact⟨k+1,by omega,rfl,by go_num,z⟩
  have x:¬(k:Int)<(e.n:Int):=by omega
  go_wp2_with fail;go_roundg (q-(i+1))
  case measure=>omega
  exact⟨i+1,by omega,rfl,by go_num,a⟩
 have l:¬(i:Int)<(q:Int):=by omega
 go_wp2_with fail
 go_loopg [5,6] u (fun m T _ wr=>∃i,i<=u/\m=u-i/\T=K .i64 (i:Nat)/\Hid (F0 w wr))
 case atStart=>exact⟨0,E _,rfl,rfl,j⟩
 obtain⟨i,hi,rfl,rfl,j⟩:=hrel;obtain⟨c2,c4,c3,c5⟩:=N.o wr j.o;by_cases U:i<u
 ·have l:(i:Int)<(u:Int):=by omega
  obtain⟨e,p⟩:∃e,F[i]?=I e:=⟨_,gE (by have:=HU.o;omega)⟩;have r:=Za p;have s:=G.o e (Or.inr (mG p));unfold maxLen at s
  have H:(e.n:Int)<=9223372036854775807:=by omega
  obtain⟨gn,gm,d,f,s1,_⟩:=B.o.o.at j.o p;subst d f;go_wp2_with fail
  go_loopg [6] e.n (fun m D wr=>∃k,k<=e.n/\m=e.n-k/\D=K .i64 (k:Nat)/\Hid (F0 w wr))
  case atStart=>exact⟨0,E _,rfl,rfl,j⟩
  obtain⟨k,hk,rfl,rfl,a⟩:=hrel;obtain⟨d2,d4,d3,d5⟩:=N.o wr a.o;obtain⟨X,a0,d,f,r1,r2,M⟩:=B.o.o.at a.o r.o;injection d with d;injection d with d _ _;injection f with f;injection f with f _ _;subst d f;by_cases t:k<e.n
  ·have x:(k:Int)<(e.n:Int):=by omega
   obtain⟨g,ea,y⟩:=M k t;rw[ea]at r1
   (have t0:wr.cell? ⟨g,k*6,J⟩=I (Z e.m):=y 0 _ rfl;have t1:wr.cell? ⟨g,k*6+1,J⟩=I (Z e.m):=y 1 _ rfl;have t2:wr.cell? ⟨g,k*6+2,J⟩=I (Z ⟨#[]⟩):=y 2 _ rfl;clear M y;go_upto_region 15 with fail)
   go_quiet (fail)
   have z:Hid (F0 w (wr.drewN nq)):=a.o.trans ⟨rfl,rfl,rfl,A _,fun _ _ _=>rfl⟩;go_wp2_with fail;go_roundg (e.n-(k+1))
   case measure=>omega
   exact⟨k+1,by omega,rfl,by go_num,z⟩
  have x:¬(k:Int)<(e.n:Int):=by omega
  go_wp2_with fail;go_roundg (u-(i+1))
  case measure=>omega
  exact⟨i+1,by omega,rfl,by go_num,a⟩
 have l:¬(i:Int)<(u:Int):=by omega
 go_wp2_with fail;go_ret;exact⟨rfl,j.o⟩
