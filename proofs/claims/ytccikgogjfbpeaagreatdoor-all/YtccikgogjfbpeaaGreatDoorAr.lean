/- The law, for all: a switch is given rules. The law, for all: a route is set. The law, for all: a message is handled. The law, for all: a switch is given a table's image. The law, for all: the two boards; a step on a board. The law, for all: a new board; one board more. The law, for all: the script, played; All. The law: a world in which the listed variables lie; what the row's list gives. The law: the closed facts of the row All, one by one. For every script of steps of every kind, All answers true, and the script reads afterwards as it did: every Compile, plain text, decision, list of overlaps, list of dead rules and loaded image is as the document says, and so are two switches beside them (rules installed, images put in, cut or with more behind, routes set down and up, messages of any bytes); lists that went in or came out belong to their callers. Conditions: none but the row's own (the tables that lie ahead of the call lie as their text lays them; the card ties them). -/
import Derived.Test.YtccikgogjfbpeaaGreatDoorAq
import Derived.Test.YtccikgogjfbpeaaGreatDoorCards
import Derived.ProofKit
import Derived.Carry
import Derived.Deep.Slices
import Derived.Deep.DeepHandedRow
import Derived.Deep.DeepWitnessRowRef
import Derived.Stop.LaidErr
import Derived.Lay
import Derived.JoinedCond
import Derived.Test.YtccikgogjfbpeaaGreatDoorTie
import Derived.OpenShut
import Derived.SizedLaws
open Go.Proofs.Tryz renaming prog->J
open Option renaming none->V,some->Z
open Go.Value renaming slice->U,pointer->E,string->G,int->z9,bool->x4,oneCell'->x6,string->x7,pointer->k9,cells->b4
open Go.Ending renaming returned->A
open Go.IntKind renaming i64->y6,i64->b8
open Go.RowKit renaming Hid->y7
open Nat renaming le_refl->y9,zero_le->p3,le_of_not_lt->p4
open Go renaming Calls->x3,Value->p2,World->b6
open Go.Obj renaming cells->x5
open _root_.ByteArray renaming empty->x9
open Or renaming inr->q4,inl->b3
open Int renaming tdiv_eq_ediv_of_nonneg->q5
open Go.World renaming laidAll->q6,ownsRow_nil->q7,cells?_some->q8,news_of_block->g8,cell?_spot->p5
open List renaming getElem?_append_left->j0,getElem?_cons_zero->j8,getElem?_cons_succ->j9,length_filter_le->v9,drop_zero->k0,mem_append_left->k8,drop_succ_cons->g9,take_succ_cons->p1,map_append->p6,take_zero->p7,cons->p9,range->b7
open Go.Proofs.Tryz
namespace Go.Proofs.YtccikgogjfbpeaaGreatDoor
set_option linter.defProp false
set_option maxRecDepth 100000
set_option maxHeartbeats 8000000
open Go.RowKit Go.Maps Go.WideMaps
abbrev zO (t:Nat):List Nat:=[t,t+1,t+2,t+3]
def D2.ne {c w t B X M b n D q d l a R}(h:D2 c w t B X M b n D q d l a R):X≠B/\M≠B:=⟨fun e=>by have:=h.xc;rw[e,h.bc]at this;omega,fun e=>by have:=h.mc;rw[e,h.bc]at this;omega⟩
def D2.given {c w j p i t B X M I n D q z l u R v T x f b r m}(h:D2 c w t B X M I n D q z l u R)(W:n<=m)(Y:l.length<=m)(J:OQ j X M v n D)(K:RJ w.heap.size j v T)(L:rq T b r)(o:Fr (fun k=>k=X) w j)(d:F0 j p)(A:i=p.setCell ⟨B,1,V⟩ (E (Z ⟨x,0,V⟩)))(N:Bc b r)(O:∃a s,Xu s a x f b r/\wT (uI w c) i a s):tH w c i t B (m+1)/\US (zO t) c w i:=by
 obtain⟨C,P⟩:=h.ne;have F:=(iA.1 h.bx).1;have Q:=d.whole (o.whole h.bx fun e=>C e.symm);have y:Fr (fun k=>k=B) p i:=A▸Vh _ 1;have G:Fr (fun k=>k=X\/k=B) w i:=((o.mono fun k g=>b3 g).trans (d.mono)).trans (y.mono fun k g=>q4 g);have H:=h.sw.lt;refine⟨⟨uI w c,To w c,X,M,v,n,D,x,z,l,b,r,⟨?_,(To w c B F).trans h.bc,(J.fr d aA aA).fr y C P,(To w c X H.1).trans h.xc,(To w c M H.2).trans h.mc,?_,N,⟨j,w.heap.size,T,K,L,?_,fun k g _=>if_pos g⟩,h.dw.keep G (To w c) ?_,h.dl⟩,az,az⟩,G.mono ?_⟩
 ·rw[A];exact heap_setCell_same p B 1 _ _ _ Q
 ·obtain⟨a,s,S,U⟩:=O;exact⟨s,a,f,S,U⟩
 ·exact(d.mono).trans (y.mono fun k g=>by rw[g];exact F)
 ·rintro k (rfl|rfl)
  ·rw[h.xc];omega
  rw[h.bc];omega
 rintro k (rfl|rfl)
 ·rw[h.xc];simp
 rw[h.bc];simp
def FX (c w t B m T s F H U I Y dn dc up)(h:I5 c w t B m):
  x3 J 28 #[E (Z ⟨B,0,V⟩),QY 7 T s F H U I Y dn dc up] w fun e w'=>e=A (x4 true)/\tH w c w' t B (m+1)/\US (zO t) c w w':=by
 obtain⟨X,M,TT,n,D,q,dv,l,a0,R,K,hn,hl⟩:=h;have HB:=o K;obtain⟨b,HY⟩:=WM w (Yl 7 T s F H U I Y dn dc up);have y0:=Zc HY.o 0
 have j:y7 (∀W,Fr (fun k=>k=X) (w.alloc (Yl 7 T s F H U I Y dn dc up)) W->(W.cell? ⟨B,0,V⟩=Z (E (Z ⟨X,0,V⟩))/\W.cell? ⟨w.heap.size,2,V⟩=Z (G s))/\W.heap[B]?=Z (x5 #[E (Z ⟨X,0,V⟩),E (Z ⟨q,0,V⟩),dv] 73)):=fun W hf=>by
  have e:=hf.whole (b.o.whole K.bx) fun e=>K.ne.1 e.symm
  have hX:=K.sw.lt.1;exact⟨⟨Zc e 0,bC (hf.whole HY.o az) 2 _ rfl⟩,e⟩
 unfold Yl at b HY j y0;unfold QY;go_enter func28,ntmps28;go_wp2;refine wp_region_held_drew (S:=fun W=>W.cell? ⟨B,0,V⟩=Z (E (Z ⟨X,0,V⟩))/\W.cell? ⟨w.heap.size,2,V⟩=Z (G s)) aC (j.o _ Zo.drew).1 (fun z=>?_)
 iterate 6 (refine Yy 0 z ?_;try go_frame)
 refine WI 6 (fun K2 Q=>?_);go_simp;generalize hW:w.alloc _=W at*;have N:y7 (F0 w W.drew):=b.o.drew;have b0:=o (K.sw.fr N.o aA aA);have r:=o (⟨hn,hl⟩:n<=m/\l.length<=m);clear K y0 z hW hn hl
 cases u:Xc s with
 |error f=>
  obtain⟨f1,f2⟩:=f;refine(FF W.drew X s _ u).mono ?_;rintro e L ⟨rfl,i⟩;have d:=o (Zo.drew.trans i);obtain⟨a,v⟩:=j.o L (d.o.mono);have y2:=a.2;refine Q.out _ _ a (fun z=>?_);clear Q K2
  try go_frame
  iterate 5 (refine Yy 0 z ?_;try go_frame)
  refine wpAnyH_done aC ?_ _;have x:=IW s L;rw[u]at x;have x:=o x;clear u z i a v;go_wp2_with fail;refine x.o.mono ?_;intro e w2 C;obtain⟨rfl,g⟩:=(Vq.err rfl).1 C;have y:=o (b.o.trans (d.o.trans g));clear C g;go_wp2;go_ret;exact⟨rfl,⟨c,Y7.refl _ _,X,M,TT,n,D,q,dv,l,a0,R,HB.o.keep y.o (Y7.refl _ _) aA,aj r.o,aj r.o⟩,y.o.mono⟩
 |ok p=>
  have O:=o (Bc.mk (QK u) (Ft u) (FO u));refine(DT W.drew X M TT n D s p b0.o u).mono ?_;rintro e L ⟨rfl,⟨TN,hS,C⟩,i⟩;have HS:=o hS;have HT:=o (C.lo N.o.size);have d:=o (Zo.drew.trans i);obtain⟨a,v⟩:=j.o L d.o;have c0:=o v;have y2:=a.2;refine Q.out _ _ a (fun z=>?_);clear Q K2
  try go_frame
  iterate 5 (refine Yy 0 z ?_;try go_frame)
  refine wpAnyH_done aC ?_ _;have x:=IW s L;rw[u]at x;have x:=o x;clear u z i a v hS C;go_wp2_with fail;refine x.o.mono ?_;intro e w2 C;obtain⟨⟨q2,e0,rfl,hq⟩,g⟩:=(Vq.ok rfl).1 C;have HQ:=o hq;have y:=o g;have P:=o (g.whole c0.o);have x1:=Zc P.o 1;have fz:=bF P.o 1;clear C g hq;go_wp2;go_ret;have d0:w.heap.size<=L.heap.size:=ak d.o.size b.o.size;refine⟨rfl,HB.o.given r.o.1 r.o.2 HS.o HT.o (JQ O.o.bk) ((b.o.mono).trans d.o) y.o rfl O.o ⟨w.heap.size,w2,HQ.o.less d0,?_,fun k hk _=>if_pos hk⟩⟩
  exact(Vh _ 1).mono fun k hk=>by rw[hk];exact(iA.1 HB.o.bx).1
def D2.sets {c w j m o t B X M v n D q L l p R x y r u z}(h:D2 c w t B X M v n D q L l p R)(g:Fr (fun k=>k=M) w j)(N:OQ j X M v x y)(O:DX y r)(i:F0 j m)(G:m.ownsRow j.heap.size 9 1 u r.length (r.map x7))(A:o=m.setCell ⟨B,2,V⟩ u)(P:x<=z)(Q:r.length<=z)(ht:0<t):tH w c o t B z/\US (zO t) c w o:=by
 obtain⟨S,H⟩:=h.ne;have U:=(iA.1 h.bx).1;have W:=i.whole (g.whole h.bx fun e=>H e.symm);have I:Fr (fun k=>k=B) m o:=A▸Vh _ 2;have C:Fr (fun k=>k=M\/k=B) w o:=((g.mono fun k f=>b3 f).trans (i.mono)).trans (I.mono fun k f=>q4 f);have J:=h.sw.lt;have hz:=g.size
 have d:Y7 w c fun k=>if u.ownBlock=Z k then t+3 else c k:=fun k f=>if_neg fun e=>aj (G.lt k e).1
 have K:∀k,(k=M\/k=B)->c k≠0:=fun k f=>by
  rcases f with rfl|rfl
  ·rw[h.mc];omega
  rw[h.bc];omega
 obtain⟨Y,a,s,h6,h7⟩:=h.ru;obtain⟨w9,b,T,h9,E,F⟩:=h.tr;refine⟨⟨_,d,X,M,v,x,y,q,u,r,p,R,⟨?_,(d B U).trans h.bc,(N.fr i aA aA).fr I S H,(d X J.1).trans h.xc,(d M J.2).trans h.mc,⟨Y,a,s,h6,h7.keep C d K⟩,h.bk,⟨w9,b,T,h9,E,F.keep C d K⟩,⟨fun k f=>if_pos f,j.heap.size,?_⟩,O⟩,P,Q⟩,C.mono ?_⟩
 ·rw[A];exact heap_setCell_same m B 2 _ _ _ W
 ·rw[A];exact oB G aO _
 rintro k (rfl|rfl)
 ·rw[h.mc];simp
 rw[h.bc];simp
def wW (a:b6)(l:List ByteArray)(b:p2)(wr:b6):Prop:=F0 a wr/\wr.ownsRow a.heap.size 9 1 b l.length (l.map x7)
def wW.grow {b l d wr c o g a x}(h:wW b l d wr)(e:(wr.alloc o).grownBy c d.ownBlock)(f:c.ownsRow b.heap.size 9 1 (U (Z ⟨g,0,V⟩) (l.length+1) a) (l.length+1) (l.map x7++[G x])):wW b (l++[x]) (U (Z ⟨g,0,V⟩) (l.length+1) a) c:=
 ⟨(h.1.alloc o).grown e fun k i=>q4 (h.2.lt k i).1,by rw[lA,p6];exact f⟩
def keepL (l:List ByteArray)(s:ByteArray):List ByteArray:=l.filter fun y=>!(y.toList==s.toList)
def D8 (l x s):keepL (l++[x]) s=if(x.toList==s.toList)then keepL l s else keepL l s++[x]:=by
 unfold keepL;rw[List.filter_append]
 cases h:(x.toList==s.toList)<;>simp[h]
def uL (c w t B m on s F H am I da dn dc z)(h:I5 c w t B m)(ht:0<t)(hs:s.size<=140737488355328)(hm:(m+2)*16<=140737488355328):
  x3 J 28 #[E (Z ⟨B,0,V⟩),QY 9 on s F H am I da dn dc z] w fun e w'=>e=A (x4 true)/\tH w c w' t B (m+1)/\US (zO t) c w w':=by
 obtain⟨X,M,TT,n,D,q,dv,l,C0,R,C,hn,hl⟩:=h;have HB:=Za C;obtain⟨ba,bc,rfl,o0⟩:=C.strs;obtain⟨p,HY⟩:=WM w (Yl 9 on s F H am I da dn dc z);have y0:=Zc HY.o 0
 have d:y7 (∀W,Fr (fun k=>k=M) (w.alloc (Yl 9 on s F H am I da dn dc z)) W->(W.cell? ⟨B,0,V⟩=Z (E (Z ⟨X,0,V⟩))/\W.cell? ⟨w.heap.size,2,V⟩=Z (G s)/\W.cell? ⟨w.heap.size,8,V⟩=Z (x4 z))/\W.heap[B]?=Z (x5 #[E (Z ⟨X,0,V⟩),E (Z ⟨q,0,V⟩),U ba l.length bc] 73)):=fun W hf=>by
  have e:=hf.whole (p.o.whole C.bx) fun e=>C.ne.2 e.symm
  have hX:=C.sw.lt.2;have e2:=hf.whole HY.o az;exact⟨⟨Zc e 0,Zc e2 2,Zc e2 8⟩,e⟩
 have h0:y7 (∀W,Fr (fun k=>k=M) (w.alloc (Yl 9 on s F H am I da dn dc z)) W->ZX W ba l):=fun W hf=>by
  exact(C.dw.keep ((p.o.mono).trans hf) (Y7.refl _ _) fun k hk=>by rw[hk,C.mc];omega).strs
 unfold Yl at p HY d h0 y0;unfold QY;go_enter func28,ntmps28;go_wp2;refine wp_region_held_drew (S:=fun W=>W.cell? ⟨B,0,V⟩=Z (E (Z ⟨X,0,V⟩))/\W.cell? ⟨w.heap.size,2,V⟩=Z (G s)/\W.cell? ⟨w.heap.size,8,V⟩=Z (x4 z)) aC (d.o _ Zo.drew).1 (fun hH=>?_)
 iterate 8 (refine Yy 0 hH ?_;try go_frame)
 refine WI 8 (fun K2 P=>?_);go_simp;generalize hW:w.alloc _=W at*;have p0:y7 (F0 w W.drew):=p.o.drew;have q0:=Za (⟨hn,hl⟩:n<=m/\l.length<=m);refine(uE W.drew X M TT n D s z (C.sw.fr p0.o aA aA) az hs C.dl).mono ?_;rintro e j ⟨rfl,hS,i0⟩;have HS:=Za hS;have f:=Za (Zo.drew.trans i0);obtain⟨j0,k0⟩:=d.o j f.o;have r0:=Za k0;refine P.out _ _ j0 (fun hH=>?_);clear P K2
 try go_frame
 refine wpAnyH_done aC ?_ _;have s0:y7 (wW j (keepL (l.take 0) s) (U V 0 0) j):=⟨Zo,oZ _ _ _ _⟩;obtain⟨N,hN⟩:=ad l.length;have HN:=Za hN;have D0:N<=m:=az;rw[hN]at d r0;clear C hH j0 k0 i0 hS hW y0 hN o0 hn hl;go_wp2
 go_loopg [10,11] N (fun mm lv iv wr=>∃i,i<=N/\mm=N-i/\iv=z9 y6 (i:Nat)/\y7 (wW j (keepL (l.take i) s) lv wr))
 case atStart=>exact⟨0,p3 _,rfl,rfl,s0⟩
 obtain⟨i,hi,rfl,rfl,r⟩:=hrel;obtain⟨⟨x0,x2,x8⟩,T⟩:=d.o wr (f.o.trans (r.o.1.mono));have b2:=Zc T 2;have fz:=bF T 2;obtain⟨la,lc,el⟩:=oL r.o.2;subst el;obtain⟨K,P⟩:=ad (keepL (l.take i) s).length;have Q:=Za P
 have E0:K<=i:=by
  rw[<-P];unfold keepL;have:=v9 (fun y=>!(y.toList==s.toList)) (l.take i);rw[List.length_take]at this;omega
 have Y:=Za r.o.2;rw[P];rw[P]at Y;have t0:j.heap.size<=wr.heap.size:=r.o.1.size;clear P;by_cases G0:i<N
 ·have v0:=af i N;obtain⟨x,hx⟩:∃x,l[i]?=Z x:=⟨_,gE (aj HN.o)⟩;obtain⟨g,o,rfl,hc⟩:=h0.o wr (f.o.trans (r.o.1.mono)) i x hx
  have L:y7 (keepL (l.take (i+1)) s=if(x.toList==s.toList)then keepL (l.take i) s else keepL (l.take i) s++[x]):=by
   show _=_
   rw[List.take_add_one,hx];exact D8 _ _ _
  clear hx;go_upto_region 14 with fail
  go_quiet (fail)
  have a0:y7 (F0 wr (wr.drewN nq)):=⟨rfl,rfl,rfl,y9 _,fun _ _ _=>rfl⟩
  have u:y7 (wW j (keepL (l.take i) s) (U la K lc) (wr.drewN nq)):=by
   have e:=r.o.2;rw[Q.o]at e;exact⟨r.o.1.trans a0.o,by rw[Q.o];exact oF e a0.o⟩
  obtain⟨⟨z0,z2,z8⟩,l0⟩:=d.o (wr.drewN nq) (f.o.trans (u.o.1.mono));have d2:=Zc l0 2;have w0:=a0.o.get hc;have H0:j.heap.size<=(wr.drewN nq).heap.size:=u.o.1.size;clear x0 x2 x8 T b2 fz hc r l0 t0;generalize wr.drewN nq=W2 at*
  cases hq:(x.toList==s.toList)with
  |true=>
   rw[hq,if_pos rfl]at L;go_wp2;go_roundg (N-(i+1))
   case measure=>omega
   exact⟨i+1,az,rfl,aE,by show wW _ _ _ _;rw[L.o];exact u.o⟩
  |false=>
   rw[hq,if_neg aB]at L
   go_wp2_with (at_builtin;refine ao j.heap.size Ut underlying28 (U la K lc) K ((keepL (l.take i) s).map x7) ?k1 ⟨W2.heap.size,0,V⟩ [G x] ?k2 ?_)
   case k1=>have e:=u.o.2;rw[Q.o]at e;exact e.alloc _
   case k2=>exact g8 (aN W2 _)
   intro g5 v w5 b a b0 _
   have O:y7 (wW j (keepL (l.take (i+1)) s) (U (Z ⟨g5,0,V⟩) (K+1) v) w5):=by
    have e:=u.o;rw[<-Q.o]at e b a ⊢
    show wW _ _ _ _
    rw[L.o];exact e.grow a b
   clear b a b0 z0 z2 z8 d2 w0;go_wp2;go_roundg (N-(i+1))
   case measure=>omega
   exact⟨i+1,az,rfl,aE,O⟩
 have v0:=ai i N;obtain rfl:i=N:=az
 have A0:y7 (l.take i=l):=by show _=_;rw[<-HN.o,List.take_length]
 rw[A0.o]at r Y Q
 have m0:y7 (∀W lv,wW j (uD l s z) lv W->tH w c (W.setCell ⟨B,2,V⟩ lv) t B (m+1)/\US (zO t) c w (W.setCell ⟨B,2,V⟩ lv)):=fun W' lv n0=>by
  obtain⟨n',D',h1,h2,h3⟩:=HS.o
  have B0:(uD l s z).length<=m+1:=by
   have:=v9 (fun y=>!(y.toList==s.toList)) l;have:=HN.o;unfold uD
   split<;>simp<;>omega
  exact HB.o.sets ((p.o.mono).trans f.o) h2 h3 n0.1 n0.2 rfl (aj q0.o) B0 ht
 cases z with
 |true=>
  have HG:=Za (m0.o wr (U la K lc) (by have e:=r.o;rw[Q.o]at e;exact e));go_wp2;go_ret;exact⟨rfl,HG.o⟩
 |false=>
  go_wp2_with (at_builtin;refine ao j.heap.size Ut underlying28 (U la K lc) K ((keepL l s).map x7) ?j1 ⟨wr.heap.size,0,V⟩ [G s] ?j2 ?_)
  case j1=>exact Y.o.alloc _
  intro g5 v w5 b a b0 _
  have O:y7 (wW j (keepL l s++[s]) (U (Z ⟨g5,0,V⟩) (K+1) v) w5):=by
   have e:=r.o;rw[Q.o]at e;rw[<-Q.o]at e b a ⊢;exact e.grow a b
  have HG:=Za (m0.o w5 _ O.o);obtain⟨_,c0⟩:=d.o w5 (f.o.trans (O.o.1.mono));have b5:=Zc c0 2;have I0:=bF c0 2;clear b a b0 c0;go_wp2;go_ret;exact⟨rfl,HG.o⟩
def D9 (c w t B m k on s I K am L da dn dc up)(h:I5 c w t B m)(hk:k≠7/\k≠9)(hs:s.size<=140737488355328)(hE:Jy w)(hm:m<=140737488355328):
  x3 J 28 #[E (Z ⟨B,0,V⟩),QY k on s I K am L da dn dc up] w fun e w'=>e=A (x4 true)/\F0 w w':=by
 obtain⟨X,M,TT,n,D,q,dv,l,g,R,hB,hn,hl⟩:=h;obtain⟨ba,bc,rfl,n0⟩:=hB.strs
 have e7:(k==7)=false:=by simpa using hk.1
 have e9:(k==9)=false:=by simpa using hk.2
 obtain⟨u,HY⟩:=WM w (Yl k on s I K am L da dn dc up);have y0:=Zc HY.o 0
 have HB:y7 (∀W,F0 (w.alloc (Yl k on s I K am L da dn dc up)) W->D2 c W t B X M TT n D q (U ba l.length bc) l g R/\W.cell? ⟨w.heap.size,2,V⟩=Z (G s)/\Jy W):=fun W x=>⟨hB.keep (u.o.trans x) (Y7.refl _ _) aA,bC (x.whole HY.o) 2 _ rfl,hE.fr (u.o.trans x)⟩
 obtain⟨O,hO⟩:=ad (uC g R (UX g l) s)
 have a0:y7 (∀W,F0 (w.alloc (Yl k on s I K am L da dn dc up)) W->x3 J 54 #[E (Z ⟨X,0,V⟩),G s] W fun e w'=>e=A (.agg #[z9 y6 (O.1:Nat),G O.2.1,G O.2.2])/\F0 W w'):=fun W x=>by
  obtain⟨P,_,h3⟩:=HB.o W x;obtain⟨_,b,T,h4,h5⟩:=P.rf;have e:=DV W X M TT n b D T g R s P.sw h4 h5 hs h3;rw[P.dl.sw P.bk.im,hO]at e;exact e
 unfold Yl at u HY HB a0 y0;unfold QY;go_enter func28,ntmps28;go_upto_region 20 with fail;generalize hW:w.alloc _=W at*
 have j:y7 (∀d,F0 W d->d.cell? ⟨B,0,V⟩=Z (E (Z ⟨X,0,V⟩))/\d.cell? ⟨w.heap.size,2,V⟩=Z (G s)):=fun d x=>⟨Zc (HB.o _ x).1.bx 0,(HB.o _ x).2.1⟩
 have HO:=o hO;have i0:l.length<=maxLen:=aM;have o0:=o i0;clear hO hB n0 y0 hW hk hE i0
 go_cut [12] (fun v wx=>∃Q,v=E (Z ⟨Q,0,V⟩)/\y7 (F0 W wx/\W.heap.size<=Q/\wx.heap[Q]?=Z (wV O)))
 case first=>
  refine wp_region_held_drew (S:=fun W=>W.cell? ⟨B,0,V⟩=Z (E (Z ⟨X,0,V⟩))/\W.cell? ⟨w.heap.size,2,V⟩=Z (G s)) aC (j.o _ Zo.drew) (fun Y=>?_)
  iterate 6 (refine Yy 0 Y ?_;try go_frame)
  refine XA [6,7] ?_;refine Zb rfl (fun r f=>?_) (Zb rfl (fun r f=>?_) AllReadyH.nil)
  ·try rw[if_pos aD]
   go_simp;refine(a0.o _ Zo.drew).mono ?_;rintro e y ⟨rfl,i⟩;have a:y7 (F0 W y):=Zo.drew.trans i;clear i;refine f.out _ _ (j.o _ a.o) (fun Y=>?_);clear f r
   try go_frame
   refine WI 7 (fun r f=>?_);go_simp;refine f.out _ _ (j.o _ (a.o.alloc _)) (fun Y=>?_);clear f r
   try go_frame
   refine WI 8 (fun r f=>?_);refine wp_store_row 38 _ _ rfl y.heap.size #[z9 y6 (O.1:Nat),G O.2.1,G O.2.2] rfl rfl 38 _ (heap_alloc_new y _) aC rfl (by simp[x6]) ?_;refine f.out _ _ (j.o _ (Fr.setRow (a.o.alloc _) (q4 a.o.size) _)) (fun _=>?_);clear f r
   try go_frame
   refine wpAnyH_done aC ?_ _;go_wp2;go_meet;exact⟨_,rfl,Fr.setRow (a.o.alloc _) (q4 a.o.size) _,a.o.size,setRow_heap _ _ _ _ _ _ (aN y _)⟩
  try rw[if_pos aD]
  go_simp;refine f.out _ _ (j.o _ (Zo.drew.alloc _)) (fun Y=>?_);clear f r
  try go_frame
  obtain⟨p0,q0⟩:=WM W.drew (x5 #[z9 y6 0,G ⟨#[]⟩,G ⟨#[]⟩] 38);have j0:y7 (F0 W (W.drew.alloc (x5 #[z9 y6 0,G ⟨#[]⟩,G ⟨#[]⟩] 38))):=Zo.drew.trans p0.o;refine WI 6 (fun r f=>?_);go_simp;refine(a0.o _ j0.o).mono ?_;rintro e y ⟨rfl,i⟩;have a:y7 (F0 W y):=j0.o.trans i;have z:y7 (y.heap[W.heap.size]?=Z (x5 #[z9 y6 0,G ⟨#[]⟩,G ⟨#[]⟩] 38)):=i.whole q0.o;clear i;refine f.out _ _ (j.o _ a.o) (fun Y=>?_);clear f r
  try go_frame
  refine WI 8 (fun r f=>?_);refine wp_store_row 38 _ _ rfl W.heap.size #[z9 y6 (O.1:Nat),G O.2.1,G O.2.2] rfl rfl 38 _ z.o aC rfl (by simp[x6]) ?_;refine f.out _ _ (j.o _ (Fr.setRow a.o (q4 (y9 _)) _)) (fun _=>?_);clear f r
  try go_frame
  refine wpAnyH_done aC ?_ _;go_wp2;go_meet;exact⟨_,rfl,Fr.setRow a.o (q4 (y9 _)) _,(y9 _),setRow_heap _ _ _ _ _ _ z.o⟩
 obtain⟨Q1,rfl,HQ⟩:=hcut;have y2:=(HB.o wc HQ.o.1).2.1;have HM:=o (IY s wc hs);go_wp2_with fail;refine HM.o.mono ?_;rintro e w2 ⟨⟨p,b,rfl,C⟩,b0⟩;have c0:=o (HQ.o.1.trans b0);have k0:=o (b0.whole HQ.o.2.2)
 have l0:y7 (O=if b then UF g R p (UX g l)else(1,x9,x9)):=by
  show O=_
  rw[<-HO.o];unfold uC;unfold vx at C
  cases hr:WX s.data.toList with
  |none=>
   rw[hr]at C;rw[C];rfl
  |some q=>
   rw[hr]at C;obtain⟨rfl,rfl⟩:=C
   cases h:YD p with
   |true=>rfl
   |false=>
    dsimp only
    unfold UF;rw[h];rfl
 have r0:y7 (b=true->p.pan.size<=maxLen):=fun hb=>by
  unfold vx at C
  cases hr:WX s.data.toList with
  |none=>
   rw[hr]at C;rw[C]at hb
   cases hb
  |some q=>
   rw[hr]at C;rw[C.1];have:=Kb hr;simp at this;unfold maxLen;omega
 clear C b0 HM HQ;obtain⟨d0,m0,F⟩:=TL w2 (x5 #[G p.pan,z9 y6 p.mcc,z9 y6 p.am,z9 y6 p.cur] 35) (x5 #[z9 y6 1,G ⟨#[]⟩,G ⟨#[]⟩] 38);have H:=o (d0.o.whole k0.o);have e0:=o (c0.o.trans d0.o);unfold X4;unfold wV at H
 cases b with
 |false=>
  obtain rfl:O=(1,x9,x9):=l0.o;go_upto_region 23 with fail;generalize(w2.alloc _).alloc _=W4 at*;obtain⟨x0,x1,x2⟩:=aq F.o;obtain⟨z0,z1,z2⟩:=aq H.o;go_wp2;go_ret;exact⟨rfl,u.o.trans e0.o⟩
 |true=>
  have s0:y7 (∀d,F0 W d->x3 J 56 #[E (Z ⟨q,0,V⟩),.agg #[G p.pan,z9 y6 p.mcc,z9 y6 p.am,z9 y6 p.cur],U ba l.length bc] d fun e w'=>e=A (.agg #[z9 y6 (O.1:Nat),G O.2.1,G O.2.2])/\F0 d w'):=fun d x=>by
   obtain⟨P,_,_⟩:=HB.o d x;have e:=Nl d q g R ba bc l p P.rf.1 P.bk.bk (r0.o rfl) (zN.strs P.dw) o0.o;rw[show O=UF g R p (UX g l)from l0.o];exact e
  go_upto_region 23 with fail;generalize(w2.alloc _).alloc _=W4 at*;obtain⟨N,hN⟩:=ad w2.heap.size;rw[hN]at m0 F ⊢
  have f0:y7 (∀d,Fr (fun k=>k=N+1) W4 d->d.cell? ⟨B,1,V⟩=Z (E (Z ⟨q,0,V⟩))/\d.cell? ⟨B,2,V⟩=Z (U ba l.length bc)/\d.cell? ⟨N,0,V⟩=Z (G p.pan)/\d.cell? ⟨N,1,V⟩=Z (z9 y6 p.mcc)/\d.cell? ⟨N,2,V⟩=Z (z9 y6 p.am)/\d.cell? ⟨N,3,V⟩=Z (z9 y6 p.cur)):=fun d x=>by
   have hb:=(HB.o _ c0.o).1.bx;have P:=(iA.1 hb).1;have e:=x.whole (d0.o.whole hb) az;have e2:=x.whole m0.o az;exact⟨Zc e 1,Zc e 2,Zc e2 0,Zc e2 1,Zc e2 2,Zc e2 3⟩
  go_wp2;refine wp_region_held_drew (S:=fun d=>d.cell? ⟨B,1,V⟩=Z (E (Z ⟨q,0,V⟩))/\d.cell? ⟨B,2,V⟩=Z (U ba l.length bc)/\d.cell? ⟨N,0,V⟩=Z (G p.pan)/\d.cell? ⟨N,1,V⟩=Z (z9 y6 p.mcc)/\d.cell? ⟨N,2,V⟩=Z (z9 y6 p.am)/\d.cell? ⟨N,3,V⟩=Z (z9 y6 p.cur)) aC (f0.o _ Zo.drew) (fun Y=>?_)
  iterate 9 (refine Yy 0 Y ?_;try go_frame)
  refine WI 9 (fun r f=>?_);go_simp;refine(s0.o _ e0.o.drew).mono ?_;rintro e y ⟨rfl,i⟩;have a:y7 (F0 W4 y):=Zo.drew.trans i;clear i;refine f.out _ _ (f0.o _ a.o.mono) (fun Y=>?_);clear f r
  try go_frame
  have z:=o (a.o.whole F.o);refine WI 10 (fun r f=>?_);refine wp_store_row 38 _ _ rfl (N+1) #[z9 y6 (O.1:Nat),G O.2.1,G O.2.2] rfl rfl 38 _ z.o aC rfl (by simp[x6]) ?_;have g0:=o (Fr.setRow (S:=fun k=>k=N+1) a.o.mono (b3 rfl) #[z9 y6 (O.1:Nat),G O.2.1,G O.2.2]);refine f.out _ _ (f0.o _ g0.o) (fun _=>?_);clear f r
  try go_frame
  refine wpAnyH_done aC ?_ _;have hx:=setRow_heap (cs:=#[z9 y6 (O.1:Nat),G O.2.1,G O.2.2]) y (N+1) _ _ _ z.o;have v0:=o hx;have h0:=o (g0.o.whole H.o (aj (iA.1 k0.o).1));generalize y.setRow _ _=W6 at*;obtain⟨x0,x1,x2⟩:=aq hx;obtain⟨z0,z1,z2⟩:=aq h0.o;clear hx
  have t0:y7 (F0 w W6):=(u.o.trans e0.o).monoNew g0.o fun k hk=>q4 (aj (u.o.trans c0.o).size)
  go_wp2;go_ret;exact⟨rfl,t0.o⟩
def FY {l b x}(h:Vm l=Z b)(d:1<=x.length):Vm (l++x)=V:=by
 cases a:Vm (l++x)with
 |none=>rfl
 |some e=>
  obtain⟨f,g,c,i⟩:=RX h;obtain⟨g1,g2,g3,j⟩:=RX a;rw[lA]at g2 g3;rw[List.take_append_of_le_length z,c]at g3;have:=Fe z z g3;omega
def zz {l}(h:Vm l=V):TE l=V:=by
 unfold TE;rw[h]
def Bc.img {a R}(h:Bc a R):(∃b,Vm (Pc a R).data.toList=Z b)/\8<=(Pc a R).size/\(Pc a R).size<=200000:=by
 have c:=(NZ h.bk h.ar h.im).2
 have e:(Pc a R).size=(Wy (XK (Yi a R))).length:=by simp[Pc,ByteArray.size]
 rw[e,OL];exact⟨⟨_,LO z⟩,z,z⟩
def wX (c w t B m X k on s K L am N da dn dc up)(h:I5 c w t B m)(hx:KQ c w X)(ht:9<t)(hs:s.size<=140737488355328)(hH:OG w):
  x3 J 50 #[E (Z ⟨B,0,V⟩),E (Z ⟨X,0,V⟩),QY k on s K L am N da dn dc up] w fun e F=>e=A (x4 true)/\tH w c F t B (m+1)/\US (zO t) c w F:=by
 obtain⟨Y,M,TT,n,D,q,dv,l,O,R0,hB,hn,hl⟩:=h;obtain⟨w0,a,q2,H,b,T,y,R,lo,n0,v0,y0,⟨Q,g1⟩,g2,g3,g4,g5,g6,g7,_⟩:=hx;obtain⟨f,HY⟩:=WM w (Yl k on s K L am N da dn dc up)
 have HI:y7 (∀W,F0 w W->x3 J 23 #[E (Z ⟨T,0,V⟩)] W fun e F=>e=A (G (Pc y R))/\F0 W F):=fun W U=>((g2.fr (g5.keep U (Y7.refl _ _) aA).1 fun k hk=>hk).tq g3).image g3 (hH.fr U)
 have v:=o hB;have o0:=o g6;have a0:=o g3;have j:=o (⟨hn,hl⟩:n<=m/\l.length<=m);have c0:=o (⟨g1,g4⟩:Xu w0 a q2 Q y R/\wT c w a w0);have HX:=o (f.o.whole g7);have z:=o (f.o.whole hB.bx);have C:=o (hH.fr f.o);have x0:=Zc HX.o 0;obtain⟨⟨bd,ho⟩,z0,A0⟩:=g3.img;have d0:=o ho;have f0:=o g3.load;unfold Yl at f HY HX z C x0;unfold QY;clear hB g1 g2 g4 g5 g7 hn hl ho;go_enter func50,ntmps50;go_upto_region 1 with fail;generalize w.alloc _=W at*;obtain⟨P,hP⟩:=ad w.heap.size;rw[hP]at HY ⊢;go_wp2_with fail;refine(HI.o W f.o).mono ?_;rintro e H ⟨rfl,g⟩;have i:=o (f.o.trans g);have g0:=o (g.whole HY.o);have p0:=o (g.whole HX.o);have i0:=o (g.whole z.o);have j0:=o (C.o.fr g);have y2:=Zc g0.o 2;have y8:=Zc g0.o 8;have b0:=Zc i0.o 0;have q0:=o (v.o.sw.fr i.o aA aA);generalize Pc y R=I at*;clear g x0 HI z HX HY C
 cases up with
 |true=>
  have p:y7 (∀u:ByteArray,u.size<=9223372036854775807->Vm u.data.toList=V->x3 J 91 #[E (Z ⟨Y,0,V⟩),G u] H fun e F=>e=A (x4 false)/\F0 H F):=fun u hu ho=>wL H Y u hu (zz ho) j0.o
  have x:y7 (∀r,F0 H r->tH w c r t B (m+1)/\US (zO t) c w r):=fun r U=>⟨⟨c,Y7.refl _ _,Y,M,TT,n,D,q,dv,l,O,R0,v.o.keep (i.o.trans U) (Y7.refl _ _) aA,aj j.o,aj j.o⟩,(i.o.trans U).mono⟩
  by_cases h0:s.size=0
  ·have e0:s.toList.isEmpty=true:=by
    rw[ByteArray.toList_eq]
    have:s.data.toList.length=0:=by simpa using h0
    rw[List.length_eq_zero_iff.1 this];rfl
   have hcut:=p.o (I.extract 0 (I.size-1)) (by rw[ByteArray.size_extract];omega) (by
    rw[Lib.extract_data,k0]
    exact xR d0.o aF)
   have HC:=o hcut;have B0:=af 0 I.size;have C0:(0:Int)<=(I.size:Int)-1:=az;have D0:(I.size:Int)-1<=(I.size:Int):=az;have E0:((I.size:Int)-1).toNat=I.size-1:=az;clear p hcut;go_wp2_with fail;refine HC.o.mono ?_;rintro e r ⟨rfl,d⟩;have HE:=o (x.o r d);go_wp2;go_ret;exact⟨rfl,HE.o⟩
  have e0:s.toList.isEmpty=false:=by
   rw[ByteArray.toList_eq]
   cases hd:s.data.toList with
   |nil=>
    have h1:s.data.toList.length=0:=by rw[hd];rfl
    exact absurd (by simpa using h1) h0
   |cons _ _=>rfl
  have HC:=o (p.o (I++s) (by rw[ByteArray.size_append];omega) (by
   rw[show(I++s).data.toList=I.data.toList++s.data.toList from aA]
   exact FY d0.o aF))
  clear p;go_wp2_with fail;refine HC.o.mono ?_;rintro e r ⟨rfl,d⟩;have HE:=o (x.o r d);go_wp2;go_ret;exact⟨rfl,HE.o⟩
 |false=>
  have r0:=o (wK H Y M TT n D I _ q0.o az f0.o j0.o);go_wp2_with fail;refine r0.o.mono ?_;rintro e r ⟨rfl,⟨TN,hS,hT⟩,d⟩;have HS:=o hS;have HT:=o (hT.lo i.o.size);have l0:=o d;have s0:=o v.o.ne;have G0:=v.o.sw.lt;have m0:=o (d.whole i0.o fun e=>s0.o.1 e.symm);have t0:=o (d.whole p0.o fun e=>by have h:=v.o.xc;rw[<-e,o0.o]at h;omega);have x1:=Zc t0.o 1;have b1:=Zc m0.o 1;have fz:=bF m0.o 1;clear hS hT d;go_wp2;go_ret;refine⟨rfl,v.o.given j.o.1 j.o.2 HS.o HT.o (wJ a0.o.bk (IU f0.o)) ((i.o.mono).trans l0.o) Zo rfl a0.o ⟨a,w0,c0.o.1,?_⟩⟩;refine c0.o.2.keep (S:=fun k=>k=Y\/k=B) (((i.o.mono).trans (l0.o.mono fun k hk=>b3 hk)).trans ((Vh _ 1).mono fun k hk=>q4 hk)) (To w c) ?_;rintro k (rfl|rfl)
  ·rw[v.o.xc];omega
  rw[v.o.bc];omega
def WH (Bs:List Nat)(c:Nat->Nat)(w:b6)(a:p2)(m:Nat):Prop:=zN c w 20 65 1 a Bs.length (Bs.map fun B=>k9 (Z ⟨B,0,V⟩))/\∀i B,Bs[i]?=Z B->i<2/\I5 c w (12+4*i) B m
def I5.up {c w t B m b}(h:I5 c w t B m)(g:m<=b):I5 c w t B b:=by
 obtain⟨X,M,d,n,D,q,e,l,a,R,f,i,j⟩:=h;exact⟨X,M,d,n,D,q,e,l,a,R,f,z,z⟩
def Pd {Bs}:uK (WH Bs):=by
 rintro c w j m l n o ⟨f,a⟩ b d g;exact⟨f.keep b d fun k h=>z,fun i B e=>⟨(a i B e).1,((a i B e).2.keep b d fun k h=>z).up g⟩⟩
def Sn.keepB {c i w j L v l m p r s b u x y S}(h:Sn c w L v l m p r s b u x y)(d:Fr S w j)(f:Y7 w c i)(B:∀k,S k->11<c k):Sn i j L v l m p r s b u x y:=by
 have q:∀{k t:Nat},S k->t<=11->c k≠t:=fun g z e=>aj (B _ g)
 obtain⟨g,z⟩:=Xn h.tv h.tc d f fun k a=>q a aB
 exact⟨d.whole h.bx fun e=>q e aB h.bc,(f L (iA.1 h.bx).1).trans h.bc,g,z,h.few,fun X A=>(h.tb X A).keep d f fun k a=>⟨q a aB,q a aB,q a aB,fun e=>q a aB (e▸(h.tb X A).cx)⟩,h.n.keep d f fun k a=>⟨q a aB,q a aB,q a aB⟩,h.o.keep d f fun k a=>⟨q a aB,q a aB,q a aB⟩⟩
def WH.pick {Bs c w o m}(h:WH Bs c w o m){j B}(f:Bs[j]?=Z B):(∃g a,o=U (Z ⟨g,0,V⟩) Bs.length a/\w.cell? ⟨g,j,V⟩=Z (E (Z ⟨B,0,V⟩)))/\I5 c w (12+4*j) B m/\∀l w' n,Y7 w c l->I5 l w' (12+4*j) B n->US (zO (12+4*j)) c w w'->m<=n->WH Bs l w' o n:=by
 have F:=(iG.1 f).1;obtain⟨r,s⟩:=h;obtain⟨p,x⟩:=s j B f;refine⟨?_,x,fun l w' n t y u z=>⟨r.keep u t fun k q=>by simp at q;omega,fun i A d=>?_⟩⟩
 ·obtain⟨_,b,v⟩:=r;obtain⟨g,a,e,_⟩:=v.form az;subst e;exact⟨g,a,rfl,by rw[v.cellAt j az,List.getElem?_map,f];rfl⟩
 by_cases e:i=j
 ·subst e;rw[f]at d;injection d with d;exact⟨p,d▸y⟩
 obtain⟨C,D⟩:=s i A d;exact⟨C,(D.keep u t fun k q=>by simp at q;omega).up z⟩
def tK (c)(a: -9223372036854775808<=c)(b:c<=9223372036854775807): -9223372036854775808<=c.tdiv 4/\c.tdiv 4<=9223372036854775807:=by
 rcases Int.le_total 0 c with h|h
 ·rw[q5 h];omega
 have e:c.tdiv 4= -((-c).tdiv 4):=by rw[Int.neg_tdiv,Int.neg_neg]
 rw[e,q5 z];omega
def rH {S w n}:Fr S w (w.drewN n):=⟨rfl,rfl,rfl,y9 _,fun _ _ _=>rfl⟩
def Sn.board {Bs c w W w' L v i p q r s a u g h t B m}(x:Sn c w L v i p q r s a u g h)(y:∀k,k<L->c k=0)(G:a<=m)(H:g.length<=4*m)(I:h.length<=4*m)(C:∀e,e∈g\/e∈h->e.n<=8796093022208)(J:11<t)(D:∀b w' j,Y7 w c b->I5 b w' t B j->US (zO t) c w w'->m<=j->WH Bs b w' i j)(z:F0 w W)(l:tH W c w' t B (m+1))(E:US (zO t) c W w'):Vi (WH Bs) w' L (m+1)/\Fr (fun k=>L<=k) w w':=by
 obtain⟨b,F,l⟩:=l
 have d:Y7 w c b:=fun k f=>F k (nL f z.size)
 have o:US (zO t) c w w':=(z.mono).trans E;have K:=(iA.1 x.bx).1
 have A:∀k,c k∈zO t->11<c k:=fun k f=>by simp at f;omega
 exact⟨⟨b,v,i,p,q,r,s,a,u,g,h,x.keepB o d A,fun k f=>(d k az).trans (y k f),az,az,az,C,D b w' (m+1) d l o az⟩,o.mono fun k f=>p4 fun e=>ak (y k e) (A k f)⟩
def Vi.sw {Bs w L m k}{j B:Nat}(h:Vi (WH Bs) w L m)(C:Bs[j]?=Z B)(n s a b o d p q r u)(D:k=7\/k=9\/k=10)(F:Jy w)(y:s.size<=140737488355328)(S:96*m+96<=140737488355328):
  x3 J 28 #[E (Z ⟨B,0,V⟩),QY k n s a b o d p q r u] w fun e w'=>e=A (x4 true)/\Vi (WH Bs) w' L (m+1)/\Fr (fun k=>L<=k) w w':=by
 obtain⟨c,v,T,U,W,X,Y,G,xs,es,fs,H,I,K,M,N,O,P⟩:=h;obtain⟨_,i,z⟩:=P.pick C;obtain⟨t,Q,R⟩:∃t,11<t/\12+4*j=t:=⟨_,az,rfl⟩;rw[R]at i z
 have f:=fun w'=>H.board (w':=w') I K M N O Q z Zo
 rcases D with rfl|rfl|rfl
 ·exact(FX c w t B m n s a b o d p q r u i).mono fun e w' ⟨l,g,x⟩=>⟨l,f w' g x⟩
 ·exact(uL c w t B m n s a b o d p q r u i az y az).mono fun e w' ⟨l,g,x⟩=>⟨l,f w' g x⟩
 exact(D9 c w t B m 10 n s a b o d p q r u i aB y F az).mono fun e w' ⟨l,g⟩=>⟨l,f w' ⟨c,Y7.refl _ _,(i.keep g (Y7.refl _ _) aA).up az⟩ g.mono⟩
def zA {Bs}(hl:Bs.length=2)(w L m k a s d f x i y z C D)(h:Vi (WH Bs) w L m)(G:k=7\/k=9\/k=10)(H: -9223372036854775808<=a)(I:a<=9223372036854775807)(hE:Jy w)(hs:s.size<=140737488355328)(hm:96*m+96<=140737488355328):
  x3 J 26 #[E (Z ⟨L,0,V⟩),QY k a s d f x i y z C D] w fun e p=>e=A (x4 true)/\Vi (WH Bs) p L (m+1)/\Fr (fun k=>L<=k) w p:=by
 have h':=h;obtain⟨c,v,bv,nv,ov,mv,kv,a0,xs,es,fs,K,h2,h3,h4,h5,h6,T⟩:=h';obtain⟨d1,d2⟩:=tK a H I;have hp:=PZ (a.tdiv 4) 2 aB;obtain⟨j,M⟩:=ad (Tn (a.tdiv 4) 2);rw[M]at hp;obtain⟨B,q⟩:∃B,Bs[j]?=Z B:=⟨_,gE az⟩;obtain⟨⟨g,b0,e,N⟩,_⟩:=T.pick q;subst e;rw[hl]at K
 have O:y7 (∀W,x3 J 44 #[z9 y6 (a.tdiv 4),z9 y6 2] W fun e p=>e=A (z9 y6 (j:Nat))/\p=W):=fun W=>by
  have e:=P0 (a.tdiv 4) 2 W d1 d2 aB aB;rw[M]at e;exact e
 have r:y7 (∀W,F0 w W->x3 J 28 #[E (Z ⟨B,0,V⟩),QY k a s d f x i y z C D] W fun e p=>e=A (x4 true)/\Vi (WH Bs) p L (m+1)/\Fr (fun k=>L<=k) w p):=fun W P=>(Vi.sw (h.fr (bd:=WH Bs) Pd P (y9 _)) q a s d f x i y z C D G (hE.fr P) hs hm).mono fun e p ⟨r1,r2,r3⟩=>⟨r1,r2,(P.mono).trans r3⟩
 obtain⟨l,F⟩:=WM w (Yl k a s d f x i y z C D);have t:=o (l.o.whole K.bx);have u:=o (l.o.get N);obtain⟨U,X⟩:=ap F.o;have Y:=Zc t.o 1;have gj:=u.o;have c0:(j:Int)<2:=az;have HK:=o G;unfold Yl at l F t u U X Y gj;unfold QY at r ⊢;clear h K h2 h3 h4 h5 h6 T M q;rcases G with rfl|rfl|rfl
 all_goals
  go_enter func26,ntmps26;go_wp2
  go_quiet ((go_at_call 44;exact Calls.quiet_of_same (O.o _)))
  have HD:=o (l.o.trans (rH (n:=nq)));have b:=(rH (S:=fun _=>False) (n:=nq)).whole F.o;generalize(w.alloc _).drewN nq=W at*;obtain⟨z0,z1,z2,z3,z4,z5,z6,z7,z8⟩:=ay b;clear b U X Y gj;go_wp2_with fail;refine(r.o W HD.o).mono ?_;rintro e w5 ⟨rfl,Q⟩;have R:=o Q;go_wp2;go_ret;exact⟨rfl,R.o⟩
def zB {Bs}(hl:Bs.length=2)(w L m a s p q K r M N O P)(h:Vi (WH Bs) w L m)(u: -9223372036854775808<=a)(x:a<=9223372036854775807)(hH:OG w)(hs:s.size<=140737488355328):
  x3 J 26 #[E (Z ⟨L,0,V⟩),QY 8 a s p q K r M N O P] w fun e l=>e=A (x4 true)/\Vi (WH Bs) l L (m+1)/\Fr (fun k=>L<=k) w l:=by
 obtain⟨c,v,bv,nv,ov,mv,kv,k0,xs,es,fs,d,Q,R,T,U,Y,h7⟩:=h;obtain⟨f,y⟩:=WM w (Yl 8 a s p q K r M N O P);have z:=o (d.keep f.o (Y7.refl _ _));have y0:=Zc y.o 0;rcases Nat.eq_zero_or_pos xs.length with h0|h0
 ·obtain⟨va,vc,e⟩:=oL d.tv;rw[h0]at e;subst e;have c0:=Zc z.o.bx 0
  have HE:y7 (∀W,F0 w W->Vi (WH Bs) W L (m+1)/\Fr (fun k=>L<=k) w W):=fun W i=>Nq.all Pd (Nq.same i (d.keep i (Y7.refl _ _))) (iA.1 d.bx).1 Q R T U Y h7
  unfold Yl at f y z c0 y0;unfold QY;clear d Q R T U Y h7;go_enter func26,ntmps26;go_wp2;go_ret;exact⟨rfl,HE.o _ f.o⟩
 obtain⟨d1,d2⟩:=tK a u x;have a0:=PZ (a.tdiv 4) 2 aB;obtain⟨j,hj⟩:=ad (Tn (a.tdiv 4) 2);rw[hj]at a0;obtain⟨B,C⟩:∃B,Bs[j]?=Z B:=⟨_,gE az⟩;obtain⟨⟨g,l0,e,D⟩,hB,hr⟩:=h7.pick C;subst e;rw[hl]at d z;obtain⟨t,ht,et⟩:∃t,11<t/\12+4*j=t:=⟨_,az,rfl⟩;rw[et]at hB hr;rw[hl]at hr
 have b0:y7 (∀W,x3 J 44 #[z9 y6 (a.tdiv 4),z9 y6 2] W fun e l=>e=A (z9 y6 (j:Nat))/\l=W):=fun W=>by
  have e:=P0 (a.tdiv 4) 2 W d1 d2 aB aB;rw[hj]at e;exact e
 obtain⟨n,hn⟩:=ad xs.length;have F:0<n:=az;have j0:n<=20:=aj d.few;have hp:=PZ a n F;have m0:(Tn a n:Int)<(n:Int):=az;have n0:((n:Int)==0)=false:=aF;have o0:(j:Int)<2:=az;obtain⟨g1,vc,X,hv,G,d0⟩:=d.pick (Tn a n) az;subst hv;rw[hn]at d z
 have e0:y7 (∀W,x3 J 44 #[z9 y6 a,z9 y6 n] W fun e l=>e=A (z9 y6 (Tn a n))/\l=W):=fun W=>P0 a n W u x F az
 have H:y7 (∀W,F0 w W->x3 J 50 #[E (Z ⟨B,0,V⟩),E (Z ⟨X,0,V⟩),QY 8 a s p q K r M N O P] W fun e l=>e=A (x4 true)/\Vi (WH Bs) l L (m+1)/\Fr (fun k=>L<=k) w l):=fun W i=>(wX c W t B m X 8 a s p q K r M N O P (hB.keep i (Y7.refl _ _) aA) ((d.tb X d0).keep i (Y7.refl _ _) aA) az hs (hH.fr i)).mono fun e l ⟨r1,r2,r3⟩=>⟨r1,d.board Q R T U Y ht hr i r2 r3⟩
 have I:=o (fun W (i:F0 w W)=>(⟨i.get G,i.get D,Zc (i.whole d.bx) 0,Zc (i.whole d.bx) 1⟩:_/\_/\_/\_));obtain⟨x1,x2,c0,c1⟩:=I.o _ f.o;have y1:=Zc y.o 1;unfold Yl at f y z y0 y1 x1 x2 c0 c1;unfold QY at H ⊢;clear d Q R T U Y h7 hB hr hj G D C et;go_enter func26,ntmps26;go_wp2
 go_quiet ((go_at_call 44;exact Calls.quiet_of_same (e0.o _)))
 have HD:=o (f.o.trans (rH (n:=nq)));have b:=(rH (S:=fun _=>False) (n:=nq)).whole y.o;generalize(w.alloc _).drewN nq=W at*;obtain⟨x1,x2,c0,c1⟩:=I.o _ HD.o;have HZ:=o b;obtain⟨z0,z1⟩:=ap b;clear b y0 y1;go_wp2
 go_quiet ((go_at_call 44;exact Calls.quiet_of_same (b0.o _)))
 have f0:=o (HD.o.trans (rH (n:=nq)));have b:=(rH (S:=fun _=>False) (n:=nq)).whole HZ.o;clear z0 z1;generalize W.drewN nq=W2 at*;obtain⟨z0,z1,z2,z3,z4,z5,z6,z7,z8⟩:=ay b;clear b;go_wp2_with fail;refine(H.o W2 f0.o).mono ?_;rintro e w5 ⟨rfl,g0⟩;have i0:=o g0;go_wp2;go_ret;exact⟨rfl,i0.o⟩
def zC {Bs}(u:Bs.length=2)(w L m k i s a b o c l j p q r)(h:Vi (WH Bs) w L m)(I:k<=10)(f: -9223372036854775808<=i)(g:i<=9223372036854775807)(v:∀d,Fr (fun k=>L<=k) w d->(QL d/\OG d)/\Jy d)(t:r.length=j)(y:ZX w l r)(z:a.size<=maxLen)(n:s.size<=140737488355328)(x:96*m+96<=140737488355328)(B:(j+6)*16<=140737488355328):
  x3 J 26 #[E (Z ⟨L,0,V⟩),QY k i s a b o c l j p q] w fun e d=>e=A (x4 true)/\Vi (WH Bs) d L (m+1)/\Fr (fun k=>L<=k) w d:=by
 obtain⟨⟨_,C⟩,D⟩:=v w Zo;by_cases F:k<=6
 ·exact J0 (bd:=WH Bs) Pd w L m k i s a b o c l j p q r h F f g (fun d G=>(v d G).1) t y z x B
 by_cases H:k=8
 ·subst H;exact zB u w L m i s a b o c l j p q h f g C n
 exact zA u w L m k i s a b o c l j p q h az f g D n x
def uM:Bc [] []:=⟨Q8,y,⟨y,by simp[YG],y,by simp[YG]⟩⟩
def I5.new {c w a d b g t X M i q B}(m)(h:OQ d X M i 0 qQ)(v:RJ w.heap.size a i (Yi [] []))(x:F0 w a)(p:F0 a d)(C:a.heap.size<=X)(D:a.heap.size<=M)(j:F0 d b)(f:b.heap[q]?=Z (x5 #[U V 0 0,U V 0 0,U V 0 0] 71))(y:d.heap.size<=q)(l:F0 b g)(z:g.heap[B]?=Z (x5 #[E (Z ⟨X,0,V⟩),E (Z ⟨q,0,V⟩),U V 0 0] 73))(F:b.heap.size<=B):∃r,Y7 w c r/\I5 r g t B m:=by
 have G:=h.lt;have H:=x.size;have I:=p.size;have J:=j.size;have n:=(iA.1 f).1;refine⟨fun k=>if k=B then t else if k=X then t+1 else if k=M then t+2 else uI w c k,fun k o=>?_,X,M,i,0,qQ,q,U V 0 0,[],[],[],⟨z,if_pos rfl,(h.fr j aA aA).fr l aA aA,?_,?_,⟨b,q,[],⟨⟨V,0,Zc f 0,fun h=>absurd h aA⟩,⟨y9 _,n⟩,⟨aA,aA⟩,rfl,q,_,_,[],y9 _,Zc f 1,Zc f 2,q7 _ _ _ _,q7 _ _ _ _,?_⟩,l.mono,fun k u A=>?_⟩,uM,⟨a,w.heap.size,_,v,JQ Q8,((p.trans j).trans l).mono,fun k u A=>?_⟩,⟨fun k o=>(by cases o),0,q7 _ _ _ _⟩,⟨[],rfl⟩,fun s _=>rfl⟩,aA,aA⟩
 ·dsimp only
  rw[if_neg az,if_neg az,if_neg az];exact To w c k o
 ·rw[if_neg az,if_pos rfl]
 ·rw[if_neg az,if_neg fun e=>h.ne e.symm,if_pos rfl]
 ·rfl
 ·dsimp only
  rw[if_neg az,if_neg az,if_neg az];exact if_pos az
 dsimp only
 rw[if_neg az,if_neg az,if_neg az];exact if_pos u
def Sn.add {Bs c w j L v s x y z A p G es H m B g cap b o}(h:Sn c w L v s x y z A p G es H)(M:WH Bs c w s m)(N:I5 c w (12+4*Bs.length) B m)(C:Bs.length<2)(O:(w.alloc o).grownBy j s.ownBlock)(P:j.ownsRow b 65 1 (U (Z ⟨g,0,V⟩) (Bs.length+1) cap) (Bs.length+1) ((Bs.map fun B=>k9 (Z ⟨B,0,V⟩))++[E (Z ⟨B,0,V⟩)]))(D:s.ownBlock=Z g\/w.heap.size<=g):
  j.heap[L]?=Z (Ha v s x y z A p)/\∃u,Y7 w c u/\Sn u (j.setCell ⟨L,1,V⟩ (U (Z ⟨g,0,V⟩) (Bs.length+1) cap)) L v (U (Z ⟨g,0,V⟩) (Bs.length+1) cap) x y z A p G es H/\WH (Bs++[B]) u (j.setCell ⟨L,1,V⟩ (U (Z ⟨g,0,V⟩) (Bs.length+1) cap)) (U (Z ⟨g,0,V⟩) (Bs.length+1) cap) m/\US [1,20] c w (j.setCell ⟨L,1,V⟩ (U (Z ⟨g,0,V⟩) (Bs.length+1) cap)):=by
 obtain⟨Q,R⟩:=M;obtain⟨u,f,I,J⟩:=RL Q.1 O D;have K:=J.whole h.bx (fun e=>by rw[h.bc]at e;cases e);have r:US [1,20] c w (j.setCell ⟨L,1,V⟩ (U (Z ⟨g,0,V⟩) (Bs.length+1) cap)):=(J.mono fun k d=>by simp[d]).trans ((Vh _ 1).mono fun k d=>by subst d;simp[h.bc])
 have q:∀{k t:Nat},c k∈[1,20]->t∉[1,20]->c k≠t:=fun S C e=>C (e▸S)
 obtain⟨t1,T⟩:=Xn h.tv h.tc r f fun k d=>q d aB
 have d:∀{t k},12<=t/\t<=16->c k∈[1,20]->c k≠0/\c k≠t/\c k≠t+1/\c k≠t+2/\c k≠t+3:=fun{t k} ht d=>by simp at d;omega
 have F:g≠L:=fun e=>by have:=(f L (iA.1 h.bx).1).trans h.bc;rw[<-e,I]at this;cases this
 refine⟨K,u,f,⟨?_,(f L (iA.1 h.bx).1).trans h.bc,t1,T,h.few,fun X W=>(h.tb X W).kq r f aB,h.n.keep r f fun k d=>⟨q d aB,q d aB,q d aB⟩,h.o.keep r f fun k d=>⟨q d aB,q d aB,q d aB⟩⟩,⟨⟨Pb I,b,?_⟩,fun i Y l=>?_⟩,r⟩
 ·have e:=heap_setCell_same j L 1 _ _ (U (Z ⟨g,0,V⟩) (Bs.length+1) cap) K
  simpa[Ha]using e
 ·rw[lA,p6];exact ownsRow_setCell_other P (a:=⟨L,1,V⟩) (by simp[Value.ownBlock];exact F) _
 by_cases e:i<Bs.length
 ·rw[j0 e]at l;obtain⟨k1,k2⟩:=R i Y l;exact⟨k1,k2.keep r f fun k=>d az⟩
 rw[aR az]at l
 have e2:i-Bs.length=0:=by have:=(iG.1 l).1;simp at this;omega
 rw[e2]at l;injection l with l;obtain rfl:i=Bs.length:=az;subst l;exact⟨C,N.keep r f fun k=>d az⟩
def Vi.still {bd w L m}(h:Vi bd w L m)(r:4*m<=8796093022208):x3 J 29 #[E (Z ⟨L,0,V⟩)] w fun e b=>e=A (x4 true)/\F0 w b:=by
 obtain⟨c,v,d,f,g,i,j,a,k,l,n,o,s,t,u,x,p,_⟩:=h;exact D5 c w L v d f g i j a k l n o z z (fun e q=>Nat.le_trans (p e q) aM)
def Sn.zero {w L}(h:w.heap[L]?=Z (Ha (U V 0 0) (U V 0 0) (U V 0 0) (U V 0 0) (U V 0 0) (U V 0 0) 0)):Sn (fun k=>if k=L then 1 else 0) w L (U V 0 0) (U V 0 0) (U V 0 0) (U V 0 0) (U V 0 0) (U V 0 0) 0 [] [] []:=by
 have a:∀t,Cl (fun k=>if k=L then 1 else 0) (U V 0 0) t:=fun t k c=>by cases c
 exact⟨h,if_pos rfl,oZ _ _ _ _,a _,y,(fun X d=>by cases d),⟨oZ _ _ _ _,a _,oZ _ _ _ _,a _,(fun e b=>by cases b)⟩,⟨oZ _ _ _ _,a _,oZ _ _ _ _,a _,(fun e b=>by cases b)⟩⟩
def OR:(J.info? 65).map (fun i=>(i.zero,i.size,i.bytes))=Z (Z (E V),1,8):=n
def pO (w:b6)(a:Option Addr)(n:Nat):Prop:=∀i,i<n->∃b o,a=Z ⟨b,o,V⟩/\b<w.heap.size/\Bi w b (o+i*9)/\∀s,w.cell? ⟨b,o+i*9+2,V⟩=Z (G s)->s.size<=140737488355328
def FZ (w sa n c)(hn:96*n+2000<=140737488355328)(hs:pO w sa n)(ht:∀a,Below w.heap.size w a->(QL a/\OG a)/\Jy a):
  x3 J 11 #[U sa n c,z9 y6 10] w fun e a=>e=A (x4 true)/\Below w.heap.size w a:=by
 obtain⟨ii,P0,Q0,R0,S0⟩:=info_parts OR;have HS:=Za hs;have HT:=Za ht;have x1:(n:Int)<=9223372036854775807:=az
 clear hs ht;go_enter func11,ntmps11;go_wp2_with fail;have h0:=aN w (x5 #[U V 0 0,U V 0 0,U V 0 0,U V 0 0,U V 0 0,U V 0 0,z9 y6 0] 58);have i0:=(WM w (x5 #[U V 0 0,U V 0 0,U V 0 0,U V 0 0,U V 0 0,U V 0 0,z9 y6 0] 58)).1;have HL:=Za (Sn.zero h0);clear h0;refine(QC _ _ w.heap.size _ _ _ _ _ _ _ [] [] [] _ HL.o).mono ?_;rintro e w1 ⟨rfl,⟨v1,T0,⟨c1,j0,k0⟩⟩,l0⟩;have O:y7 (Vi (WH []) w1 w.heap.size 0):=⟨c1,v1,_,_,_,_,_,0,T0,[],[],k0,fun k j=>(j0 k aF).trans (if_neg az),az,aA,aA,(fun x hx=>by rcases hx with h|h<;>cases h),⟨fun k j=>(by cases j),0,oZ _ _ _ _⟩,fun i B hi=>by simp at hi⟩
 have F:y7 (Fr (fun k=>w.heap.size<=k) w w1):=(i0.o.mono).trans (l0.mono fun k j=>by
  by_cases e:k=w.heap.size
  ·omega
  dsimp only at j
  rw[if_neg e]at j
  simp at j)
 clear k0 l0 j0 HL i0;obtain⟨L,hL⟩:=ad w.heap.size;rw[hL]at O F;have H:=Za hL;rw[hL];clear hL
 have P:y7 (∀W,Fr (fun k=>L<=k) w W->∀a,Fr (fun k=>L<=k) W a->(QL a/\OG a)/\Jy a):=fun W hW a hw=>HT.o a ((hW.trans hw).below (y9 _) (fun k j=>aj H.o))
 have l:y7 (x3 J 26 #[E (Z ⟨L,0,V⟩),QY 3 0 ⟨#[]⟩ ⟨#[52,49,50,51,52,53]⟩ 0 0 0 V 0 0 false] w1 fun e a=>e=A (x4 true)/\Vi (WH []) a L (0+1)/\Fr (fun k=>L<=k) w1 a):=
  J0 (bd:=WH []) Pd w1 L 0 3 0 ⟨#[]⟩ ⟨#[52,49,50,51,52,53]⟩ 0 0 0 V 0 0 false [] O.o az az az (fun a hw=>(P.o w1 F.o a hw).1) rfl (fun k s hs=>by simp at hs) aB az az
 unfold QY at l;go_wp2_with fail;refine l.o.mono ?_;rintro e w2 ⟨rfl,m0,n0⟩;have o0:y7 (∃Bs,Bs.length=0/\Vi (WH Bs) w2 L (1+3*0)):=⟨[],rfl,m0⟩;have p0:=Za (F.o.trans n0);clear m0 n0 l O F;go_wp2
 go_loopg [6,8] 2 (fun mm ok kk wr=>∃k,k<=2/\mm=2-k/\ok=x4 true/\kk=z9 y6 (k:Nat)/\y7 (∃Bs,Bs.length=k/\Vi (WH Bs) wr L (1+3*k))/\y7 (Fr (fun k=>L<=k) w wr))
 case atStart=>exact⟨0,az,rfl,rfl,rfl,o0,p0⟩
 obtain⟨k,j,rfl,rfl,rfl,I,q0⟩:=hrel;clear o0 p0;by_cases r0:k<2
 ·have Q:(k:Int)<2:=az;obtain⟨Bs,z,cc,v,bv,nv,ov,mv,kv,s0,xs,es,fs,h1,h2,h3,h4,h5,h6,h7⟩:=I.o;obtain⟨_,b0,C⟩:=h7.1;obtain⟨va,vc,e⟩:=oL C;subst e;have d:=Za z;have K:=Za h1;have t0:=Za h7;have r:=Za (⟨h2,h3,h4,h5,h6⟩:(∀k,k<L->cc k=0)/\s0<=1+3*k/\es.length<=4*(1+3*k)/\fs.length<=4*(1+3*k)/\∀e,e∈es\/e∈fs->e.n<=8796093022208);have f:=oS C (p3 b0);rw[z]at f K t0;have V0:=Za f;clear h1 h2 h3 h4 h5 h6 h7 C f I;go_wp2_with fail;refine(FG wr).mono ?_;rintro e w3 ⟨⟨X,M,TT,wt,rfl,hX,hM,hS,hT,f1,f2⟩,v0⟩;obtain⟨W0,X0,Y0⟩:=TL w3 (x5 #[U V 0 0,U V 0 0,U V 0 0] 71) (x5 #[E (Z ⟨X,0,V⟩),E (Z ⟨w3.heap.size,0,V⟩),U V 0 0] 73);have Z0:=Za (I5.new (c:=cc) (t:=12+4*k) (1+3*k) hS hT f1 f2 hX hM (Zo.alloc _) (aN w3 (x5 #[U V 0 0,U V 0 0,U V 0 0] 71)) (y9 _) (Zo.alloc _) Y0.o aA);have u:=Za (v0.trans W0.o);have w0:=Za (u.o.whole K.o.bx);have l1:=Zc w0.o 1;have lf:=bF w0.o 1;clear hX hM hS hT f1 f2 v0 X0;go_upto_region 13 with fail;generalize(w3.alloc _).alloc _=W5 at*;generalize w3.heap.size+1=B at*
  go_wp2_with (at_builtin;refine ao 0 OR underlying54 (U va k vc) k (Bs.map fun B=>k9 (Z ⟨B,0,V⟩)) ?h1 ⟨W5.heap.size,0,V⟩ [E (Z ⟨B,0,V⟩)] ?h2 ?_)
  case h1=>exact(oF V0.o u.o).alloc _
  case h2=>exact g8 (aN W5 _)
  intro g5 N w6 D g R _;obtain⟨c',ha,hB⟩:=Z0.o;have S:=K.o.keep u.o ha;have T:WH Bs c' W5 (U va k vc) (1+3*k):=Pd t0.o u.o.mono ha (y9 _);rw[<-d.o]at D g R S T hB;obtain⟨Y,c6,x0,a0,d0,e0⟩:=S.add T hB (aj d.o) g D (R.imp id az);have l6:=Zc Y 1;have f6:=bF Y 1;rw[d.o]at a0 d0 e0 l6;have y1:=(iA.1 K.o.bx).1;have hz:=u.o.size;have a1:y7 (Vi (WH (Bs++[B])) (w6.setCell ⟨L,1,V⟩ (U (Z ⟨g5,0,V⟩) (k+1) N)) L (1+3*k)):=⟨c6,v,_,nv,ov,mv,kv,s0,xs,es,fs,a0,fun k j=>(x0 k az).trans ((ha k az).trans (r.o.1 k j)),r.o.2.1,r.o.2.2.1,r.o.2.2.2.1,r.o.2.2.2.2,d0⟩
  have b1:y7 (Fr (fun k=>L<=k) w (w6.setCell ⟨L,1,V⟩ (U (Z ⟨g5,0,V⟩) (k+1) N))):=(q0.o.trans (u.o.mono)).trans (e0.mono fun k j=>p4 fun e=>by
   have:=(ha k az).trans (r.o.1 k e)
   simp[this]at j)
  have HJ:y7 ((Bs++[B])[k]?=Z B):=by show _=_;rw[<-d.o,aR (y9 _),Nat.sub_self];rfl
  clear D g R a0 d0 e0 Y ha x0 hB S T l1 lf;go_upto_region 14 with fail;generalize w6.setCell _ _=W6 at*
  have f0:y7 (∀W m q s,Vi (WH (Bs++[B])) W L m->Fr (fun k=>L<=k) w W->q=7\/q=9\/q=10->s.size<=100->m<=7->x3 J 28 #[E (Z ⟨B,0,V⟩),.agg #[z9 y6 q,z9 y6 0,G s,G ⟨#[]⟩,z9 y6 0,z9 y6 0,z9 y6 0,U V 0 0,x4 false]] W fun e a=>e=A (x4 true)/\Vi (WH (Bs++[B])) a L (m+1)/\Fr (fun k=>L<=k) w a):=fun W m q s hd hf hq hs hm=>(Vi.sw hd HJ.o 0 s ⟨#[]⟩ 0 0 0 V 0 0 false hq (P.o W hf W Zo).2 az az).mono fun e a ⟨r1,r2,r3⟩=>⟨r1,r2,hf.trans r3⟩
  clear l6 f6;go_wp2_with fail;refine(f0.o W6 _ _ _ a1.o b1.o aA aB az).mono ?_;rintro e w7 ⟨rfl,y0,z0⟩;have e1:=Za y0;have g1:=Za z0;clear y0 z0;go_wp2_with fail;refine(f0.o w7 _ _ _ e1.o g1.o aA aB az).mono ?_;rintro e w8 ⟨rfl,A0,B0⟩;have i1:=Za A0;have j1:=Za B0;clear A0 B0;go_wp2_with fail;refine(f0.o w8 _ _ _ i1.o j1.o aA aB az).mono ?_;rintro e w9 ⟨rfl,C0,D0⟩;have k1:y7 (∃Bs,Bs.length=k+1/\Vi (WH Bs) w9 L (1+3*(k+1))):=⟨Bs++[B],by rw[lA,d.o];rfl,C0⟩;have m1:=Za D0;clear C0 D0;go_wp2;go_roundg (2-(k+1))
  case measure=>omega
  exact⟨k+1,az,rfl,rfl,aE,k1,m1⟩
 have Q:¬(k:Int)<2:=az;obtain rfl:k=2:=az;obtain⟨Bs,z,hA⟩:=I.o;have d:=Za z;have HA:=Za hA;clear z hA I;go_wp2
 go_loopg [6,14] n (fun m ok ii wr=>∃i,i<=n/\m=n-i/\ok=x4 true/\ii=z9 y6 (i:Nat)/\y7 (Vi (WH Bs) wr L (i+7))/\y7 (Fr (fun k=>L<=k) w wr))
 case atStart=>exact⟨0,p3 _,rfl,rfl,rfl,HA,q0⟩
 obtain⟨i,hi,rfl,rfl,rfl,E0,y⟩:=hrel;by_cases r0:i<n
 ·have Q:=af i n;obtain⟨b,o,rfl,hb,F0,G0⟩:=HS.o i r0;obtain⟨k,on,s,H0,I0,am,K0,da,dn,dc,up,dl,hD,c0,c1,c2,c3,c4,c5,c6,c7,c8⟩:=F0.fr y.o hb (Nat.le_of_eq H.o);have n1:=Za hD;have o1:=Za (G0 s ((y.o.cell (p:=⟨b,o+i*9+2,V⟩) hb (by have:=H.o;dsimp only;omega)).symm.trans c2));clear F0 hD G0;by_cases j:10<k
  ·go_wp2;go_roundg (n-(i+1))
   case measure=>omega
   exact⟨i+1,az,rfl,rfl,aE,E0.o.fr (bd:=WH Bs) Pd Zo az,y⟩
  have L0:k<=10:=az
  have l:y7 (x3 J 26 #[E (Z ⟨L,0,V⟩),QY k on s H0 I0 am K0 da dn dc up] wr fun e a=>e=A (x4 true)/\Vi (WH Bs) a L (i+7+1)/\Fr (fun k=>L<=k) wr a):=by
   obtain⟨d1,d2,d3,d4,d5,d6⟩:=n1.o;exact zC d.o wr L (i+7) k on s H0 I0 am K0 da dn dc up dl E0.o L0 d1 d2 (P.o wr y.o) d3 d4 d5 o1.o az d6
  unfold QY at l;clear L0;go_wp2_with fail;refine l.o.mono ?_;rintro e w4 ⟨rfl,M0,N0⟩;have O0:=Za M0;have p1:=Za (y.o.trans N0);clear M0 N0 c0 c1 c2 c3 c4 c5 c6 c7 c8;have q1:=Za (O0.o.still az);go_wp2_with fail;refine q1.o.mono ?_;rintro e w5 ⟨rfl,g0⟩;have s1:y7 (Vi (WH Bs) w5 L (i+1+7)):=O0.o.fr (bd:=WH Bs) Pd g0 az;have t1:=Za (p1.o.trans (g0.mono));clear g0;go_wp2;go_roundg (n-(i+1))
  case measure=>omega
  exact⟨i+1,az,rfl,rfl,aE,s1,t1⟩
 have Q:=ai i n;go_wp2;go_ret;exact⟨rfl,y.o.below (y9 _) (fun k j=>aj H.o)⟩
def Bj (w b n c)(d:96*n+2000<=140737488355328)(f:pO w b n)(g:∀a,Below w.heap.size w a->(QL a/\OG a)/\Jy a):
  x3 J 7 #[U b n c] w fun e a=>e=A (x4 true)/\Below w.heap.size w a:=by
 have i:=o (FZ w b n c d f g);clear d f g;go_enter func7,ntmps7;go_wp2_with fail;refine i.o.mono ?_;rintro e k ⟨rfl,h⟩;have j:=o h;clear h;go_wp2;go_ret;exact⟨rfl,j.o⟩
open Go.ChangeShapes Go.WideShapes Go.ChangeAt Go.Deep
def qS:J.globalNamed "internal/strconv.uint64pow10" =Z 1:=n
def wY:(J.globals[1]?).map (·.type)=Z 351:=n
def wZ:J.cellsOf 351=20:=n
def uN:J.cellsOf 328=1:=n
def vd:(J.globals[0]?).map (·.type)=Z 275:=n
def vf:J.cellsOf 275=16:=n
def uO:J.cellsOf 221=1:=n
def qT:J.globalNamed "strconv.ErrSyntax" =Z 3:=n
def vg:(J.globals[3]?).map (·.type)=Z 196:=n
def rB {n r W}{d:DataW Unit}(h:laidMet J (("strconv.ErrSyntax",.iface n d)::r) W):Jy W:=by
 obtain⟨f,⟨g0,g,AI,i,j,k,a,b,c,e,_,_⟩,_,_⟩:=h;obtain rfl:=Option.some.inj (qT.symm.trans a);obtain rfl:=Option.some.inj (vg.symm.trans b);obtain⟨l⟩:=AI;obtain⟨_,u,v,rfl,_⟩:=iface_of_trod underlying196 e;exact⟨u,v,by simpa using World.var?_cell a c 0⟩
def vh {W}(h:laidMetH J Rows.allRow.laid W):(QL W/\OG W)/\Jy W:=by
 have a:laidMet J Rows.allRow.laid W:=h;refine⟨⟨Lib.tabIs_of_head qS wY underlying351 underlying328 uN wZ a.tail.tail.tail,Lib.tabIs_of_head rX vd underlying275 underlying221 uO vf a⟩,rB a.tail.tail.tail.tail.tail.tail⟩
def vi (a):laidMet J Rows.allRow.laid ((q6 J a Rows.allRow.laid).forCall (fun _ _=>0) ⟨#[],#[U V 0 0],[]⟩).memory:=
 laidMet_laidAll _ n n
def zD (a):((q6 J a Rows.allRow.laid).forCall (fun _ _=>0) ⟨#[],#[U V 0 0],[]⟩).variablesRefB Tryz.checked.prog=true:=n
def oj:(Rows.allRow.wf (OpenSpec.ofChange Rows.allSpec))=true:=n
def ol:(laidOutB J)=true:=n
def om:(mapsRowed J)=true:=n
def oo:(f7.params.all (J.readableRec ·))=true:=n
def oq:(namedTie J Rows.allRow.named Rows.allSpec.vars)=true:=n
def ot:((Rows.allRow.stops==[]))=true:=n
def ow:((J.stops==[]))=true:=n
def ox:((Rows.allRow.knobs==[]))=true:=n
def oy:((J.stopKnobs==[]))=true:=n
def oz:((Rows.allRow.inPlace==J.inPlace 7))=true:=n
def qU:((Rows.allRow.unfollowed==J.unfollowed 7))=true:=n
def qV:((Rows.allRow.recurses==J.recurses 7))=true:=n
def qW:((Rows.allRow.named==J.varsNamed 7))=true:=n
def qX:((Rows.allRow.maps==(f7.params.toList++Rows.allSpec.plain.varTypes J).any (J.mapsRec ·)))=true:=n
def qY:((Rows.allRow.ifaces==(f7.params.toList++Rows.allSpec.plain.varTypes J).any (J.ifacesRec ·)))=true:=n
def qZ:((Rows.allRow.mapsOut==J.mapsAmong f7.resultTypes.toList))=true:=n
def q9:((Rows.allRow.loops==(f7.params.toList++Rows.allSpec.plain.varTypes J).any (J.loopsFrom ·)))=true:=n
def pb:((Rows.allRow.wideKeys==(f7.params.toList++Rows.allSpec.plain.varTypes J++f7.resultTypes.toList).any (J.wideKeysFrom ·)))=true:=n
def pe:(Rows.allSpec.vars.all (J.varReadable ·))=true:=n
def pf:(f7.resultTypes.all (fun t=>J.readableRec t&&decide (t<J.types.size)))=true:=n
def ph:((Rows.allRow.ifacesOut==f7.resultTypes.toList.any (J.ifacesRec ·)))=true:=n
def pi:((Rows.allRow.loopsOut==f7.resultTypes.toList.any (J.loopsFrom ·)))=true:=n
def pj:((Rows.allRow.plainKeys==J.plainKeys))=true:=n
def pk:(Rows.allRow.shortTexts.isNone)=true:=n
def pm:(J.stopsHeard)=true:=n
def po:(J.mayEnter)=true:=n
def pq:((Rows.allRow.lifted==J.liftsFinal))=true:=n
def pt:((J.make==Z Rows.allRow.make))=true:=n
def pu:((Rows.allRow.kinds==(if Rows.allRow.domain.isEmpty then[]else f7.params.toList.map fun t=>match J.underlying t with|some (.int k)=>Z k|_=>V)))=true:=n
def pw:((Rows.allRow.pinned==Rows.allRow.pinnedBy))=true:=n
def py:((Rows.allRow.veiled==(f7.params.toList++Rows.allSpec.plain.varTypes J++f7.resultTypes.toList).any (J.veiledRec ·)))=true:=n
def pA:(Rows.allRow.veiledFits J f7.params.toList (f7.params.toList++Rows.allSpec.plain.varTypes J++f7.resultTypes.toList))=true:=n
def Xp {a b}(c:a=true)(d:b=true):(a&&b)=true:=by rw[c,d];rfl
def Cb:joinedFacts J 7 f7 Rows.allSpec Rows.allRow=true:=by
 unfold joinedFacts;exact(Xp (Xp (Xp (Xp (Xp (Xp (Xp (Xp (Xp (Xp (Xp (Xp (Xp (Xp (Xp (Xp (Xp (Xp (Xp (Xp (Xp (Xp (Xp (Xp (Xp (Xp (Xp (Xp (Xp (Xp (Xp oj ol) om) oo) oq) ot) ow) ox) oy) oz) qU) qV) qW) qX) qY) qZ) q9) pb) pe) pf) ph) pi) pj) pk) pm) po) pq) pt) pu) pw) py) pA)
def Yv:ownKnob J.godebug=V:=n
def uP:laidOutB J=true:=n
def Bl:J.cellsOf 62=9:=n
def F1:J.cellsOf 3=1:=n
def Kf:J.cellsOf 9=1:=n
def vo:J.cellsOf 35=4:=n
def zE:J.cellsOf 28=1:=n
def zF:J.cellsOf 4=1:=n
def uQ:J.bytesOf 62=104:=n
def vt:J.bytesOf 9=16:=n
def RM {H:Type}{P:Program}{e:TypeId}:∀{l:List (DataW H)}{d:DataW H},d∈l->∀n∈d.weights P e,n∈DataW.weightsAll P e l
 |x::r,d,hd,n,hn=>by
  unfold DataW.weightsAll;rcases List.mem_cons.1 hd with e|e
  ·subst e;exact k8 _ hn
  exact List.mem_append_right _ (RM e n hn)
def Bm {Q:Nat->ByteArray->Prop}:∀n,(∀i,i<n->∃s,Q i s)->∃l:List ByteArray,l.length=n/\∀k s,l[k]?=Z s->Q k s
 |0,_=>⟨[],rfl,fun k s h=>by simp at h⟩
 |n+1,h=>by
  obtain⟨l,c,d⟩:=Bm n (fun i g=>h i z);obtain⟨s,e⟩:=h n z;refine⟨l++[s],by simp[c],fun k f a=>?_⟩;by_cases b:k<l.length
  ·rw[j0 b]at a;exact d k f a
  rw[aR z]at a
  have:k-l.length=0:=by have:=(iG.1 a).1;simp at this;omega
  rw[this]at a;injection a with a;subst a;have:k=n:=z;subst this;exact e
def zG {H}{t:TypeId×p2->H}{w f d j n v x}(h:DataW.trod t J w f d j n 28 [v]=Z x)(I:∀n∈x.1.weights J 28,n<=reachBytes):
  ∃(E:Option Addr)(u K:Nat)(l:List ByteArray),v=.slice E u K/\l.length=u/\ZX w E l/\(u+6)*16<=140737488355328:=by
 rcases open_slice underlying28 h with⟨c,_⟩|⟨a,b,y,m,n,D,T,c,U,W,X,z,L,A⟩
 ·simp only[p9.injEq,and_true]at c;exact⟨V,0,0,[],c,rfl,fun k s q=>by simp at q,az⟩
 simp only[p9.injEq,and_true]at c
 have M:b<=m:=by rw[z];split<;>omega
 have N:b*16<=reachBytes:=by
  have:=I ((b+(m-b))*16) (by rw[L];simp[DataW.weights,underlying28,vt]);omega
 obtain⟨l,O,F⟩:=Bm (Q:=fun k s=>w.cell? (a.add k)=Z (.string s)) b (fun i Y=>by
  obtain⟨P,G,R⟩:=A i az;rw[Kf,Nat.mul_one]at G;obtain⟨s,S,_,_⟩:=DataW.trod_string underlying9 R;subst S;obtain⟨_,_,r⟩:=q8 G;have:=r 0 aA;refine⟨s,?_⟩
  simpa[Addr.add]using this)
 refine⟨Z a,b,y,l,c,O,fun k s q=>?_,by unfold reachBytes at N;omega⟩;have r:=F k s q;have B:0<l.length:=aj (iG.1 q).1;have C:=F 0 _ (gE B);obtain⟨g,o,p⟩:=a
 have e:p=V:=by simpa[Addr.add]using p5 C
 subst e;exact⟨g,o,rfl,by rw[add_plain]at r;exact r⟩
def uR {H}{v:TypeId×p2->H}{w o f p n y x}(h:DataW.trod v J w o f p n 62 y=Z x)(q:∀n∈x.1.weights J 62,n<=reachBytes):
  ∃(k a:Int)(s b:ByteArray)(g z i:Int)(t:Option Addr)(r A:Nat)(B:Bool)(u:List ByteArray),(-9223372036854775808<=a/\a<=9223372036854775807/\u.length=r/\ZX w t u/\b.size<=maxLen/\(r+6)*16<=140737488355328/\s.size<=140737488355328)/\
   y=[.int .i64 k,.int .i64 a,.string s,.string b,.int .i64 g,.int .i64 z,.int .i64 i,.slice t r A,.bool B]:=by
 obtain⟨Y,m,_,c,F,C,d⟩:=DataW.trod_struct underlying62 h;rw[Bl]at F
 match y,F,Y,C,d,c with
 |[v0,v1,v2,v3,v4,v5,v6,v7,v8],_,[y0,y1,y2,y3,y4,y5],_,d,c=>
  have g0:=d 0 (Field.mk "Kind" 3 0 false "" "" 0) rfl;have g1:=d 1 (Field.mk "On" 3 1 false "" "" 8) rfl;have g2:=d 2 (Field.mk "Text" 9 2 false "" "" 16) rfl;have g3:=d 3 (Field.mk "P" 35 3 false "" "" 32) rfl;have G:=d 4 (Field.mk "Down" 28 7 false "" "" 72) rfl;have I:=d 5 (Field.mk "Up" 4 8 false "" "" 96) rfl;simp only[F1,Kf,vo,zE,zF,g9,k0,p1,p7,j8,j9]at g0 g1 g2 g3 G I;obtain⟨k,K,_,_⟩:=DataW.trod_int underlying3 g0;obtain⟨a,L,_,w1⟩:=DataW.trod_int underlying3 g1;obtain⟨s,M,D,_⟩:=DataW.trod_string underlying9 g2
  have ls:s.size<=140737488355328:=by
   have e:=q s.data.toList.length (by
    rw[c];simp only[DataW.weights,underlying62]
    exact DataW.weights_mem_each (j:=2) rfl rfl _ (by rw[D];simp[DataW.weights]))
   unfold reachBytes at e;simp at e;omega
  obtain⟨zs,m',_,_,_,E,l⟩:=DataW.trod_struct underlying35 g3;obtain⟨B,N,_⟩:=DataW.trod_bool underlying4 I
  obtain⟨t,r,A,u,O,l1,l2,l3⟩:=zG G (fun k hk=>q k (by
   rw[c];simp only[DataW.weights,underlying62]
   exact DataW.weights_mem_each (j:=4) rfl rfl k hk))
  match zs,E,l with
  |[z0,z1,z2,z3],_,l=>
   have P:=l 0 (Field.mk "Pan" 9 0 false "" "" 0) rfl;have Q:=l 1 (Field.mk "Mcc" 3 1 false "" "" 16) rfl;have R:=l 2 (Field.mk "Amount" 3 2 false "" "" 24) rfl;have S:=l 3 (Field.mk "Cur" 3 3 false "" "" 32) rfl;simp only[F1,Kf,g9,k0,p1,p7,j8,j9]at P Q R S;obtain⟨b,T,_,lp⟩:=DataW.trod_string underlying9 P;obtain⟨g,U,_,_⟩:=DataW.trod_int underlying3 Q;obtain⟨z,V,_,_⟩:=DataW.trod_int underlying3 R;obtain⟨i,W,_,_⟩:=DataW.trod_int underlying3 S;simp only[p9.injEq,and_true]at K L M T U V W O N;subst K L M T U V W O N;have X: -9223372036854775808<=a/\a<=9223372036854775807:=(by simpa[Lit.wf]using w1:b8.min<=a/\a<=9223372036854775807);exact⟨k,a,s,b,g,z,i,t,r,A,B,u,⟨X.1,X.2,l1,l2,lp,l3,ls⟩,rfl⟩
def vv (H)(enc:TypeId×p2->H)(W K l T gs w)(y:∀(j:Nat) t v,f7.params[j]?=Z t->l[j]?=Z v->Value.okWide J W .any K t v)(hW:DataW.Whole enc J f7.params.toList Rows.allSpec.vars false W l.toList T gs w)(L:(DataW.weightsEach J (f7.params.toList++Rows.allSpec.plain.varTypes J) (T++gs)).all (· <=reachBytes)=true)(hL:laidMetH J Rows.allRow.laid W):
  x3 J 7 l W fun e W'=>∃v,e=.returned v/\Rows.allSpec.post enc J f7 false true false false W l v W':=by
 have A:(DataW.weightsEach J (f7.params.toList++[]) (T++gs)).all (· <=reachBytes)=true:=L;have B:=hW;obtain⟨p,q,b0,hV,rfl,_,_⟩:=hW;have hA:DataW.TrodAll enc J W 0 (fun _=>true) true f7.params.toList l.toList T p:=b0;rw[params7]at hA y A;obtain⟨v0,d0,rfl,rfl,h0⟩:=trodAll_one hA;obtain⟨rfl,rfl⟩:=trodVars_none hV;have c0:=h0;obtain⟨i0,hf⟩:=h0;simp only[List.append_nil]at B
 have C:∀x∈p,x.block<W.heap.size:=fun x U=>by simpa using B.lt x U
 obtain⟨a0,o,M,rfl⟩:=okWide_slice underlying22 (y 0 22 v0 rfl rfl)
 have hT:∀z,Below W.heap.size W z->(QL z/\OG z)/\Jy z:=fun z X=>⟨⟨(vh hL).1.1.below (y9 _) X,Lib.tabBelow_of_tabIs (vh hL).1.2 z X⟩,by
  obtain⟨t,v,h⟩:=(vh hL).2;have C:=bL W _ h
  exact⟨t,v,(X.cell C).trans h⟩⟩
 have N:x3 J 7 #[.slice a0 o M] W fun e z=>e=.returned (.bool true)/\Below W.heap.size W z:=by
  rcases open_slice underlying22 hf with⟨u,_⟩|⟨a,j0,k0,m,n,D,Pl,u,X,hl,hm,e0,f0,U⟩
  ·simp[b4]at u;obtain⟨rfl,rfl,rfl⟩:=u;exact Bj W V 0 0 az (fun i Y=>az) hT
  simp[b4]at u;obtain⟨rfl,rfl,rfl⟩:=u;simp only[if_true]at e0;have hd:d0=.slice ((b7 o).map D) ((b7 (m-o)).map fun j=>D (o+j)):=congrArg Prod.fst f0
  have hB:o*104<=reachBytes:=by
   have e:=sized_slice A (j:=0) (t:=22) (e:=62) rfl (by rw[hd];rfl) underlying22;rw[uQ]at e;simp at e;omega
  have g0:∀i,i<o->∀n∈(D i).weights J 62,n<=reachBytes:=fun i Y n hn=>by
   have e:=List.all_eq_true.1 A n (DataW.weights_mem_each (j:=0) (t:=22) (d:=d0) rfl rfl n (by
    rw[hd];simp only[DataW.weights,underlying22]
    exact List.mem_cons_of_mem _ (k8 _ (RM (List.mem_map.2 ⟨i,List.mem_range.2 Y,rfl⟩) n hn))))
   simpa using e
  refine Bj W (Z a) o M (by unfold reachBytes at hB;omega) (fun i Y=>?_) hT;obtain⟨m0,h1,h2⟩:=U i az;obtain⟨AI,h3,_⟩:=U 0 az;rw[Bl]at h1 h3;obtain⟨_,l0,E⟩:=q8 h1;obtain⟨_,F,f⟩:=q8 h3;obtain⟨k,on,s,O,P,am,Q,da,dn,dc,up,dl,G,rfl⟩:=uR h2 (g0 i Y);obtain⟨b,R,S⟩:=a
  have I:S=V:=by
   match AI,F,f with
   |c::_,_,f=>simpa[Addr.add]using p5 (f 0 az)
  subst I
  have g:∀j v,[Value.int .i64 k,.int .i64 on,.string s,.string O,.int .i64 P,.int .i64 am,.int .i64 Q,.slice da dn dc,.bool up][j]?=Z v->W.cell? ⟨b,R+i*9+j,V⟩=Z v:=fun j v hj=>by
   have:=E j (iG.1 hj).1;rw[add_plain,add_plain]at this;rw[this];exact hj
  exact⟨b,R,rfl,bL W _ (g 0 _ rfl),⟨k,on,s,O,P,am,Q,da,dn,dc,up,dl,⟨G.1,G.2.1,G.2.2.1,G.2.2.2.1,G.2.2.2.2.1,G.2.2.2.2.2.1⟩,g 0 _ rfl,g 1 _ rfl,g 2 _ rfl,g 3 _ rfl,g 4 _ rfl,g 5 _ rfl,g 6 _ rfl,g 7 _ rfl,g 8 _ rfl⟩,fun s' r=>by
   rw[g 2 _ rfl]at r;injection r with r;injection r with r
   exact r▸G.2.2.2.2.2.2⟩
 refine N.mono fun e W' ⟨he,hB⟩=>?_
 subst he;exact⟨_,rfl,⟨_,_,_,[],_,[],B,trodAll_mk1 (shut_bool underlying4 true),trodAll_mk1 (Below.trod uP aC (of_decide_eq_true aC) c0 hB C),rfl,hB.frame _,fun h=>by cases h⟩⟩
def qq (b){H}(enc:TypeId×p2->H):∃a,DataW.whole enc J ((q6 J b Rows.allRow.laid).forCall (fun _ _=>0) ⟨#[],#[.slice V 0 0],[]⟩).memory f7.params.toList Rows.allSpec.vars false #[Value.slice V 0 0].toList 8=Z ([.nil],[],a):=
 ⟨[],n⟩
def lifted (c)(a:c.Started)(H)(enc:TypeId×p2->H)(F):
    ReturnsInHanded {} Tryz.checked c 7 .any ((OpenSpec.ofChange Rows.allSpec).preRow enc J f7 Rows.allRow.domain false Rows.allRow.laid) (((OpenSpec.ofChange Rows.allSpec).at F).post enc J f7 false true false false):=by
  obtain⟨g,i⟩:=qq c enc;refine returnsInHanded_of_row (C:=Tryz.checked) (s:=OpenSpec.ofChange Rows.allSpec) Yv a aC func7
    (witness_row_atRef (enc:=enc) (C:=Tryz.checked) false (q6 J c Rows.allRow.laid) #[U V 0 0] (World.laidAll_os _ _ _) (zD c) aC aC
      (OpenSpec.preRow_of_cond 8 i aC (fun k j=>by cases j) aC (vi c))) ?_
  intro W d e l m b f n _ _ h o _ _;exact vv H enc W d e l m b f n h o
def pC:Rows.AllSaid:=
 OpenClaim.holds_of_cond 7 f7 rfl rfl rfl rfl rfl rfl rfl ⟨rfl,rfl,rfl,rfl,rfl⟩ rfl rfl rfl rfl rfl n func7 Cb
  (of_decide_eq_true n) (by unfold Func.isWrapper;first|(rw[if_pos (by decide+kernel)];kernel_rfl)|(rw[if_neg (by decide+kernel)];exact⟨rfl,rfl⟩))
  (fun c a H b _ F=>by rw[OpenClaim.pre_eq_preRow];exact lifted c a H b F)
def plain (f a)(d:Tryz.pinned.checked.prog.funcNamed "junction/junctionlaw.All" =Z f)(b:Tryz.pinned.checked.prog.funcs[f]?=Z a):
  true=Tryz.pinned.checked.prog.looks []/\∀(j:Nat) t,a.params[j]?=Z t->Tryz.pinned.checked.prog.wantsStandIn t=false:=by
 obtain rfl:f=7:=Option.some.inj ((show J.funcNamed "junction/junctionlaw.All" =Z 7 by kernel_rfl).symm.trans d)|>.symm;obtain rfl:a=f7:=(Option.some.inj (func7.symm.trans b)).symm;refine⟨n,fun j t c=>?_⟩;rw[params7]at c
 obtain rfl:t=22:=by simpa using Array.mem_of_getElem? c
 exact(show J.wantsStandIn 22=false by kernel_rfl)
theorem all_card:Rows.AllCardSaid:=
 Claim7.holds_tied_plain_at .later [] _ _ _ _ pC (fun _ h=>by cases h) n (fun _ h=>by cases h) all_row_tie rfl ⟨rfl,rfl⟩ n rfl plain n
