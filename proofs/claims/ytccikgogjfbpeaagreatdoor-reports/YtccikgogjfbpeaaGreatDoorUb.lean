import Derived.Test.YtccikgogjfbpeaaGreatDoorNc
import Derived.Lib.SliceRun
open Option renaming none->I,some->J
open Go.Value renaming string->V,pointer->Z,slice->U,int->O,bool->N,string->z0,oneCell'->z1,agg->z6
open Go.IntKind renaming i64->K
open Go.RowKit renaming Hid->E
open Go.AllReadyH renaming nil->H
open Go.Proofs.Tryz renaming prog->B
open Go.Obj renaming cells->G
open Nat renaming le_refl->M,lt_or_ge->z5,zero_le->z7,mul_one->z8
open Go.Ending renaming returned->C
open Or renaming inr->F
open List renaming getElem?_map->z2,getElem?_eq_none->z3,append_assoc->z4
namespace Go.Proofs.YtccikgogjfbpeaaGreatDoor
set_option maxRecDepth 30000
set_option maxHeartbeats 8000000
open Go.RowKit
theorem IS.tq {w:World}{a T q:Nat}{b:List Zd}{R:List Zc}(h:IS w a T q b R)(d:YE b R)(f:∀r,r∈R->UJ r):Cw w T b R/\TO w q b R:=by
 obtain⟨g,i,t,j,k,body,_,l,m,_,c,n,o⟩:=h;obtain⟨p,s,e⟩:=oL c.ro;subst e;exact⟨⟨⟨a,i,p,s,m,n,oS c.ro (z7 _),d⟩,⟨g,_,j,k,l,c⟩,d,f⟩,TO.of o⟩
theorem Lv.now {c:Nat->Nat}{w:World}{X:Nat}(h:Lv c w X):∃T q j R d g i,YE j R/\(∀r,r∈R->UJ r)/\w.heap[X]?=J (G #[Z (J ⟨T,0,I⟩),Z (J ⟨q,0,I⟩),N false,N d,g,i] 97)/\c X=9/\MB c w R d g i/\(∀W,Fr (fun k=>k=X) w W->Cw W T j R/\TO W q j R)/\
  ∀W n b e f,Fr (fun k=>k=X) w W->WJ w c n->W.heap[X]?=J (G #[Z (J ⟨T,0,I⟩),Z (J ⟨q,0,I⟩),N false,N b,e,f] 97)->MB n W R b e f->Lv n W X:=by
 obtain⟨w0,a,T,q,j,R,d,g,i,u,o,p,v,x,s,y,C⟩:=h
 have z:∀W,Fr (fun k=>k=X) w W->Fr (fun k=>k<a) w0 W:=fun W l=>v.monoNew l fun k m=>by
  rcases z5 k a with h|h
  ·exact Or.inl h
  ·rcases z5 k w0.heap.size with t|t
   ·have:=x k h t
    rw[m,s]at this
    cases this
   ·exact F t
 exact⟨T,q,j,R,d,g,i,o,p,y,s,C,fun W l=>(u.fr (z W l) fun k m=>m).tq o p,fun W n b e f l A D E=>⟨w0,a,T,q,j,R,b,e,f,u,o,p,z W l,fun k m B=>(A k (nL B v.size)).trans (x k m B),(A X (iA.1 y).1).trans s,D,E⟩⟩
theorem Lv.both {c:Nat->Nat}{w W:World}{X:Nat}(h:Lv c w X)(p:ZI)(n:p.pan.size<=maxLen)(j:F0 w W):∃T q,∃g:List ByteArray->Nat×ByteArray×ByteArray,
  W.cell? ⟨X,0,I⟩=J (Z (J ⟨T,0,I⟩))/\W.cell? ⟨X,1,I⟩=J (Z (J ⟨q,0,I⟩))/\
  (∀a b c l,F0 W a->Yz a b l->l.length<=maxLen->Calls B 19 #[Z (J ⟨T,0,I⟩),UM p,U b l.length c] a fun e w'=>e=C (NG (g l))/\F0 a w')/\
  (∀a b c l,F0 W a->Yz a b l->l.length<=maxLen->Calls B 56 #[Z (J ⟨q,0,I⟩),UM p,U b l.length c] a fun e w'=>e=C (NG (g l))/\F0 a w'):=by
 obtain⟨T,q,d,R,_,_,_,o,_,r,_,_,s,_⟩:=h.now;obtain⟨t,u⟩:=s w (Fr.refl _ _);have i:=j.whole r (by simp);exact⟨T,q,fun l=>TM d R p (Vn d l),bC i 0 _ rfl,bC i 1 _ rfl,fun a b c l k f m=>(t.1.fr (j.trans k)).decide b c l f m p n,fun a b c l k f m=>KH a q d R b c l p (u.fr (j.trans k)) o n f m⟩
theorem SU.tells {c g:Nat->Nat}{w W:World}{L X:Nat}{v j l m p:Value}{b:Nat}{r:List Nat}{es s:List Ue}(h:SU c w L v j l m p b r es s)(u:c X=9)(d:Fr (fun k=>k=X) w W)(f:WJ w c g)(x:Lv g W X):SU g W L v j l m p b r es s:=by
 have q:∀{k t:Nat},k=X->t≠9->c k≠t:=fun e i y=>i (by rw[<-y,e,u])
 obtain⟨z,i⟩:=XI h.tv h.tc d f fun k a=>q a (by decide)
 refine⟨d.whole h.bx fun e=>q e (by decide) h.bc,(f L (iA.1 h.bx).1).trans h.bc,z,i,h.few,fun Y A=>?_,h.n.keep d f fun k a=>⟨q a (by decide),q a (by decide),q a (by decide)⟩,h.o.keep d f fun k a=>⟨q a (by decide),q a (by decide),q a (by decide)⟩⟩;by_cases e:Y=X
 ·rw[e];exact x
 ·exact(h.tb Y A).keep d f fun k a=>⟨q a (by decide),q a (by decide),q a (by decide),fun B=>e (B.symm.trans a)⟩
theorem Lw (c:Nat->Nat)(w:World)(L:Nat)(v nv ov mv kv:Value)(b0:Nat)(xs:List Nat)(es fs:List Ue)(X:Nat)(k on:Int)(s:ByteArray)(p:ZI)(R:Option Addr)(dl:List ByteArray)(dc:Nat)(up:Bool)
  (h:SU c w L v nv ov mv kv b0 xs es fs)(hx:Lv c w X)(hd:Yz w R dl)(hs:p.pan.size<=maxLen)(hc:b0<=4611686018427387904)(hE:(es.length+4)*24<=140737488355328)(hN:(dl.length+6)*16<=140737488355328):
  Calls B 46 #[Z (J ⟨L,0,I⟩),Z (J ⟨X,0,I⟩),Ho k on s p.pan p.mcc p.am p.cur R dl.length dc up] w fun e w'=>e=C (N true)/\(∃c0 d0 es',Nj w c w' L v c0 ov d0 kv (b0+1) xs es' fs/\es'.length=es.length+4/\∀e,e∈es'->e∈es\/e.n<=8796093022208)/\St [1,3,4,7] c w w':=by
 obtain⟨ij,h1,i1,j1,l1⟩:=info_parts U6;have HS:=Za h;have HX:=Za hx;have HD:E (Yz w R dl):=hd;have HB:E (b0<=4611686018427387904/\(es.length+4)*24<=140737488355328/\(dl.length+6)*16<=140737488355328/\p.pan.size<=maxLen):=⟨hc,hE,hN,hs⟩;have m1:L<w.heap.size:=(iA.1 h.bx).1;obtain⟨a,x0⟩:∃a,dl.length=a:=⟨_,rfl⟩;have r:E (dl.length=a):=x0
 have D1:a<=8796093022202:=by omega
 have r0:E (F0 w (w.alloc (Up k on s p.pan p.mcc p.am p.cur R a dc up))):=(Fr.refl _ _).alloc _;have e0:E ((w.alloc (Up k on s p.pan p.mcc p.am p.cur R a dc up)).heap[w.heap.size]?=J (Up k on s p.pan p.mcc p.am p.cur R a dc up)):=aN w _;unfold Up at r0 e0;unfold Ho;rw[x0];clear h hx hd hs hc hE hN x0;go_enter Tryz.func46,Tryz.ntmps46;go_upto_region 1 with fail;generalize w.alloc (G #[O K k,O K on,V s,V p.pan,O K p.mcc,O K p.am,O K p.cur,U R a dc,N up] 62)=W0 at*;obtain⟨P,hP⟩:∃P,w.heap.size=P:=⟨_,rfl⟩;have M0:E (w.heap.size=P/\L<P):=⟨hP,by omega⟩;rw[hP]at e0;rw[hP];have x7:W0.cell? ⟨P,7,I⟩=J (U R a dc):=bC e0.o 7 _ rfl;have t0:=run_make (P:=B) W0 28 9 ij _ Tryz.underlying28 h1 i1 K K ((a:Int)+2) ((a:Int)+2) (by omega) (by omega) (by rw[l1];omega) (by omega);rw[show((a:Int)+2).toNat=a+2 from by omega,j1,z8]at t0
 have E1:(a:Int)<=8796093022202:=by omega
 obtain⟨z,f0⟩:∃z,(madeCells (z0 ByteArray.empty).cells (a+2)).toList=z:=⟨_,rfl⟩
 have y0:E (z.length=a+2):=by show _=_;rw[<-f0,Array.length_toList,size_madeCells]
 rw[show madeCells (z0 ByteArray.empty).cells (a+2)=z.toArray from by rw[<-f0,Array.toArray_toList]]at t0;obtain⟨A,hA⟩:∃A,W0.heap.size=A:=⟨_,rfl⟩;have HA:E (W0.heap.size=A):=hA
 have v0:E ((W0.alloc (G z.toArray 9)).heap[A]?=J (G z.toArray 9)):=by rw[<-hA];exact aN W0 _
 have a0:E (Below A W0 (W0.alloc (G z.toArray 9))):=(Below.refl _ _).alloc (Nat.le_of_eq hA.symm) _
 have A0:P<A:=by rw[<-hA];exact(iA.1 e0.o).1
 have N0:E (P<A):=A0;rw[hA]at t0;generalize W0.alloc (G z.toArray 9)=W1 at*;have y7:W1.cell? ⟨P,7,I⟩=J (U R a dc):=bC ((a0.o.block P A0).trans e0.o) 7 _ rfl;clear hP hA f0 m1 A0
 obtain⟨W2,n1,O0,P0⟩:∃W2,(Builtin.copy_ #[28,28] 3 #[U (J ⟨A,0,I⟩) (a+2) (a+2),U R a dc]).run B W1=.ok (goInt a) W2/\W2.heap[A]?=J (G (splice z 0 (dl.map z0)).toArray 9)/\Below A W0 W2:=by
  have w0:Nat.min a (a+2)=a:=Nat.min_eq_left (by omega);by_cases h0:a=0
  ·have t1:dl=[]:=List.eq_nil_of_length_eq_zero (r.o.trans h0)
   refine⟨W1,?_,?_,a0.o⟩
   ·rw[run_copy_none (P:=B) W1 28 28 3 9 _ _ _ _ _ _ Tryz.underlying28 (by kernel_rfl) (by rw[w0];exact h0),h0]
    rfl
   ·rw[t1,v0.o]
    simp[splice]
  ·obtain⟨g,o,e1,_⟩:=HD.o 0 _ (gE (by have:=r.o;omega))
   subst e1
   have B0:(dl.map z0).length=a:=by rw[List.length_map,r.o]
   have hr:=run_copy_row (P:=B) W1 28 28 3 9 A 0 (a+2) (a+2) ⟨g,o,I⟩ a dc z.toArray 9 (dl.map z0) Tryz.underlying28 (by kernel_rfl) v0.o (by rw[w0];exact B0) (fun j v hj=>?_) (by rw[B0];have:=y0.o;simp;omega) (fun v hv=>by obtain⟨s',_,rfl⟩:=List.mem_map.1 hv;rfl)
   ·rw[B0]at hr
    refine⟨_,hr,?_,below_setRow a0.o (M _) _⟩;rw[setRow_heap _ _ _ _ _ _ v0.o];simp[splice,r.o]
   ·rw[z2]at hj
    cases hd:dl[j]? with
    |none=>rw[hd]at hj;cases hj
    |some s'=>
     rw[hd]at hj;injection hj with hj;subst hj;obtain⟨g',o',e2,e3⟩:=HD.o j _ hd;injection e2 with e2;injection e2 with e2 e4 _;subst e2 e4;rw[Tc];have f1:=(r0.o.cell (p:=⟨g,o+j,I⟩) (bL w _ e3) (by simp)).trans e3;have F1:g<W0.heap.size:=bL W0 _ f1;exact(a0.o.cell (p:=⟨g,o+j,I⟩) (by have:=HA.o;show g<A;omega)).trans f1
 obtain⟨C0,⟨u4,Q0⟩,R0,⟨u5,S0⟩,l⟩:=Ni.lay O0 (by rw[r.o,y0.o]);rw[r.o]at C0 Q0 R0 S0 l;have D0:F0 W0 ((W2.setCell ⟨A,a,I⟩ (V ⟨#[98,101,104,105,110,100]⟩)).setCell ⟨A,a+1,I⟩ (V ⟨#[105,116]⟩)):=((Fr.of_below (by rw[HA.o];exact P0)).setCell (p:=⟨A,a,I⟩) (F (by have:=HA.o;show _<=A;omega)) _).setCell (p:=⟨A,a+1,I⟩) (F (by have:=HA.o;show _<=A;omega)) _;have g0:E (Ni ((W2.setCell ⟨A,a,I⟩ (V ⟨#[98,101,104,105,110,100]⟩)).setCell ⟨A,a+1,I⟩ (V ⟨#[105,116]⟩)) A dl):=C0;have i0:E (F0 w ((W2.setCell ⟨A,a,I⟩ (V ⟨#[98,101,104,105,110,100]⟩)).setCell ⟨A,a+1,I⟩ (V ⟨#[105,116]⟩))):=r0.o.trans D0;have v1:E (((W2.setCell ⟨A,a,I⟩ (V ⟨#[98,101,104,105,110,100]⟩)).setCell ⟨A,a+1,I⟩ (V ⟨#[105,116]⟩)).heap[P]?=J (G #[O K k,O K on,V s,V p.pan,O K p.mcc,O K p.am,O K p.cur,U R a dc,N up] 62)):=D0.whole e0.o (by simp);clear C0 D0 P0 O0 v0 a0 e0 r0 y0;go_upto_region 6 with fail;clear x7 y7 Q0 R0 S0 l t0 n1;generalize(W2.setCell ⟨A,a,I⟩ (V ⟨#[98,101,104,105,110,100]⟩)).setCell ⟨A,a+1,I⟩ (V ⟨#[105,116]⟩)=u at*;clear u4 u5 W1 W2;obtain⟨T,q,T0,E0,G0,V0,X0⟩:=HX.o.both p HB.o.2.2.2 i0.o;obtain⟨b,j0⟩:∃b,T0 dl=b:=⟨_,rfl⟩
 have Y0:E (∀W,F0 u W->W.cell? ⟨A,a,I⟩=J (V ⟨#[98,101,104,105,110,100]⟩)/\W.cell? ⟨A,a+1,I⟩=J (V ⟨#[105,116]⟩)):=fun W hf=>by
  obtain⟨cs,c1,c2,c3,c4,c5⟩:=g0.o.fr hf (by simp);rw[r.o]at c4 c5;exact⟨bC c1 _ _ c4,bC c1 _ _ c5⟩
 have w1:E (∀W,F0 u W->∀(i:Nat),i<a->∃s g o,R=J ⟨g,o,I⟩/\W.cell? ⟨g,o+i,I⟩=J (V s)/\W.cell? ⟨A,i,I⟩=J (V s)):=fun W hf i hi=>by
  have x1:i<dl.length:=by have:=r.o;omega
  have hg:=gE x1;obtain⟨g,o,e1,e2⟩:=(HD.o.fr (i0.o.trans hf) (by simp)) i _ hg;obtain⟨cs,c1,c2,c3,_⟩:=g0.o.fr hf (by simp);exact⟨_,g,o,e1,e2,bC c1 _ _ (c3 i _ hg)⟩
 have Y:E (∀W,F0 u W->W.cell? ⟨X,0,I⟩=J (Z (J ⟨T,0,I⟩))/\W.cell? ⟨X,1,I⟩=J (Z (J ⟨q,0,I⟩))/\W.cell? ⟨P,3,I⟩=J (V p.pan)/\W.cell? ⟨P,4,I⟩=J (O K p.mcc)/\W.cell? ⟨P,5,I⟩=J (O K p.am)/\W.cell? ⟨P,6,I⟩=J (O K p.cur)/\W.cell? ⟨P,7,I⟩=J (U R a dc)):=fun W hf=>by
  have e:=hf.whole v1.o (by simp);exact⟨(hf.cell (p:=⟨X,0,I⟩) (bL u _ E0) (by simp)).trans E0,(hf.cell (p:=⟨X,1,I⟩) (bL u _ G0) (by simp)).trans G0,bC e 3 _ rfl,bC e 4 _ rfl,bC e 5 _ rfl,bC e 6 _ rfl,bC e 7 _ rfl⟩
 have H0:E (∀W,F0 u W->Calls B 19 #[Z (J ⟨T,0,I⟩),z6 #[V p.pan,O K p.mcc,O K p.am,O K p.cur],U (J ⟨A,0,I⟩) a (a+2)] W fun e w'=>e=C (z6 #[O K (b.1:Nat),V b.2.1,V b.2.2])/\F0 W w'):=fun W hf=>by
  have e:=V0 W (J ⟨A,0,I⟩) (a+2) dl hf (g0.o.fr hf (by simp)).strs (by have:=r.o;unfold maxLen;omega);rw[j0,r.o]at e;exact e
 have y1:E (∀W,F0 u W->Calls B 56 #[Z (J ⟨q,0,I⟩),z6 #[V p.pan,O K p.mcc,O K p.am,O K p.cur],U R a dc] W fun e w'=>e=C (z6 #[O K (b.1:Nat),V b.2.1,V b.2.2])/\F0 W w'):=fun W hf=>by
  have e:=X0 W R dc dl hf (HD.o.fr (i0.o.trans hf) (by simp)) (by have:=r.o;unfold maxLen;omega);rw[j0,r.o]at e;exact e
 have I0:E (A<u.heap.size/\w.heap.size<=A):=by
  obtain⟨cs,c1,_⟩:=g0.o;exact⟨(iA.1 c1).1,by have:=N0.o;have:=M0.o.1;omega⟩
 clear E0 G0 V0 X0 j0 T0
 go_cut [9] (fun v wx=>∃Q,v=Z (J ⟨Q,0,I⟩)/\E (F0 u wx/\u.heap.size<=Q/\wx.heap[Q]?=J (BI b)))
 case first=>
  refine wp_region_held_drew (S:=fun W=>W.cell? ⟨X,0,I⟩=J (Z (J ⟨T,0,I⟩))/\W.cell? ⟨X,1,I⟩=J (Z (J ⟨q,0,I⟩))/\W.cell? ⟨P,3,I⟩=J (V p.pan)/\W.cell? ⟨P,4,I⟩=J (O K p.mcc)/\W.cell? ⟨P,5,I⟩=J (O K p.am)/\W.cell? ⟨P,6,I⟩=J (O K p.cur)/\W.cell? ⟨P,7,I⟩=J (U R a dc)) (by kernel_rfl) (Y.o _ (Fr.refl _ _).drew) (fun t=>?_);refine Uq 0 (v:=?v0z) ?y0z t ?r0z
  case y0z=>rintro w ⟨s0,s1,s3,s4,s5,s6,s7⟩;go_simp;first|with_reducible rfl|rw[if_pos (by omega)]
  try go_frame
  refine Uq 1 (v:=?v1z) ?y1z t ?r1z
  case y1z=>rintro w ⟨s0,s1,s3,s4,s5,s6,s7⟩;go_simp;first|with_reducible rfl|rw[if_pos (by omega)]
  try go_frame
  refine Uq 2 (v:=?v2z) ?y2z t ?r2z
  case y2z=>rintro w ⟨s0,s1,s3,s4,s5,s6,s7⟩;go_simp;first|with_reducible rfl|rw[if_pos (by omega)]
  try go_frame
  refine Uq 3 (v:=?v3z) ?y3z t ?r3z
  case y3z=>rintro w ⟨s0,s1,s3,s4,s5,s6,s7⟩;go_simp;first|with_reducible rfl|rw[if_pos (by omega)]
  try go_frame
  refine Uq 4 (v:=?v4z) ?y4z t ?r4z
  case y4z=>rintro w ⟨s0,s1,s3,s4,s5,s6,s7⟩;go_simp;first|with_reducible rfl|rw[if_pos (by omega)]
  try go_frame
  refine Uq 5 (v:=?v5z) ?y5z t ?r5z
  case y5z=>rintro w ⟨s0,s1,s3,s4,s5,s6,s7⟩;go_simp;first|with_reducible rfl|rw[if_pos (by omega)]
  try go_frame
  refine Uq 6 (v:=?v6z) ?y6z t ?r6z
  case y6z=>rintro w ⟨s0,s1,s3,s4,s5,s6,s7⟩;go_simp;first|with_reducible rfl|rw[if_pos (by omega)]
  try go_frame
  refine Uq 7 (v:=?v7z) ?y7z t ?r7z
  case y7z=>rintro w ⟨s0,s1,s3,s4,s5,s6,s7⟩;go_simp;first|with_reducible rfl|rw[if_pos (by omega)]
  try go_frame
  refine Uq 8 (v:=?v8z) ?y8z t ?r8z
  case y8z=>rintro w ⟨s0,s1,s3,s4,s5,s6,s7⟩;go_simp;first|with_reducible rfl|rw[if_pos (by omega)]
  try go_frame
  refine wpAnyH_ready (rs:=[9,10]) (by kernel_rfl) (by simp) ?_;refine Zb rfl (fun x f=>?_) ?_
  ·try rw[if_pos (by rfl)]
   go_simp;refine(H0.o _ ((Fr.refl _ _).drew)).mono ?_;rintro e D ⟨rfl,l⟩;have d:E (F0 u D):=((Fr.refl _ _).drew).trans l;clear l;refine f.out _ _ (Y.o _ d.o) (fun t=>?_);clear f x
   try go_frame
   refine wpAnyH_ready (rs:=[10]) (by kernel_rfl) (by simp) ?_;refine Zb rfl (fun x f=>?_) H
   try rw[if_pos (by rfl)]
   go_simp;refine f.out _ _ (Y.o _ (d.o.alloc _)) (fun t=>?_);clear f x
   try go_frame
   refine wpAnyH_ready (rs:=[11]) (by kernel_rfl) (by simp) ?_;refine Zb rfl (fun x f=>?_) H
   try rw[if_pos (by rfl)]
   refine wp_store_row 38 _ _ rfl D.heap.size #[O K (b.1:Nat),V b.2.1,V b.2.2] rfl rfl 38 _ (heap_alloc_new D _) (by kernel_rfl) rfl (by simp[z1]) ?_;refine f.out _ _ (Y.o _ (Fr.setRow (d.o.alloc _) (F d.o.size) _)) (fun _=>?_);clear f x
   try go_frame
   refine wpAnyH_done (by kernel_rfl) ?_ _;go_wp2_with fail;go_meet;exact⟨D.heap.size,rfl,Fr.setRow (d.o.alloc _) (F d.o.size) _,d.o.size,setRow_heap _ D.heap.size _ _ _ _ (aN D _)⟩
  ·refine Zb rfl (fun x f=>?_) H
   try rw[if_pos (by rfl)]
   go_simp;refine f.out _ _ (Y.o _ (((Fr.refl _ _).drew).alloc _)) (fun t=>?_);clear f x
   try go_frame
   have k0:E (F0 u (u.drew.alloc (G #[O K 0,V ⟨#[]⟩,V ⟨#[]⟩] 38))):=((Fr.refl _ _).drew).alloc _;have J0:E ((u.drew.alloc (G #[O K 0,V ⟨#[]⟩,V ⟨#[]⟩] 38)).heap[u.heap.size]?=J (G #[O K 0,V ⟨#[]⟩,V ⟨#[]⟩] 38)):=aN u.drew _;refine wpAnyH_ready (rs:=[9]) (by kernel_rfl) (by simp) ?_;refine Zb rfl (fun x f=>?_) H
   try rw[if_pos (by rfl)]
   go_simp;refine(H0.o _ k0.o).mono ?_;rintro e D ⟨rfl,l⟩;have d:E (F0 u D):=k0.o.trans l;have l0:E (D.heap[u.heap.size]?=J (G #[O K 0,V ⟨#[]⟩,V ⟨#[]⟩] 38)):=l.whole J0.o (by simp);clear l;refine f.out _ _ (Y.o _ d.o) (fun t=>?_);clear f x
   try go_frame
   refine wpAnyH_ready (rs:=[11]) (by kernel_rfl) (by simp) ?_;refine Zb rfl (fun x f=>?_) H
   try rw[if_pos (by rfl)]
   refine wp_store_row 38 _ _ rfl u.heap.size #[O K (b.1:Nat),V b.2.1,V b.2.2] rfl rfl 38 _ l0.o (by kernel_rfl) rfl (by simp[z1]) ?_;refine f.out _ _ (Y.o _ (Fr.setRow d.o (F (M _)) _)) (fun _=>?_);clear f x
   try go_frame
   refine wpAnyH_done (by kernel_rfl) ?_ _;go_wp2_with fail;go_meet;exact⟨u.heap.size,rfl,Fr.setRow d.o (F (M _)) _,M _,setRow_heap D u.heap.size _ _ _ _ l0.o⟩
 case rest=>
  obtain⟨Q1,rfl,HQ⟩:=hcut;generalize wc=W4 at*;obtain⟨h7,h8⟩:=Y0.o W4 HQ.o.1;have HW:E (F0 u W4):=HQ.o.1;have Z0:E (u.heap.size<=Q1/\W4.heap[Q1]?=J (BI b)):=HQ.o.2
  have k1:(a:Int)<(a:Int)+2:=by omega
  have k2:(a:Int)+1<(a:Int)+2:=by omega
  clear HQ H0 Y0;go_wp2_with fail;clear h7 h8 k1 k2
  go_loopg [10,11] a (fun m bv kv wr=>∃i,i<=a/\m=a-i/\bv=N true/\kv=O K (i:Nat)/\E (F0 W4 wr))
  case atStart=>exact⟨0,z7 _,rfl,rfl,rfl,Fr.refl _ _⟩
  case round=>
   obtain⟨i,hi,rfl,rfl,rfl,m0⟩:=hrel;by_cases A1:i<a
   ·have B1:(i:Int)<(a:Int):=by omega
    have G1:(i:Int)<(a:Int)+2:=by omega
    obtain⟨sx,g,o,rfl,r1,r2⟩:=w1.o wr (HW.o.trans m0.o) i A1;obtain⟨_,_,_,_,_,_,r7⟩:=Y.o wr (HW.o.trans m0.o);go_upto_region 11 with fail
    go_quiet (fail)
    have C1:E (F0 W4 (wr.drewN nq)):=m0.o.trans ⟨rfl,rfl,rfl,M _,fun _ _ _=>rfl⟩;go_wp2_with fail;go_roundg (a-(i+1))
    case measure=>omega
    case rel=>exact⟨i+1,by omega,rfl,rfl,by go_num,C1⟩
   ·have B1:¬(i:Int)<(a:Int):=by omega
    have n0:=Za (HW.o.trans m0.o)
    have y:E (∀W,F0 wr W->W.cell? ⟨X,0,I⟩=J (Z (J ⟨T,0,I⟩))/\W.cell? ⟨X,1,I⟩=J (Z (J ⟨q,0,I⟩))/\W.cell? ⟨P,3,I⟩=J (V p.pan)/\W.cell? ⟨P,4,I⟩=J (O K p.mcc)/\W.cell? ⟨P,5,I⟩=J (O K p.am)/\W.cell? ⟨P,6,I⟩=J (O K p.cur)/\W.cell? ⟨P,7,I⟩=J (U R a dc)):=fun W hf=>Y.o W (n0.o.trans hf)
    have a1:E (∀W,F0 wr W->Calls B 56 #[Z (J ⟨q,0,I⟩),z6 #[V p.pan,O K p.mcc,O K p.am,O K p.cur],U R a dc] W fun e w'=>e=C (z6 #[O K (b.1:Nat),V b.2.1,V b.2.2])/\F0 W w'):=fun W hf=>y1.o W (n0.o.trans hf)
    go_upto_region 12 with fail
    go_cut [12] (fun v wx=>∃Q,v=Z (J ⟨Q,0,I⟩)/\E (F0 wr wx/\wr.heap.size<=Q/\wx.heap[Q]?=J (BI b)))
    case first=>
     refine wp_region_held_drew (S:=fun W=>W.cell? ⟨X,0,I⟩=J (Z (J ⟨T,0,I⟩))/\W.cell? ⟨X,1,I⟩=J (Z (J ⟨q,0,I⟩))/\W.cell? ⟨P,3,I⟩=J (V p.pan)/\W.cell? ⟨P,4,I⟩=J (O K p.mcc)/\W.cell? ⟨P,5,I⟩=J (O K p.am)/\W.cell? ⟨P,6,I⟩=J (O K p.cur)/\W.cell? ⟨P,7,I⟩=J (U R a dc)) (by kernel_rfl) (y.o _ (Fr.refl _ _).drew) (fun t=>?_);refine Zf 0 t ?_
     try go_frame
     refine Zf 1 t ?_
     try go_frame
     refine Zf 2 t ?_
     try go_frame
     refine Zf 3 t ?_
     try go_frame
     refine Zf 4 t ?_
     try go_frame
     refine Zf 5 t ?_
     try go_frame
     refine Zf 6 t ?_
     try go_frame
     refine Zf 7 t ?_
     try go_frame
     refine wpAnyH_ready (rs:=[8,9]) (by kernel_rfl) (by simp) ?_;refine Zb rfl (fun x f=>?_) ?_
     ·try rw[if_pos (by rfl)]
      go_simp;refine(a1.o _ ((Fr.refl _ _).drew)).mono ?_;rintro e D ⟨rfl,l⟩;have d:E (F0 wr D):=((Fr.refl _ _).drew).trans l;clear l;refine f.out _ _ (y.o _ d.o) (fun t=>?_);clear f x
      try go_frame
      refine wpAnyH_ready (rs:=[9]) (by kernel_rfl) (by simp) ?_;refine Zb rfl (fun x f=>?_) H
      try rw[if_pos (by rfl)]
      go_simp;refine f.out _ _ (y.o _ (d.o.alloc _)) (fun t=>?_);clear f x
      try go_frame
      refine wpAnyH_ready (rs:=[10]) (by kernel_rfl) (by simp) ?_;refine Zb rfl (fun x f=>?_) H
      try rw[if_pos (by rfl)]
      refine wp_store_row 38 _ _ rfl D.heap.size #[O K (b.1:Nat),V b.2.1,V b.2.2] rfl rfl 38 _ (heap_alloc_new D _) (by kernel_rfl) rfl (by simp[z1]) ?_;refine f.out _ _ (y.o _ (Fr.setRow (d.o.alloc _) (F d.o.size) _)) (fun _=>?_);clear f x
      try go_frame
      refine wpAnyH_done (by kernel_rfl) ?_ _;go_wp2_with fail;go_meet;exact⟨D.heap.size,rfl,Fr.setRow (d.o.alloc _) (F d.o.size) _,d.o.size,setRow_heap _ D.heap.size _ _ _ _ (aN D _)⟩
     ·refine Zb rfl (fun x f=>?_) H
      try rw[if_pos (by rfl)]
      go_simp;refine f.out _ _ (y.o _ (((Fr.refl _ _).drew).alloc _)) (fun t=>?_);clear f x
      try go_frame
      have k0:E (F0 wr (wr.drew.alloc (G #[O K 0,V ⟨#[]⟩,V ⟨#[]⟩] 38))):=((Fr.refl _ _).drew).alloc _;have J0:E ((wr.drew.alloc (G #[O K 0,V ⟨#[]⟩,V ⟨#[]⟩] 38)).heap[wr.heap.size]?=J (G #[O K 0,V ⟨#[]⟩,V ⟨#[]⟩] 38)):=aN wr.drew _;refine wpAnyH_ready (rs:=[8]) (by kernel_rfl) (by simp) ?_;refine Zb rfl (fun x f=>?_) H
      try rw[if_pos (by rfl)]
      go_simp;refine(a1.o _ k0.o).mono ?_;rintro e D ⟨rfl,l⟩;have d:E (F0 wr D):=k0.o.trans l;have l0:E (D.heap[wr.heap.size]?=J (G #[O K 0,V ⟨#[]⟩,V ⟨#[]⟩] 38)):=l.whole J0.o (by simp);clear l;refine f.out _ _ (y.o _ d.o) (fun t=>?_);clear f x
      try go_frame
      refine wpAnyH_ready (rs:=[10]) (by kernel_rfl) (by simp) ?_;refine Zb rfl (fun x f=>?_) H
      try rw[if_pos (by rfl)]
      refine wp_store_row 38 _ _ rfl wr.heap.size #[O K (b.1:Nat),V b.2.1,V b.2.2] rfl rfl 38 _ l0.o (by kernel_rfl) rfl (by simp[z1]) ?_;refine f.out _ _ (y.o _ (Fr.setRow d.o (F (M _)) _)) (fun _=>?_);clear f x
      try go_frame
      refine wpAnyH_done (by kernel_rfl) ?_ _;go_wp2_with fail;go_meet;exact⟨wr.heap.size,rfl,Fr.setRow d.o (F (M _)) _,M _,setRow_heap D wr.heap.size _ _ _ _ l0.o⟩
    case rest=>
     obtain⟨Q2,rfl,HQ⟩:=hcut;have K0:=Za ((i0.o.trans n0.o).trans HQ.o.1)
     obtain⟨c1,d1⟩:∃c1:Nat->Nat,c1=fun k=>if k=A then 7 else if w.heap.size<=k then 0 else c k:=⟨_,rfl⟩
     have o0:E (WJ w c c1/\c1 A=7/\∀k,w.heap.size<=k->k≠A->c1 k=0):=by
      subst d1;refine⟨fun k hk=>?_,if_pos rfl,fun k hk hn=>?_⟩
      ·have:=I0.o.2
       dsimp only
       rw[if_neg (by omega),if_neg (by omega)]
      ·dsimp only
       rw[if_neg hn,if_pos hk]
     clear d1
     have HT:E (Calls B 84 #[Z (J ⟨L,0,I⟩),U (J ⟨A,0,I⟩) (a+2) (a+2)] wc fun e w'=>e=C (.tuple #[])/\∃c0 d0 es',Nj wc c1 w' L v c0 ov d0 kv (b0+1) xs es' fs/\es'.length=es.length+4/\(∀e,e∈es'->e∈es\/e.n<=8796093022208)/\St [1,3,4,7] c1 wc w'):=by
      obtain⟨b1,b2,b3,b4⟩:=HB.o;obtain⟨ys,g1⟩:=(g0.o.fr (n0.o.trans HQ.o.1) (by simp)).row (L:=L) (by have:=N0.o;have:=M0.o.2;omega) (by have:=r.o;unfold maxLen;omega);rw[r.o]at g1;refine Nk c1 wc L v nv ov mv kv b0 xs es fs (J ⟨A,0,I⟩) (a+2) (a+2) ys (HS.o.keep K0.o o0.o.1) g1 (QJ o0.o.2.1) (fun e he k hk g e1 e2=>?_) b1 b2 (by have:=r.o;omega);obtain⟨g',k1,_,cs,k3,_⟩:=HS.o.n.el e (by simpa using he) k hk;rw[k1]at e1;injection e1 with e1;injection e1 with e1
      have:A=g:=by simpa[Value.ownBlock]using e2
      have:=(iA.1 k3).1;have:=I0.o.2;omega
     go_upto_region 13 with fail;go_wp2_with fail;refine HT.o.mono ?_;rintro e w7 ⟨rfl,c0,d0,es',⟨c7,a7,h7⟩,l7,m7,h9⟩;have H7:E ((∃c0 d0 es',Nj w c w7 L v c0 ov d0 kv (b0+1) xs es' fs/\es'.length=es.length+4/\∀e,e∈es'->e∈es\/e.n<=8796093022208)/\St [1,3,4,7] c w w7):=⟨⟨c0,d0,es',⟨c7,o0.o.1.trans a7 K0.o.size,h7⟩,l7,m7⟩,St.cls (K0.o.mono (by simp)) o0.o.1 h9 fun i hi=>hi⟩
     have L0:∀Q,u.heap.size<=Q->¬c1 Q∈[1,3,4,7]:=by
      intro Q hQ;rw[o0.o.2.2 Q (by have:=i0.o.size;omega) (by have:=I0.o.1;omega)]
      decide
     have o1:=h9.whole (HQ.o.1.whole (m0.o.whole Z0.o.2 (by simp)) (by simp)) (L0 Q1 Z0.o.1);have o2:=h9.whole HQ.o.2.2 (L0 Q2 (Nat.le_trans n0.o.size HQ.o.2.1));have p0:w7.cell? ⟨Q1,0,I⟩=J (O K (b.1:Nat)):=bC o1 0 _ rfl;have p1:w7.cell? ⟨Q1,1,I⟩=J (V b.2.1):=bC o1 1 _ rfl;have p2:w7.cell? ⟨Q1,2,I⟩=J (V b.2.2):=bC o1 2 _ rfl;have q0:w7.cell? ⟨Q2,0,I⟩=J (O K (b.1:Nat)):=bC o2 0 _ rfl;have q1:w7.cell? ⟨Q2,1,I⟩=J (V b.2.1):=bC o2 1 _ rfl;have q2:w7.cell? ⟨Q2,2,I⟩=J (V b.2.2):=bC o2 2 _ rfl;clear h7 a7 l7 m7 h9 L0 o1 o2 HT;go_wp2_with fail;go_ret;exact⟨rfl,H7.o⟩
theorem Jb (R:List Zc)(a:Nat):∀d,∃t,Wv R (a+d)=Wv R a++t
 |0=>⟨[],by simp⟩
 |d+1=>by
  obtain⟨t,h⟩:=Jb R a d;refine⟨t++(match R[a+d]? with|some r=>if Sd R (a+d)then[]else[r.name]|none=>[]),?_⟩
  show Wv R (a+d)++(match R[a+d]? with|some r=>if Sd R (a+d)then[]else[r.name]|none=>[])=_
  rw[h,z4]
theorem Nl {R:List Zc}{i:Nat}{r:Zc}(a:R[i]?=J r):Wv R (i+1)=Wv R i++(if Sd R i then[]else[r.name]):=by
 show Wv R i++_=_
 rw[a]
theorem DC {R:List Zc}{i:Nat}{r:Zc}(a:R[i]?=J r)(b:Sd R i=false):(KX R)[(Wv R i).length]?=J r.name:=by
 obtain⟨t,e⟩:=Jb R (i+1) (R.length-(i+1));rw[show i+1+(R.length-(i+1))=R.length from by have:=(iG.1 a).1;omega,Nl a,b]at e;unfold KX;rw[e,z4,aR (M _),Nat.sub_self];rfl
theorem Ge {R:List Zc}{i:Nat}(a:i<R.length):(Lu R)[i]?=J (N (!Sd R i)):=by
 unfold Lu;rw[z2,List.getElem?_range a];rfl
theorem Jh.ded {w W:World}{D:Nat}{a:List Zd}{R:List Zc}(h:Jh w W D R.length fun k b=>b=false↔∃p,Yd p=true/\Rt R p=J k)(l:YE a R)(m:∀r,r∈R->UJ r):W.ownsRow w.heap.size 4 1 (U (J ⟨D,0,I⟩) R.length R.length) R.length (Lu R)/\F0 w W:=by
 obtain⟨d,f,n,o⟩:=h
 have t:d.length=R.length:=by rw[f.1,z8]
 have e:d=Lu R:=List.ext_getElem? fun i=>by
  by_cases c:i<R.length
  ·obtain⟨b,q,g⟩:=n i c
   have j:=CB l m (gE c);rw[q,Ge c]
   cases b with
   |false=>rw[j.2 (g.1 rfl)];rfl
   |true=>
    cases s:Sd R i with
    |false=>rfl
    |true=>have:=g.2 (j.1 s);cases this
  ·rw[z3 (by omega),z3 (by simp[Lu];omega)]
 rw[<-e];exact⟨f,o⟩
theorem Jc (c:Nat->Nat)(w:World)(L:Nat)(v nv ov mv kv:Value)(l:Nat)(xs:List Nat)(es fs:List Ue)(X:Nat)(h:SU c w L v nv ov mv kv l xs es fs)(hX:X∈xs)(hc:l<=4611686018427387904)(hE:(es.length+4)*24<=140737488355328):
  Calls B 48 #[Z (J ⟨L,0,I⟩),Z (J ⟨X,0,I⟩)] w fun e w'=>e=C (N true)/\(∃H P es',Nj w c w' L v H ov P kv (l+1) xs es' fs/\es'.length=es.length+4/\∀e,e∈es'->e∈es\/e.n<=8796093022208)/\St [1,3,4,7,9,11] c w w':=by
 obtain⟨T,q,k0,R,s,Q,A0,l0,B0,hx,C0,Y,m0,j0⟩:=(h.tb X hX).now;have HS:=Za h;have n0:=Za m0;have a0:=Za (And.intro l0 B0);have HX:=Za hx;have D0:=Za C0;have d0:=Za Y;have E0:=Za j0;have G0:=Za (And.intro hc hE);have p0:=Za (FN w T k0 R (m0 w (Fr.refl _ _)).1);have x0:=bC hx 0 _ rfl;obtain⟨dn,e0⟩:∃dn,(KX R).length=dn:=⟨_,rfl⟩;have H0:=Za e0;obtain⟨n,hn⟩:∃n,R.length=n:=⟨_,rfl⟩;have HN:=Za hn
 have g1:n<=8:=by have:=l0.l8;omega
 have f1:dn<=8:=by have:=Na R R.length;unfold KX at e0;omega
 rw[e0]at p0;clear h hX hc hE l0 B0 hx C0 Y m0 j0 e0 hn;go_enter Tryz.func48,Tryz.ntmps48;go_wp2_with fail;refine p0.o.mono ?_;rintro e t ⟨⟨lv,rfl,u,_⟩,q0⟩;obtain⟨oa,oc,e⟩:=oL u;subst e;have r0:=Za u;have f:=Za q0
 have I0:E (∃c1,WJ w c c1/\Cl c1 (U oa dn oc) 7/\SU c1 t L v nv ov mv kv l xs es fs):=by
  have ha:WJ w c fun k=>if(Value.slice oa dn oc).ownBlock=J k then 7 else c k:=fun k p=>if_neg fun e=>by have:=(u.lt k e).1;omega
  exact⟨_,ha,fun k p=>if_pos p,HS.o.keep q0 ha⟩
 obtain⟨c1,x⟩:=I0.o;have HC:=Za x;clear I0 x u q0 p0 x0
 have Q0:∀(w:World)(a:Option Addr)(n c:Nat),(binOp .eql 95 (U a n c) (U I 0 0)).run B w=.ok (N a.isNone) w:=fun w a n c=>Go.Lib.run_eql_slice_nil w _ _ a n c 0 0 Tryz.underlying95
 obtain⟨da,dl,dc,R0⟩:∃da dl dc,A0=U da dl dc:=d0.o.2.elim (fun e=>⟨_,_,_,e⟩) fun⟨D,e,_⟩=>⟨_,_,_,e⟩
 subst R0;have m:=f.o.whole HX.o (by simp);have s0:=Za m;have x5:=bC m 5 _ rfl;have x2:=bC m 2 _ rfl;clear m;go_upto_region 3 with fail
 go_cut [25] (fun bv wz=>bv=N da.isNone/\wz=t)
 case first=>
  cases da with
  |none=>
   go_wp2_with fail;go_meet;exact⟨rfl,rfl⟩
  |some z=>
   go_wp2_with fail;go_meet;exact⟨rfl,rfl⟩
 case rest=>
 obtain⟨rfl,hw⟩:=hcut;replace hw:=hw.symm;subst hw;clear Q0 x5 x2
 go_upto_if 25 with fail
 go_cut [] (fun wz=>E (Fr (fun k=>k=X) t wz)/\E (Nj t c1 wz L v nv ov mv kv l xs es fs)/\E (∃a2 t2 D,wz.heap[X]?=J (G #[Z (J ⟨T,0,I⟩),Z (J ⟨q,0,I⟩),N false,N a2,t2,U (J ⟨D,0,I⟩) n n] 97)/\∃b,wz.ownsRow b 4 1 (U (J ⟨D,0,I⟩) n n) n (Lu R)))
 case first=>
  have m:=s0.o;rcases d0.o.2 with e|⟨D,e,_,b,j⟩
  ·injection e with e1 e2 e3
   subst e1 e2 e3;have x1:=bC m 1 _ rfl;have J0:=Za (IQ t q k0 R (n0.o t (f.o.mono (by simp))).2 a0.o.1 fun r y=>⟨(a0.o.2 r y).m4,(a0.o.2 r y).c4⟩);rw[HN.o]at J0;clear m;go_wp2_with fail;refine J0.o.mono ?_;rintro e w2 ⟨D,rfl,t0⟩;rw[<-HN.o]at t0;obtain⟨d1,d2⟩:=t0.ded a0.o.1 a0.o.2;rw[HN.o]at d1;have f0:=d2.whole s0.o (by simp);have e5:=bC f0 5 _ rfl;have f5:=bF f0 5
   have d:E (Fr (fun k=>k=X) t (w2.setCell ⟨X,5,I⟩ (U (J ⟨D,0,I⟩) n n))/\Nj t c1 (w2.setCell ⟨X,5,I⟩ (U (J ⟨D,0,I⟩) n n)) L v nv ov mv kv l xs es fs/\(w2.setCell ⟨X,5,I⟩ (U (J ⟨D,0,I⟩) n n)).heap[X]?=J (G #[Z (J ⟨T,0,I⟩),Z (J ⟨q,0,I⟩),N false,N s,Q,U (J ⟨D,0,I⟩) n n] 97)/\(w2.setCell ⟨X,5,I⟩ (U (J ⟨D,0,I⟩) n n)).ownsRow t.heap.size 4 1 (U (J ⟨D,0,I⟩) n n) n (Lu R)):=by
    have hf:Fr (fun k=>k=X) t (w2.setCell ⟨X,5,I⟩ (U (J ⟨D,0,I⟩) n n)):=(d2.mono (by simp)).trans (UY _ 5)
    have ha:WJ t c1 fun k=>if k=D then 11 else c1 k:=fun k p=>if_neg fun e=>by have:=(d1.lt D rfl).1;omega
    have v0:=(iA.1 HX.o).1;have K0:=(HC.o.1 X v0).trans D0.o;have e:=heap_setCell_same w2 X 5 _ _ (U (J ⟨D,0,I⟩) n n) f0
    have e':(w2.setCell ⟨X,5,I⟩ (U (J ⟨D,0,I⟩) n n)).heap[X]?=J (G #[Z (J ⟨T,0,I⟩),Z (J ⟨q,0,I⟩),N false,N s,Q,U (J ⟨D,0,I⟩) n n] 97):=by simpa using e
    have y:=oF d1 (UY (w:=w2) (L:=X) (U (J ⟨D,0,I⟩) n n) 5) fun k p=>by have:=f.o.size;omega
    refine⟨hf,⟨_,ha,HC.o.2.2.tells K0 hf ha ?_⟩,e',y⟩
    have S0:=(d0.o.keep f.o HC.o.1 (by simp)).keep hf ha fun k p=>by rw[p,K0];decide
    refine E0.o _ _ s Q _ ((f.o.mono (by simp)).trans hf) (HC.o.1.trans ha f.o.size) e' ⟨S0.1,F ⟨D,by rw[HN.o],QJ (if_pos rfl),t.heap.size,by rw[HN.o];exact y⟩⟩
   clear t0 d1 d2 f0 x1;go_wp2_with fail;go_meet;exact⟨d.o.1,d.o.2.1,_,_,D,d.o.2.2.1,_,d.o.2.2.2⟩
  ·rw[HN.o]at e
   injection e with e1 e2 e3;replace e2:=e2.symm;replace e3:=e3.symm;subst e1 e2 e3
   have d:E (Nj t c1 t L v nv ov mv kv l xs es fs/\t.ownsRow b 4 1 (U (J ⟨D,0,I⟩) n n) n (Lu R)):=⟨⟨c1,WJ.refl _ _,HC.o.2.2⟩,by
    rw[HN.o]at j
    exact oF j f.o (by simp)⟩
   clear m j;go_wp2_with fail;go_meet;exact⟨Fr.refl _ _,d.o.1,_,_,D,s0.o,_,d.o.2⟩
 case rest=>
  obtain⟨w0,T0,L0⟩:=hcut;generalize wc=W at*;obtain⟨a2,t2,D,M0,b,j⟩:=L0.o;have v0:=(iA.1 HX.o).1
  have V0:E (∀W',F0 W W'->W'.cell? ⟨X,1,I⟩=J (Z (J ⟨q,0,I⟩))/\W'.cell? ⟨X,5,I⟩=J (U (J ⟨D,0,I⟩) n n)/\TO W' q k0 R/\W'.ownsRow w.heap.size 9 1 (U oa dn oc) dn (Se (KX R))/\∀i,i<n->W'.cell? ⟨D,i,I⟩=J (N (!Sd R i))):=fun W' hf=>by
   have e:=hf.whole M0 (by simp);exact⟨bC e 1 _ rfl,bC e 5 _ rfl,(n0.o W' (((f.o.mono (by simp)).trans w0.o).trans (hf.mono (by simp)))).2,oF (oF r0.o w0.o fun k p=>by omega) hf (by simp),fun i hi=>((oF j hf (by simp)).cellAt i (by omega)).trans (Ge (by have:=HN.o;omega))⟩
  clear M0 j d0 E0 L0 n0;go_wp2_with fail
  go_loopg [6,7] n (fun mm av iv wr=>∃i a:Nat,i<=n/\mm=n-i/\av=O K (a:Nat)/\iv=O K (i:Nat)/\a<=8/\E (a=(Wv R i).length)/\E (F0 W wr))
  case atStart=>exact⟨0,0,by omega,rfl,rfl,rfl,by omega,rfl,Fr.refl _ _⟩
  case round=>
   obtain⟨i,a,h1,rfl,rfl,rfl,ha,HA,b0⟩:=hrel;obtain⟨y1,y5,g0,A,h0⟩:=V0.o wr b0.o;by_cases W0:i<n
   ·have X0:(i:Int)<(n:Int):=by omega
    obtain⟨r,y⟩:∃r,R[i]?=J r:=⟨_,gE (show i<R.length by have:=HN.o;omega)⟩;have i1:=Za y;have y0:=h0 i W0
    cases hl:Sd R i with
    |true=>
     rw[hl]at y0
     have z0:E (a=(Wv R (i+1)).length):=by show _=_;rw[Nl y,hl,if_pos rfl,List.append_nil,HA.o]
     clear g0 A h0 y hl y1;go_wp2_with fail;go_roundg (n-(i+1))
     case measure=>omega
     case rel=>exact⟨i+1,a,by omega,rfl,rfl,by go_num,ha,z0,b0⟩
    |false=>
     rw[hl]at y0
     have z0:E (a+1=(Wv R (i+1)).length):=by show _=_;rw[Nl y,hl,HA.o,lA];rfl
     have i0:=DC y hl;rw[<-HA.o]at i0
     have j1:a<dn:=by have:=(iG.1 i0).1;have:=H0.o;omega
     obtain⟨la,lc,h2,h3⟩:=g0.c2;rw[HN.o]at h2;obtain⟨g,ma,mc,ca,cc,pa,pc,rfl,c0,_⟩:=h3 i r y;obtain⟨og,_,e,_⟩:=A.form (by omega);injection e with e _ e2;subst e e2;have o0:wr.cell? ⟨og,a,I⟩=J (V r.name):=(A.cellAt a (by omega)).trans (by unfold Se;rw[z2,i0];rfl);have u0:wr.cell? ⟨g,i*13,I⟩=J (V r.name):=c0 0 _ rfl
     have l1:(a:Int)<(dn:Int):=by omega
     have Y0:decide ((dn:Int)<=(a:Int))=false:=by simp;omega
     clear g0 A h0 y hl i0 h3 c0;go_upto_region 9 with fail
     go_quiet (fail)
     have Z0:E (F0 W (wr.drewN nq)):=b0.o.trans ⟨rfl,rfl,rfl,M _,fun _ _ _=>rfl⟩;clear Y0 o0 u0 h2 y1 y5 y0;go_wp2_with fail;go_roundg (n-(i+1))
     case measure=>omega
     case rel=>exact⟨i+1,a+1,by omega,rfl,by go_num,by go_num,by omega,z0,Z0⟩
   ·have X0:¬(i:Int)<(n:Int):=by omega
    obtain rfl:i=n:=by omega
    obtain rfl:a=dn:=by
     rw[HA.o,<-H0.o,<-HN.o];rfl
    have HT:E (Calls B 84 #[Z (J ⟨L,0,I⟩),U oa a oc] wr fun e w'=>e=C (.tuple #[])/\(∃H P es',Nj w c w' L v H ov P kv (l+1) xs es' fs/\es'.length=es.length+4/\∀e,e∈es'->e∈es\/e.n<=8796093022208)/\St [1,3,4,7,9,11] c w w'):=by
     obtain⟨c2,N0,a1⟩:=T0.o;obtain⟨x,b1,_⟩:=HC.o;have m1:=(iA.1 HS.o.bx).1;have O0:WJ w c c2:=x.trans N0 f.o.size;have P0:St [1,3,4,7,9,11] c w wr:=St.cls (c1:=c) (St.cls (c1:=c1) (f.o.mono (by simp)) x w0.o fun k p=>by rw[p,x X v0,D0.o];decide) (WJ.refl _ _) (S:=fun _=>False) b0.o (by simp);refine(Nk c2 wr L v nv ov mv kv l xs es fs oa a oc _ (a1.keep b0.o (WJ.refl _ _)) (oS A (by omega)) (fun k p=>(N0 k (r0.o.lt k p).2).trans (b1 k p)) (fun e he k p g e1 e2=>?_) G0.o.1 G0.o.2 (by omega)).mono ?_
     ·obtain⟨g',k1,_,cs,k3,_⟩:=HS.o.n.el e (by simpa using he) k p
      rw[k1]at e1;injection e1 with e1;injection e1 with e1;have:=(iA.1 k3).1;have:=(r0.o.lt g e2).1;omega
     ·rintro e w' ⟨he,H,P,es',⟨c',q1,q2⟩,q3,q4,q5⟩
      exact⟨he,⟨H,P,es',⟨c',O0.trans q1 P0.size,q2⟩,q3,q4⟩,P0.cls O0 q5 fun k p=>by revert p;simp;omega⟩
    clear g0 A h0 y1;go_wp2_with fail;refine HT.o.mono ?_;rintro e w7 ⟨rfl,h7,h8⟩;have H7:=Za (And.intro h7 h8);clear h7 h8 HT;go_wp2_with fail;go_ret;exact⟨rfl,H7.o⟩
