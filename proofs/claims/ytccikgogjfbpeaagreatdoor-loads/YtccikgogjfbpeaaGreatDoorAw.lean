import Derived.Test.YtccikgogjfbpeaaGreatDoorAv
import Derived.Test.YtccikgogjfbpeaaGreatDoorCards
import Derived.ProofKit
import Derived.Carry
import Derived.Deep.Slices
import Derived.Deep.DeepHandedRow
import Derived.Deep.DeepWitnessRowRef
import Derived.Stop.LaidErr
import Derived.Lay
import Derived.JoinedCond
open Option renaming none->I,some->V
open Go.Proofs.Tryz renaming prog->J
open Go.Value renaming string->Y,slice->Z,pointer->U,int->E,bool->M,oneCell'->z9,string->y6,pointer->y8,agg->x4,slice->x8
open Go.IntKind renaming i64->O
open Go.Ending renaming returned->H
open Go.RowKit renaming Hid->B
open Go.AllReadyH renaming nil->D
open Nat renaming le_refl->G,zero_le->y4,zero_add->y9,le_of_eq->x5,le_trans->x6
open Go renaming Calls->N,World->x9
open Go.Obj renaming cells->C
open Or renaming inr->F,inl->y5
open List renaming getElem?_map->y3,append_nil->x3
namespace Go.Proofs.YtccikgogjfbpeaaGreatDoor
set_option maxRecDepth 30000
set_option maxHeartbeats 8000000
open Go.RowKit
theorem Ic (c w L v nv ov mv kv b0 xs es fs X k on s)(p:WF)(da dl dc up)(h:RF c w L v nv ov mv kv b0 xs es fs)(hx:K7 c w X)(hd:Yf w da dl)(hs:p.pan.size<=maxLen)(hc:b0<=4611686018427387904)(hE:(es.length+4)*24<=140737488355328)(hN:(dl.length+6)*16<=140737488355328):
  N J 46 #[U (V ⟨L,0,I⟩),U (V ⟨X,0,I⟩),Dl k on s p.pan p.mcc p.am p.cur da dl.length dc up] w fun e w'=>e=H (M true)/\(∃c0 d0 es',O0 w c w' L v c0 ov d0 kv (b0+1) xs es' fs/\es'.length=es.length+4/\∀e,e∈es'->e∈es\/e.n<=8796093022208)/\SK [1,3,4,7] c w w':=by
 obtain⟨ij,h1,i1,j1,l1⟩:=info_parts TH;have HS:=Za h;have HX:=Za hx;have HD:B (Yf w da dl):=hd;have HB:B (b0<=4611686018427387904/\(es.length+4)*24<=140737488355328/\(dl.length+6)*16<=140737488355328/\p.pan.size<=maxLen):=⟨hc,hE,hN,hs⟩;have m1:L<w.heap.size:=(iA.1 h.bx).1;obtain⟨a,x0⟩:∃a,dl.length=a:=⟨_,rfl⟩;have r:B (dl.length=a):=x0
 have C1:a<=8796093022202:=by omega
 obtain⟨r0,e0⟩:=VA w (Sk k on s p.pan p.mcc p.am p.cur da a dc up);unfold Sk at r0 e0;unfold Dl;rw[x0];clear h hx hd hs hc hE hN x0;go_enter Tryz.func46,Tryz.ntmps46;go_upto_region 1 with fail;generalize w.alloc _=W0 at*;obtain⟨P,hP⟩:∃P,w.heap.size=P:=⟨_,rfl⟩;have L0:B (w.heap.size=P/\L<P):=⟨hP,by omega⟩;rw[hP]at e0;rw[hP];have x7:W0.cell? ⟨P,7,I⟩=V (Z da a dc):=bC e0.o 7 _ rfl;have t0:=run_make (P:=J) W0 28 9 ij _ Tryz.underlying28 h1 i1 O O ((a:Int)+2) ((a:Int)+2) (by omega) (by omega) (by rw[l1];omega) (by omega);rw[show((a:Int)+2).toNat=a+2 from by omega,j1,Nat.mul_one]at t0
 have D1:(a:Int)<=8796093022202:=by omega
 obtain⟨z,f0⟩:∃z,(madeCells (y6 ByteArray.empty).cells (a+2)).toList=z:=⟨_,rfl⟩
 have y0:B (z.length=a+2):=by show _=_;rw[<-f0,Array.length_toList,size_madeCells]
 rw[show madeCells (y6 ByteArray.empty).cells (a+2)=z.toArray from by rw[<-f0,Array.toArray_toList]]at t0;obtain⟨A,hA⟩:∃A,W0.heap.size=A:=⟨_,rfl⟩;have HA:B (W0.heap.size=A):=hA
 have v0:B ((W0.alloc (C z.toArray 9)).heap[A]?=V (C z.toArray 9)):=by rw[<-hA];exact aN W0 _
 have a0:B (Below A W0 (W0.alloc (C z.toArray 9))):=(Below.refl _ _).alloc (x5 hA.symm) _
 have z0:P<A:=by rw[<-hA];exact(iA.1 e0.o).1
 have M0:B (P<A):=z0;rw[hA]at t0;generalize W0.alloc _=W1 at*;have y7:W1.cell? ⟨P,7,I⟩=V (Z da a dc):=bC ((a0.o.block P z0).trans e0.o) 7 _ rfl;clear hP hA f0 m1 z0
 obtain⟨W2,n1,N0,P0⟩:∃W2,(Builtin.copy_ #[28,28] 3 #[Z (V ⟨A,0,I⟩) (a+2) (a+2),Z da a dc]).run J W1=.ok (goInt a) W2/\W2.heap[A]?=V (C (splice z 0 (dl.map y6)).toArray 9)/\Below A W0 W2:=by
  have w0:Nat.min a (a+2)=a:=Nat.min_eq_left (by omega);by_cases h0:a=0
  ·have t1:dl=[]:=List.eq_nil_of_length_eq_zero (r.o.trans h0)
   refine⟨W1,?_,?_,a0.o⟩
   ·rw[run_copy_none (P:=J) W1 28 28 3 9 _ _ _ _ _ _ Tryz.underlying28 (by kernel_rfl) (by rw[w0];exact h0),h0]
    rfl
   rw[t1,v0.o]
   simp[splice]
  obtain⟨g,o,e1,_⟩:=HD.o 0 _ (gE (by have:=r.o;omega))
  subst e1
  have A0:(dl.map y6).length=a:=by rw[List.length_map,r.o]
  have hr:=run_copy_row (P:=J) W1 28 28 3 9 A 0 (a+2) (a+2) ⟨g,o,I⟩ a dc z.toArray 9 (dl.map y6) Tryz.underlying28 (by kernel_rfl) v0.o (by rw[w0];exact A0) (fun j v hj=>?_) (by rw[A0];have:=y0.o;simp;omega) (fun v hv=>by obtain⟨s',_,rfl⟩:=List.mem_map.1 hv;rfl)
  ·rw[A0]at hr
   refine⟨_,hr,?_,below_setRow a0.o (G _) _⟩;rw[setRow_heap _ _ _ _ _ _ v0.o];simp[splice,r.o]
  rw[y3]at hj
  cases hd:dl[j]? with
  |none=>rw[hd]at hj;cases hj
  |some s'=>
   rw[hd]at hj;injection hj with hj;subst hj;obtain⟨g',o',e2,e3⟩:=HD.o j _ hd;injection e2 with e2;injection e2 with e2 e4 _;subst e2 e4;rw[TS];have f1:=(r0.o.cell (p:=⟨g,o+j,I⟩) (bL w _ e3) (by simp)).trans e3;have E1:g<W0.heap.size:=bL W0 _ f1;exact(a0.o.cell (p:=⟨g,o+j,I⟩) (by have:=HA.o;show g<A;omega)).trans f1
 obtain⟨B0,⟨u4,Q0⟩,R0,⟨u5,S0⟩,l⟩:=Ln.lay N0 (by rw[r.o,y0.o]);rw[r.o]at B0 Q0 R0 S0 l;have C0:F0 W0 ((W2.setCell ⟨A,a,I⟩ (Y ⟨#[98,101,104,105,110,100]⟩)).setCell ⟨A,a+1,I⟩ (Y ⟨#[105,116]⟩)):=((Fr.of_below (by rw[HA.o];exact P0)).setCell (p:=⟨A,a,I⟩) (F (by have:=HA.o;show _<=A;omega)) _).setCell (p:=⟨A,a+1,I⟩) (F (by have:=HA.o;show _<=A;omega)) _;have g0:B (Ln ((W2.setCell ⟨A,a,I⟩ (Y ⟨#[98,101,104,105,110,100]⟩)).setCell ⟨A,a+1,I⟩ (Y ⟨#[105,116]⟩)) A dl):=B0;have i0:B (F0 w ((W2.setCell ⟨A,a,I⟩ (Y ⟨#[98,101,104,105,110,100]⟩)).setCell ⟨A,a+1,I⟩ (Y ⟨#[105,116]⟩))):=r0.o.trans C0;have v1:B (((W2.setCell ⟨A,a,I⟩ (Y ⟨#[98,101,104,105,110,100]⟩)).setCell ⟨A,a+1,I⟩ (Y ⟨#[105,116]⟩)).heap[P]?=V (C #[E O k,E O on,Y s,Y p.pan,E O p.mcc,E O p.am,E O p.cur,Z da a dc,M up] 62)):=C0.whole e0.o (by simp);clear B0 C0 P0 N0 v0 a0 e0 r0 y0;go_upto_region 6 with fail;clear x7 y7 Q0 R0 S0 l t0 n1;generalize(W2.setCell ⟨A,a,I⟩ (Y ⟨#[98,101,104,105,110,100]⟩)).setCell ⟨A,a+1,I⟩ (Y ⟨#[105,116]⟩)=t at*;clear u4 u5 W1 W2;obtain⟨T,q,T0,D0,E0,V0,X0⟩:=HX.o.both p HB.o.2.2.2 i0.o;obtain⟨b,j0⟩:∃b,T0 dl=b:=⟨_,rfl⟩
 have Y0:B (∀W,F0 t W->W.cell? ⟨A,a,I⟩=V (Y ⟨#[98,101,104,105,110,100]⟩)/\W.cell? ⟨A,a+1,I⟩=V (Y ⟨#[105,116]⟩)):=fun W hf=>by
  obtain⟨cs,c1,c2,c3,c4,c5⟩:=g0.o.fr hf (by simp);rw[r.o]at c4 c5;exact⟨bC c1 _ _ c4,bC c1 _ _ c5⟩
 have w1:B (∀W,F0 t W->∀(i:Nat),i<a->∃s g o,da=V ⟨g,o,I⟩/\W.cell? ⟨g,o+i,I⟩=V (Y s)/\W.cell? ⟨A,i,I⟩=V (Y s)):=fun W hf i hi=>by
  have x1:i<dl.length:=by have:=r.o;omega
  have hg:=gE x1;obtain⟨g,o,e1,e2⟩:=(HD.o.fr (i0.o.trans hf) (by simp)) i _ hg;obtain⟨cs,c1,c2,c3,_⟩:=g0.o.fr hf (by simp);exact⟨_,g,o,e1,e2,bC c1 _ _ (c3 i _ hg)⟩
 have K:B (∀W,F0 t W->W.cell? ⟨X,0,I⟩=V (U (V ⟨T,0,I⟩))/\W.cell? ⟨X,1,I⟩=V (U (V ⟨q,0,I⟩))/\W.cell? ⟨P,3,I⟩=V (Y p.pan)/\W.cell? ⟨P,4,I⟩=V (E O p.mcc)/\W.cell? ⟨P,5,I⟩=V (E O p.am)/\W.cell? ⟨P,6,I⟩=V (E O p.cur)/\W.cell? ⟨P,7,I⟩=V (Z da a dc)):=fun W hf=>by
  have e:=hf.whole v1.o (by simp);exact⟨(hf.cell (p:=⟨X,0,I⟩) (bL t _ D0) (by simp)).trans D0,(hf.cell (p:=⟨X,1,I⟩) (bL t _ E0) (by simp)).trans E0,bC e 3 _ rfl,bC e 4 _ rfl,bC e 5 _ rfl,bC e 6 _ rfl,bC e 7 _ rfl⟩
 have G0:B (∀W,F0 t W->N J 19 #[U (V ⟨T,0,I⟩),x4 #[Y p.pan,E O p.mcc,E O p.am,E O p.cur],Z (V ⟨A,0,I⟩) a (a+2)] W fun e w'=>e=H (x4 #[E O (b.1:Nat),Y b.2.1,Y b.2.2])/\F0 W w'):=fun W hf=>by
  have e:=V0 W (V ⟨A,0,I⟩) (a+2) dl hf (g0.o.fr hf (by simp)).strs (by have:=r.o;unfold maxLen;omega);rw[j0,r.o]at e;exact e
 have y1:B (∀W,F0 t W->N J 56 #[U (V ⟨q,0,I⟩),x4 #[Y p.pan,E O p.mcc,E O p.am,E O p.cur],Z da a dc] W fun e w'=>e=H (x4 #[E O (b.1:Nat),Y b.2.1,Y b.2.2])/\F0 W w'):=fun W hf=>by
  have e:=X0 W da dc dl hf (HD.o.fr (i0.o.trans hf) (by simp)) (by have:=r.o;unfold maxLen;omega);rw[j0,r.o]at e;exact e
 have H0:B (A<t.heap.size/\w.heap.size<=A):=by
  obtain⟨cs,c1,_⟩:=g0.o;exact⟨(iA.1 c1).1,by have:=M0.o;have:=L0.o.1;omega⟩
 clear D0 E0 V0 X0 j0 T0
 go_cut [9] (fun v wx=>∃Q,v=U (V ⟨Q,0,I⟩)/\B (F0 t wx/\t.heap.size<=Q/\wx.heap[Q]?=V (ua b)))
 case first=>
  refine wp_region_held_drew (S:=fun W=>W.cell? ⟨X,0,I⟩=V (U (V ⟨T,0,I⟩))/\W.cell? ⟨X,1,I⟩=V (U (V ⟨q,0,I⟩))/\W.cell? ⟨P,3,I⟩=V (Y p.pan)/\W.cell? ⟨P,4,I⟩=V (E O p.mcc)/\W.cell? ⟨P,5,I⟩=V (E O p.am)/\W.cell? ⟨P,6,I⟩=V (E O p.cur)/\W.cell? ⟨P,7,I⟩=V (Z da a dc)) (by kernel_rfl) (K.o _ (Fr.refl _ _).drew) (fun R=>?_);refine US 0 (v:=?v0z) ?y0z R ?r0z
  case y0z=>rintro w ⟨s0,s1,s3,s4,s5,s6,s7⟩;go_simp;first|with_reducible rfl|rw[if_pos (by omega)]
  try go_frame
  refine US 1 (v:=?v1z) ?y1z R ?r1z
  case y1z=>rintro w ⟨s0,s1,s3,s4,s5,s6,s7⟩;go_simp;first|with_reducible rfl|rw[if_pos (by omega)]
  try go_frame
  refine US 2 (v:=?v2z) ?y2z R ?r2z
  case y2z=>rintro w ⟨s0,s1,s3,s4,s5,s6,s7⟩;go_simp;first|with_reducible rfl|rw[if_pos (by omega)]
  try go_frame
  refine US 3 (v:=?v3z) ?y3z R ?r3z
  case y3z=>rintro w ⟨s0,s1,s3,s4,s5,s6,s7⟩;go_simp;first|with_reducible rfl|rw[if_pos (by omega)]
  try go_frame
  refine US 4 (v:=?v4z) ?y4z R ?r4z
  case y4z=>rintro w ⟨s0,s1,s3,s4,s5,s6,s7⟩;go_simp;first|with_reducible rfl|rw[if_pos (by omega)]
  try go_frame
  refine US 5 (v:=?v5z) ?y5z R ?r5z
  case y5z=>rintro w ⟨s0,s1,s3,s4,s5,s6,s7⟩;go_simp;first|with_reducible rfl|rw[if_pos (by omega)]
  try go_frame
  refine US 6 (v:=?v6z) ?y6z R ?r6z
  case y6z=>rintro w ⟨s0,s1,s3,s4,s5,s6,s7⟩;go_simp;first|with_reducible rfl|rw[if_pos (by omega)]
  try go_frame
  refine US 7 (v:=?v7z) ?y7z R ?r7z
  case y7z=>rintro w ⟨s0,s1,s3,s4,s5,s6,s7⟩;go_simp;first|with_reducible rfl|rw[if_pos (by omega)]
  try go_frame
  refine US 8 (v:=?v8z) ?y8z R ?r8z
  case y8z=>rintro w ⟨s0,s1,s3,s4,s5,s6,s7⟩;go_simp;first|with_reducible rfl|rw[if_pos (by omega)]
  try go_frame
  refine wpAnyH_ready (rs:=[9,10]) (by kernel_rfl) (by simp) ?_;refine Zb rfl (fun u f=>?_) ?_
  ·try rw[if_pos (by rfl)]
   go_simp;refine(G0.o _ ((Fr.refl _ _).drew)).mono ?_;rintro e y ⟨rfl,l⟩;have d:B (F0 t y):=((Fr.refl _ _).drew).trans l;clear l;refine f.out _ _ (K.o _ d.o) (fun R=>?_);clear f u
   try go_frame
   refine wpAnyH_ready (rs:=[10]) (by kernel_rfl) (by simp) ?_;refine Zb rfl (fun u f=>?_) D
   try rw[if_pos (by rfl)]
   go_simp;refine f.out _ _ (K.o _ (d.o.alloc _)) (fun R=>?_);clear f u
   try go_frame
   refine wpAnyH_ready (rs:=[11]) (by kernel_rfl) (by simp) ?_;refine Zb rfl (fun u f=>?_) D
   try rw[if_pos (by rfl)]
   refine wp_store_row 38 _ _ rfl y.heap.size #[E O (b.1:Nat),Y b.2.1,Y b.2.2] rfl rfl 38 _ (heap_alloc_new y _) (by kernel_rfl) rfl (by simp[z9]) ?_;refine f.out _ _ (K.o _ (Fr.setRow (d.o.alloc _) (F d.o.size) _)) (fun _=>?_);clear f u
   try go_frame
   refine wpAnyH_done (by kernel_rfl) ?_ _;go_wp2_with fail;go_meet;exact⟨y.heap.size,rfl,Fr.setRow (d.o.alloc _) (F d.o.size) _,d.o.size,setRow_heap _ y.heap.size _ _ _ _ (aN y _)⟩
  refine Zb rfl (fun u f=>?_) D
  try rw[if_pos (by rfl)]
  go_simp;refine f.out _ _ (K.o _ (((Fr.refl _ _).drew).alloc _)) (fun R=>?_);clear f u
  try go_frame
  have k0:B (F0 t (t.drew.alloc (C #[E O 0,Y ⟨#[]⟩,Y ⟨#[]⟩] 38))):=((Fr.refl _ _).drew).alloc _;have I0:B ((t.drew.alloc (C #[E O 0,Y ⟨#[]⟩,Y ⟨#[]⟩] 38)).heap[t.heap.size]?=V (C #[E O 0,Y ⟨#[]⟩,Y ⟨#[]⟩] 38)):=aN t.drew _;refine wpAnyH_ready (rs:=[9]) (by kernel_rfl) (by simp) ?_;refine Zb rfl (fun u f=>?_) D
  try rw[if_pos (by rfl)]
  go_simp;refine(G0.o _ k0.o).mono ?_;rintro e y ⟨rfl,l⟩;have d:B (F0 t y):=k0.o.trans l;have l0:B (y.heap[t.heap.size]?=V (C #[E O 0,Y ⟨#[]⟩,Y ⟨#[]⟩] 38)):=l.whole I0.o (by simp);clear l;refine f.out _ _ (K.o _ d.o) (fun R=>?_);clear f u
  try go_frame
  refine wpAnyH_ready (rs:=[11]) (by kernel_rfl) (by simp) ?_;refine Zb rfl (fun u f=>?_) D
  try rw[if_pos (by rfl)]
  refine wp_store_row 38 _ _ rfl t.heap.size #[E O (b.1:Nat),Y b.2.1,Y b.2.2] rfl rfl 38 _ l0.o (by kernel_rfl) rfl (by simp[z9]) ?_;refine f.out _ _ (K.o _ (Fr.setRow d.o (F (G _)) _)) (fun _=>?_);clear f u
  try go_frame
  refine wpAnyH_done (by kernel_rfl) ?_ _;go_wp2_with fail;go_meet;exact⟨t.heap.size,rfl,Fr.setRow d.o (F (G _)) _,G _,setRow_heap y t.heap.size _ _ _ _ l0.o⟩
 obtain⟨Q1,rfl,HQ⟩:=hcut;generalize wc=W4 at*;obtain⟨h7,h8⟩:=Y0.o W4 HQ.o.1;have HW:B (F0 t W4):=HQ.o.1;have Z0:B (t.heap.size<=Q1/\W4.heap[Q1]?=V (ua b)):=HQ.o.2
 have k1:(a:Int)<(a:Int)+2:=by omega
 have k2:(a:Int)+1<(a:Int)+2:=by omega
 clear HQ G0 Y0;go_wp2_with fail;clear h7 h8 k1 k2
 go_loopg [10,11] a (fun m bv kv wr=>∃i,i<=a/\m=a-i/\bv=M true/\kv=E O (i:Nat)/\B (F0 W4 wr))
 case atStart=>exact⟨0,y4 _,rfl,rfl,rfl,Fr.refl _ _⟩
 obtain⟨i,hi,rfl,rfl,rfl,m0⟩:=hrel;by_cases z1:i<a
 ·have A1:(i:Int)<(a:Int):=by omega
  have F1:(i:Int)<(a:Int)+2:=by omega
  obtain⟨sx,g,o,rfl,r1,r2⟩:=w1.o wr (HW.o.trans m0.o) i z1;obtain⟨_,_,_,_,_,_,r7⟩:=K.o wr (HW.o.trans m0.o);go_upto_region 11 with fail
  go_quiet (fail)
  have B1:B (F0 W4 (wr.drewN nq)):=m0.o.trans ⟨rfl,rfl,rfl,G _,fun _ _ _=>rfl⟩;go_wp2_with fail;go_roundg (a-(i+1))
  case measure=>omega
  exact⟨i+1,by omega,rfl,rfl,by go_num,B1⟩
 have A1:¬(i:Int)<(a:Int):=by omega
 have n0:=Za (HW.o.trans m0.o)
 have x:B (∀W,F0 wr W->W.cell? ⟨X,0,I⟩=V (U (V ⟨T,0,I⟩))/\W.cell? ⟨X,1,I⟩=V (U (V ⟨q,0,I⟩))/\W.cell? ⟨P,3,I⟩=V (Y p.pan)/\W.cell? ⟨P,4,I⟩=V (E O p.mcc)/\W.cell? ⟨P,5,I⟩=V (E O p.am)/\W.cell? ⟨P,6,I⟩=V (E O p.cur)/\W.cell? ⟨P,7,I⟩=V (Z da a dc)):=fun W hf=>K.o W (n0.o.trans hf)
 have a1:B (∀W,F0 wr W->N J 56 #[U (V ⟨q,0,I⟩),x4 #[Y p.pan,E O p.mcc,E O p.am,E O p.cur],Z da a dc] W fun e w'=>e=H (x4 #[E O (b.1:Nat),Y b.2.1,Y b.2.2])/\F0 W w'):=fun W hf=>y1.o W (n0.o.trans hf)
 go_upto_region 12 with fail
 go_cut [12] (fun v wx=>∃Q,v=U (V ⟨Q,0,I⟩)/\B (F0 wr wx/\wr.heap.size<=Q/\wx.heap[Q]?=V (ua b)))
 case first=>
  refine wp_region_held_drew (S:=fun W=>W.cell? ⟨X,0,I⟩=V (U (V ⟨T,0,I⟩))/\W.cell? ⟨X,1,I⟩=V (U (V ⟨q,0,I⟩))/\W.cell? ⟨P,3,I⟩=V (Y p.pan)/\W.cell? ⟨P,4,I⟩=V (E O p.mcc)/\W.cell? ⟨P,5,I⟩=V (E O p.am)/\W.cell? ⟨P,6,I⟩=V (E O p.cur)/\W.cell? ⟨P,7,I⟩=V (Z da a dc)) (by kernel_rfl) (x.o _ (Fr.refl _ _).drew) (fun R=>?_)
  iterate 8 (refine YP 0 R ?_;try go_frame)
  refine wpAnyH_ready (rs:=[8,9]) (by kernel_rfl) (by simp) ?_;refine Zb rfl (fun u f=>?_) ?_
  ·try rw[if_pos (by rfl)]
   go_simp;refine(a1.o _ ((Fr.refl _ _).drew)).mono ?_;rintro e y ⟨rfl,l⟩;have d:B (F0 wr y):=((Fr.refl _ _).drew).trans l;clear l;refine f.out _ _ (x.o _ d.o) (fun R=>?_);clear f u
   try go_frame
   refine wpAnyH_ready (rs:=[9]) (by kernel_rfl) (by simp) ?_;refine Zb rfl (fun u f=>?_) D
   try rw[if_pos (by rfl)]
   go_simp;refine f.out _ _ (x.o _ (d.o.alloc _)) (fun R=>?_);clear f u
   try go_frame
   refine wpAnyH_ready (rs:=[10]) (by kernel_rfl) (by simp) ?_;refine Zb rfl (fun u f=>?_) D
   try rw[if_pos (by rfl)]
   refine wp_store_row 38 _ _ rfl y.heap.size #[E O (b.1:Nat),Y b.2.1,Y b.2.2] rfl rfl 38 _ (heap_alloc_new y _) (by kernel_rfl) rfl (by simp[z9]) ?_;refine f.out _ _ (x.o _ (Fr.setRow (d.o.alloc _) (F d.o.size) _)) (fun _=>?_);clear f u
   try go_frame
   refine wpAnyH_done (by kernel_rfl) ?_ _;go_wp2_with fail;go_meet;exact⟨y.heap.size,rfl,Fr.setRow (d.o.alloc _) (F d.o.size) _,d.o.size,setRow_heap _ y.heap.size _ _ _ _ (aN y _)⟩
  refine Zb rfl (fun u f=>?_) D
  try rw[if_pos (by rfl)]
  go_simp;refine f.out _ _ (x.o _ (((Fr.refl _ _).drew).alloc _)) (fun R=>?_);clear f u
  try go_frame
  have k0:B (F0 wr (wr.drew.alloc (C #[E O 0,Y ⟨#[]⟩,Y ⟨#[]⟩] 38))):=((Fr.refl _ _).drew).alloc _;have I0:B ((wr.drew.alloc (C #[E O 0,Y ⟨#[]⟩,Y ⟨#[]⟩] 38)).heap[wr.heap.size]?=V (C #[E O 0,Y ⟨#[]⟩,Y ⟨#[]⟩] 38)):=aN wr.drew _;refine wpAnyH_ready (rs:=[8]) (by kernel_rfl) (by simp) ?_;refine Zb rfl (fun u f=>?_) D
  try rw[if_pos (by rfl)]
  go_simp;refine(a1.o _ k0.o).mono ?_;rintro e y ⟨rfl,l⟩;have d:B (F0 wr y):=k0.o.trans l;have l0:B (y.heap[wr.heap.size]?=V (C #[E O 0,Y ⟨#[]⟩,Y ⟨#[]⟩] 38)):=l.whole I0.o (by simp);clear l;refine f.out _ _ (x.o _ d.o) (fun R=>?_);clear f u
  try go_frame
  refine wpAnyH_ready (rs:=[10]) (by kernel_rfl) (by simp) ?_;refine Zb rfl (fun u f=>?_) D
  try rw[if_pos (by rfl)]
  refine wp_store_row 38 _ _ rfl wr.heap.size #[E O (b.1:Nat),Y b.2.1,Y b.2.2] rfl rfl 38 _ l0.o (by kernel_rfl) rfl (by simp[z9]) ?_;refine f.out _ _ (x.o _ (Fr.setRow d.o (F (G _)) _)) (fun _=>?_);clear f u
  try go_frame
  refine wpAnyH_done (by kernel_rfl) ?_ _;go_wp2_with fail;go_meet;exact⟨wr.heap.size,rfl,Fr.setRow d.o (F (G _)) _,G _,setRow_heap y wr.heap.size _ _ _ _ l0.o⟩
 obtain⟨Q2,rfl,HQ⟩:=hcut;have J0:=Za ((i0.o.trans n0.o).trans HQ.o.1)
 obtain⟨c1,d1⟩:∃c1:Nat->Nat,c1=fun k=>if k=A then 7 else if w.heap.size<=k then 0 else c k:=⟨_,rfl⟩
 have o0:B (Wz w c c1/\c1 A=7/\∀k,w.heap.size<=k->k≠A->c1 k=0):=by
  subst d1;refine⟨fun k hk=>?_,if_pos rfl,fun k hk hn=>?_⟩
  ·have:=H0.o.2
   dsimp only
   rw[if_neg (by omega),if_neg (by omega)]
  dsimp only
  rw[if_neg hn,if_pos hk]
 clear d1
 have HT:B (N J 84 #[U (V ⟨L,0,I⟩),Z (V ⟨A,0,I⟩) (a+2) (a+2)] wc fun e w'=>e=H (.tuple #[])/\∃c0 d0 es',O0 wc c1 w' L v c0 ov d0 kv (b0+1) xs es' fs/\es'.length=es.length+4/\(∀e,e∈es'->e∈es\/e.n<=8796093022208)/\SK [1,3,4,7] c1 wc w'):=by
  obtain⟨b1,b2,b3,b4⟩:=HB.o;obtain⟨ys,g1⟩:=(g0.o.fr (n0.o.trans HQ.o.1) (by simp)).row (L:=L) (by have:=M0.o;have:=L0.o.2;omega) (by have:=r.o;unfold maxLen;omega);rw[r.o]at g1;refine Lk c1 wc L v nv ov mv kv b0 xs es fs (V ⟨A,0,I⟩) (a+2) (a+2) ys (HS.o.keep J0.o o0.o.1) g1 (P1 o0.o.2.1) (fun e he k hk g e1 e2=>?_) b1 b2 (by have:=r.o;omega);obtain⟨g',k1,_,cs,k3,_⟩:=HS.o.n.el e (by simpa using he) k hk;rw[k1]at e1;injection e1 with e1;injection e1 with e1
  have:A=g:=by simpa[Value.ownBlock]using e2
  have:=(iA.1 k3).1;have:=H0.o.2;omega
 go_upto_region 13 with fail;go_wp2_with fail;refine HT.o.mono ?_;rintro e w7 ⟨rfl,c0,d0,es',⟨c7,a7,h7⟩,l7,m7,h9⟩;have H7:B ((∃c0 d0 es',O0 w c w7 L v c0 ov d0 kv (b0+1) xs es' fs/\es'.length=es.length+4/\∀e,e∈es'->e∈es\/e.n<=8796093022208)/\SK [1,3,4,7] c w w7):=⟨⟨c0,d0,es',⟨c7,o0.o.1.trans a7 J0.o.size,h7⟩,l7,m7⟩,SK.cls (J0.o.mono (by simp)) o0.o.1 h9 fun i hi=>hi⟩
 have K0:∀Q,t.heap.size<=Q->¬c1 Q∈[1,3,4,7]:=by
  intro Q hQ;rw[o0.o.2.2 Q (by have:=i0.o.size;omega) (by have:=H0.o.1;omega)]
  decide
 have o1:=h9.whole (HQ.o.1.whole (m0.o.whole Z0.o.2 (by simp)) (by simp)) (K0 Q1 Z0.o.1);have o2:=h9.whole HQ.o.2.2 (K0 Q2 (x6 n0.o.size HQ.o.2.1));have p0:w7.cell? ⟨Q1,0,I⟩=V (E O (b.1:Nat)):=bC o1 0 _ rfl;have p1:w7.cell? ⟨Q1,1,I⟩=V (Y b.2.1):=bC o1 1 _ rfl;have p2:w7.cell? ⟨Q1,2,I⟩=V (Y b.2.2):=bC o1 2 _ rfl;have q0:w7.cell? ⟨Q2,0,I⟩=V (E O (b.1:Nat)):=bC o2 0 _ rfl;have q1:w7.cell? ⟨Q2,1,I⟩=V (Y b.2.1):=bC o2 1 _ rfl;have q2:w7.cell? ⟨Q2,2,I⟩=V (Y b.2.2):=bC o2 2 _ rfl;clear h7 a7 l7 m7 h9 K0 o1 o2 HT;go_wp2_with fail;go_ret;exact⟨rfl,H7.o⟩
theorem EQ (c w L v nv ov mv kv x O es fs X)(h:RF c w L v nv ov mv kv x O es fs)(hX:X∈O)(a:LU w):
  N J 49 #[U (V ⟨L,0,I⟩),U (V ⟨X,0,I⟩)] w fun e w'=>e=H (M true)/\(∃v' y,O0 w c w' L v' nv ov mv kv x y es fs)/\SK [1,2] c w w':=by
 obtain⟨ii,hi,n0,o0,p0⟩:=info_parts TW;obtain⟨T,q,rts,R,lo,q0,I0,J0,l,hx,L0,_,r0,_,Q⟩:=(h.tb X hX).now;have P:=Za h;have HB:=Za l;have HX:=Za hx;have s0:=Za Q;have t0:=Za hX
 have v0:B (X≠L):=fun e=>by have u:=(h.tb X hX).cx;rw[e,h.bc]at u;cases u
 have HH:=Za a
 have HI:B (∀W,F0 w W->N J 23 #[U (V ⟨T,0,I⟩)] W fun e w'=>e=H (Y (GR rts R))/\F0 W w'):=fun W hf=>(r0 W (hf.mono)).1.image l (a.fr hf)
 have w0:=Za l.load
 have M0:(GR rts R).size<=200000:=by
  have e:(GR rts R).size=(WW (XH (Wh rts R))).length:=by simp[GR,ByteArray.size]
  have:=(Ia l.bk l.ar l.im).2;rw[e,KV];omega
 have x0:=Zc hx 0;go_enter Tryz.func49,Tryz.ntmps49;go_wp2_with fail;refine(HI.o w Zt).mono ?_;rintro e w1 ⟨rfl,a0⟩;have x0:=bC (a0.whole HX.o) 0 _ rfl;have b0:=Za a0;go_wp2_with fail;refine(HI.o w1 b0.o).mono ?_;rintro e w2 ⟨rfl,y0⟩;have z:=Za (b0.o.trans y0);go_wp2_with fail;refine(zY (GR rts R) w2 (by omega) (HH.o.fr z.o)).mono ?_;intro e w3 hT;rw[w0.o]at hT;obtain⟨⟨T',Bb,zb,TT,ra,rc,rfl,l1,l2,l3,l4,l5,l6,l7,l8⟩,z0⟩:=hT;have f0:B (GP w3 w2.heap.size T' rts R true):=⟨Bb,TT,l7,l1,l2,l8,l3,zb,ra,rc,l4,l5,by omega⟩;have g0:=Za (z.o.trans z0);have HI:=Za ((f0.o.tq HB.o).image HB.o (HH.o.fr g0.o));generalize GR rts R=S at*
 have N0:¬(200000:Int)<(S.size:Int):=by omega
 go_wp2_with fail;refine HI.o.mono ?_;rintro e j ⟨rfl,h0⟩;have g:=Za (g0.o.trans h0);have i0:=Za h0;obtain⟨va,vc,hv⟩:=oL P.o.tv;subst hv;have A:=Za (P.o.keep g.o.drew (Wz.refl _ _));have c0:=bC (g.o.whole P.o.bx) 0 _ rfl;have x1:=bC (g.o.whole HX.o) 1 _ rfl;obtain⟨n,hn⟩:∃n,O.length=n:=⟨_,rfl⟩;have HN:=Za hn;rw[hn]at c0 A
 have K0:n<=20:=by have:=A.o.few;omega
 have P0:=(iA.1 P.o.bx).1
 have Q0:L+1<=j.heap.size:=by have:=g.o.size;omega
 by_cases A0:n<20
 ·have j0:(n:Int)<20:=by omega
  have B0:B (∀g2 b r,((j.drew.alloc (C #[U (V ⟨T',0,I⟩),U (V ⟨q,0,I⟩),M true,M false,Z I 0 0,Z I 0 0] 97)).alloc (C #[U (V ⟨j.heap.size,0,I⟩)] 93)).grownBy r (x8 va n vc).ownBlock->r.ownsRow (L+1) 93 1 (Z (V ⟨g2,0,I⟩) (n+1) b) (n+1) ((O.map fun X=>y8 (V ⟨X,0,I⟩))++[U (V ⟨j.heap.size,0,I⟩)])->((x8 va n vc).ownBlock=V g2\/j.heap.size+1<=g2)->
    r.cell? ⟨L,0,I⟩=V (Z va n vc)/\r.cell? ⟨X,1,I⟩=V (U (V ⟨q,0,I⟩))/\(∀o,r.frozen? ⟨L,o,I⟩=false)/\B ((∃v' y,O0 w c (r.setCell ⟨L,0,I⟩ (Z (V ⟨g2,0,I⟩) (n+1) b)) L v' nv ov mv kv x y es fs)/\SK [1,2] c w (r.setCell ⟨L,0,I⟩ (Z (V ⟨g2,0,I⟩) (n+1) b)))):=by
   intro g2 b r f m s;have hn:=HN.o;subst hn;obtain⟨k0,C0⟩:=Lt j.drew (C #[U (V ⟨T',0,I⟩),U (V ⟨q,0,I⟩),M true,M false,Z I 0 0,Z I 0 0] 97);have p:=g.o.drew.trans k0
   have t:Wz w c fun k=>if k=j.heap.size then 9 else if w.heap.size<=k then 0 else c k:=fun k hk=>by
    have:=g.o.size
    dsimp only
    rw[if_neg (by omega),if_neg (by omega)]
   have hT:=s0.o _ _ w3 w2.heap.size j.heap.size T' p t f0.o ⟨(i0.o.drew.trans k0).mono,fun k h1 h2=>by
    have:=z.o.size;have:=i0.o.size
    dsimp only
    rw[if_neg (by omega),if_pos (by omega)]⟩ (if_pos rfl) C0
   have E:=P.o.keep p t;obtain⟨u,c',D0,l0,E0⟩:=E.more hT f m (s.imp id fun h=>by simpa using h) A0;have e2:=(Po E.tc f (s.imp id fun h=>by simpa using h));obtain⟨_,_,_,G0⟩:=e2
   refine⟨Zc u 0,bC (G0.whole (p.whole HX.o) (fun e=>by
    have:=E.tb X t0.o;rw[this.cx]at e
    cases e)) 1 _ rfl,bF u,⟨_,_,c',t.trans D0 p.size,l0⟩,SK.cls (p.mono) t E0 fun i hi=>hi⟩
  have H0:B (j.drew.ownsRow (L+1) 93 1 (Z va n vc) n (O.map fun X=>y8 (V ⟨X,0,I⟩))):=by have e:=A.o.tv;rw[HN.o]at e;exact e
  go_upto_region 8 with fail
  have d0:=fun o=>(Lt j o).1.get c0
  have d1:=fun o o'=>(Ih j o o').1.get c0
  have F:=fun o=>(Lt j o).1.get x1
  have y2:=fun o o'=>(Ih j o o').1.get x1
  refine wp_region_held_drew (S:=fun W=>W.cell? ⟨X,1,I⟩=V (U (V ⟨q,0,I⟩))) (by kernel_rfl) x1 (fun a=>?_)
  iterate 4 (refine YP 0 a ?_;try go_frame)
  iterate 4 (refine YP 1 a ?_;try go_frame)
  refine XC [4,9] ?_;refine Zb rfl (fun K d=>?_) (Zb rfl (fun K d=>?_) D)
  all_goals
   rw[if_pos (by rfl)];go_simp;refine d.out _ _ (by first|exact a|exact F _|exact y2 _ _) (fun a=>?_)
   try go_frame
  focus
   refine Vy 9 (fun K d=>?_);go_simp;refine d.out _ _ (by first|exact a|exact F _|exact y2 _ _) (fun a=>?_)
   try go_frame
  all_goals
   refine ZY 10 a ?_
   try go_frame
  rotate_left
  focus
   refine XC [4,11] ?_;refine Zb rfl (fun K d=>?_) (Zb rfl (fun K d=>?_) D)
   all_goals
    rw[if_pos (by rfl)];go_simp;refine d.out _ _ (by first|exact a|exact F _|exact y2 _ _) (fun a=>?_)
    try go_frame
  rotate_left
  focus
   refine XC [4,12] ?_;refine Zb rfl (fun K d=>?_) (Zb rfl (fun K d=>?_) D)
   all_goals
    rw[if_pos (by rfl)];go_simp;refine d.out _ _ (by first|exact a|exact F _|exact y2 _ _) (fun a=>?_)
    try go_frame
  rotate_left 2
  iterate 2
   focus
    refine Vy 11 (fun K d=>?_);go_simp;refine d.out _ _ (by first|exact a|exact F _|exact y2 _ _) (fun a=>?_)
    try go_frame
   rotate_left
  rotate_left
  focus
   refine Vy 4 (fun K d=>?_);go_simp;refine d.out _ _ (by first|exact a|exact F _|exact y2 _ _) (fun a=>?_)
   try go_frame
  rotate_left
  iterate 3
   focus
    refine Vy 12 (fun K d=>?_);go_simp;refine d.out _ _ (by first|exact a|exact F _|exact y2 _ _) (fun a=>?_)
    try go_frame
   rotate_left
  all_goals
   refine XC [13] ?_;refine Zb rfl (fun K d=>?_) D;refine step_append_lies _ rfl (.tmp 53) (.tmp 61) 53 rfl (L+1) 93 ii _ 1 8 Tryz.underlying53 hi n0 o0 p0 rfl (by decide) (Z va n vc) n (O.map fun X=>y8 (V ⟨X,0,I⟩)) rfl (by exact(H0.o.alloc _).alloc _) ⟨j.heap.size+1,0,I⟩ 1 1 [U (V ⟨j.heap.size,0,I⟩)] rfl rfl (by exact World.news_of_block (Ih j _ _).2.2) (by simp[z9]) (by decide) (by unfold maxLen;omega) (by omega) (by simp;omega) _ rfl (fun g2 b r m f s _=>?_);obtain⟨e0,u,fz,m0⟩:=B0.o g2 b r f m (s.imp id fun h=>by first|omega|(rw[h];simp));refine d.out _ _ u (fun a=>?_)
   try go_frame
   refine ZY 14 a ?_
   try go_frame
   refine ZY 15 a ?_
   try go_frame
   refine Vy 16 (fun K d=>?_);go_simp;refine d.out _ _ (by rw[cO _ _ _ _ (by intro e;injection e with e;exact v0.o e.symm)];exact u) (fun _=>?_)
   try go_frame
   refine wpAnyH_done (by kernel_rfl) ?_ _;go_wp2;go_ret;exact⟨by simp,m0.o⟩
 have j0:¬(n:Int)<20:=by omega
 go_wp2;go_ret;exact⟨by simp,⟨_,_,c,Wz.refl _ _,P.o.keep g.o (Wz.refl _ _)⟩,g.o.mono⟩


def Ng (c:Nat->Nat)(w:x9)(L d:Nat)(es f:List Ie)(w':x9):Prop:=
 (∃v g h i j a l es' b,O0 w c w' L v g h i j a l es' b/\a<=d+1/\es'.length<=es.length+4/\b.length<=f.length+4/\(∀e,e∈es'->e∈es\/e.n<=8796093022208)/\∀e,e∈b->e∈f\/e.n<=8796093022208)/\Fr (fun k=>c k≠0) w w'
theorem Ng.of {c w W w' L d a es f es' b v i j l m o Q}(p:F0 w W)(h:O0 W c w' L v i j l m a o es' b)(q:a<=d+1)(r:es'.length<=es.length+4)(s:b.length<=f.length+4)(t:∀e,e∈es'->e∈es\/e.n<=8796093022208)(u:∀e,e∈b->e∈f\/e.n<=8796093022208)(x:SK Q c W w')(y:0∉Q):Ng c w L d es f w':=by
 obtain⟨z,A,B⟩:=h;exact⟨⟨v,i,j,l,m,a,o,es',b,⟨z,fun k g=>A k (nL g p.size),B⟩,q,r,s,t,u⟩,(p.mono).trans (x.mono fun k g e=>y (e▸g))⟩
theorem Ng.same {c w w' L a es d v f g i j k}(l:F0 w w')(h:RF c w' L v f g i j a k es d):Ng c w L a es d w':=
 Ng.of (Q:=[]) l ⟨c,Wz.refl _ _,h⟩ (by omega) (by omega) (by omega) (fun e b=>y5 b) (fun e b=>y5 b) Zt (by simp)
theorem L5 (c w L v j k l m a n es b q s d f r g t u x y)(h:RF c w L v j k l m a n es b):
  N J 26 #[U (V ⟨L,0,I⟩),Dl 1 q s d f r g t u x y] w fun e w'=>e=H (M true)/\Ng c w L a es b w':=by
 unfold Dl;have z:=Za h;go_enter Tryz.func26,Tryz.ntmps26;go_wp2_with fail;generalize A:w.alloc _=W at*;have p:B (F0 w W):=F2 A;refine(Qb c W L v j k l m a n es b s (z.o.keep p.o (Wz.refl _ _))).mono ?_;rintro e C ⟨rfl,⟨v',D,E⟩,F⟩;have G:B (Ng c w L a es b C):=Ng.of p.o E (by omega) (by omega) (by omega) (fun e i=>y5 i) (fun e i=>y5 i) F (by decide);go_wp2;go_ret;exact⟨rfl,G.o⟩
theorem ER (c w L r t u v a x es i y z k j s b d l f m n p q)(h:RF c w L (Z y 0 z) r t u v a x es i)(E:k<=6)(A:k≠1):
  N J 26 #[U (V ⟨L,0,I⟩),Dl k j s b d l f m n p q] w fun e w'=>e=H (M true)/\Ng c w L a es i w':=by
 have B:=Za h
 have F:(k==1)=false:=by simp;omega
 have G:(k==7)=false:=by simp;omega
 have K:(k==9)=false:=by simp;omega
 have C:(k==10)=false:=by simp;omega
 have g:=(VA w (Sk k j s b d l f m n p q)).1;have D:=bC (g.o.whole h.bx) 0 _ rfl;unfold Sk at g D;unfold Dl;go_enter Tryz.func26,Tryz.ntmps26;go_wp2;go_ret;exact⟨rfl,Ng.same g.o (B.o.keep g.o (Wz.refl _ _))⟩
theorem RF.pick {c w L v j l m n b a es o}(h:RF c w L v j l m n b a es o)(k)(f:k<a.length):∃g d X,v=Z (V ⟨g,0,I⟩) a.length d/\w.cell? ⟨g,k,I⟩=V (U (V ⟨X,0,I⟩))/\X∈a:=by
 obtain⟨g,d,e,p,q⟩:=h.tv.form (by omega);subst e;have i:=h.tv.cells (g:=g) rfl _ _ (show(a.map fun X=>y8 (V ⟨X,0,I⟩))[k]?=V (U (V ⟨a[k],0,I⟩)) by rw[y3,gE f];rfl);rw[TS,y9]at i;exact⟨g,d,a[k],rfl,i,List.getElem_mem f⟩
theorem ES (c w L v nv ov mv kv b R es z k l s f m S p K F dc up dl)(h:RF c w L v nv ov mv kv b R es z)(h0:0<R.length)(hk:k<=6)(H0:k≠1)(g0: -9223372036854775808<=l)(i0:l<=9223372036854775807)(ht:∀w',Fr (fun k=>L<=k) w w'->QS w'/\LU w')(j0:dl.length=F)(hd:Yf w K dl)(hs:f.size<=maxLen)(hc:b<=4611686018427387904)(hE:(es.length+4)*24<=140737488355328)(k0:(z.length+4)*24<=140737488355328)(hN:(F+6)*16<=140737488355328):
  N J 26 #[U (V ⟨L,0,I⟩),Dl k l s f m S p K F dc up] w fun e w'=>e=H (M true)/\Ng c w L b es z w':=by
 have e1:(k==1)=false:=by simp;omega
 have e7:(k==7)=false:=by simp;omega
 have e9:(k==9)=false:=by simp;omega
 have I0:(k==10)=false:=by simp;omega
 have HF:=(VA w (Sk k l s f m S p K F dc up)).1;have HT:=Za ht;have HL:=Za (h.keep HF.o (Wz.refl _ _));have hy:=aN w (Sk k l s f m S p K F dc up);have y0:=Zc hy 0;have y1:=Zc hy 1;have HY:=Za hy;have A:B (dl.length=F/\Yf w K dl/\f.size<=maxLen/\b<=4611686018427387904/\(es.length+4)*24<=140737488355328/\(z.length+4)*24<=140737488355328/\(F+6)*16<=140737488355328):=⟨j0,hd,hs,hc,hE,k0,hN⟩;unfold Sk at HF HL HY y0 y1;obtain⟨n,hn⟩:∃n,R.length=n:=⟨_,rfl⟩;have HN:=Za hn
 have a0:0<n:=by omega
 have D0:n<=20:=by have:=h.few;omega
 have hp:=AU l n a0
 have J0:(RP l n:Int)<(n:Int):=by omega
 have K0:((n:Int)==0)=false:=by simp;omega
 obtain⟨g,vc,X,hv,L0,l0⟩:=HL.o.pick (RP l n) (by omega);have D:=Za l0;subst hv;rw[hn]at HL;have c0:=Zc HL.o.bx 0
 have m0:B (∀W,N J 44 #[E O l,E O n] W fun e w'=>e=H (E O (RP l n))/\w'=W):=fun W=>AW l n W g0 i0 a0 (by omega)
 unfold Dl;go_enter Tryz.func26,Tryz.ntmps26;go_wp2_with fail
 go_quiet ((go_at_call 44;exact Calls.quiet_of_same (m0.o _)))
 have HD:B (F0 (w.alloc (C #[E O k,E O l,Y s,Y f,E O m,E O S,E O p,Z K F dc,M up] 62)) ((w.alloc (C #[E O k,E O l,Y s,Y f,E O m,E O S,E O p,Z K F dc,M up] 62)).drewN nq)):=⟨rfl,rfl,rfl,G _,fun _ _ _=>rfl⟩;have z0:=HD.o.get y0;have i:=Za (HL.o.keep HD.o (Wz.refl _ _));have j:=Za (HD.o.whole HY.o);have d:=Za (HF.o.trans HD.o);generalize(w.alloc _).drewN nq=W at*;by_cases n0:k=2
 ·subst n0
  obtain⟨T,q,rts,P,lo,o0,E0,G0,_,h2,_,_,p0,_⟩:=(i.o.tb X D.o).now;obtain⟨q0,a,body,h8⟩:=p0 W Zt;have b0:=Za (q0.text (HT.o W (d.o.mono)).1);obtain⟨tx,d0⟩:∃tx,ZR (if lo=true then[]else VI rts P)=tx:=⟨_,rfl⟩;rw[d0]at b0;have e0:=Za d0;have r0:=Za h8;have HX:=Za h2;have x0:=Zc h2 0;go_wp2_with fail;refine b0.o.mono ?_;rintro e w5 ⟨rfl,hf⟩;have f0:=Za hf;have x1:=bC (hf.whole HX.o) 1 _ rfl;have x2:=bC (hf.whole HX.o) 2 _ rfl
  have s0:B (N J 45 #[U (V ⟨q,0,I⟩)] w5 fun e w'=>e=H (Y (ZR (VI rts P)))/\w'=w5):=by
   have hr:=r0.o.fr hf;obtain⟨⟨a',c',k1,k2⟩,_,⟨k3,k4⟩,k5,_⟩:=hr;refine(CX w5 q a' c' body k1 (fun h=>by obtain⟨g',e,_,_,r⟩:=k2 h;exact⟨g',e,r⟩) k3 k4).mono ?_;rintro e w' ⟨⟨t,rfl,ht⟩,rfl⟩;refine⟨?_,rfl⟩;rw[<-k5]at ht
   have:t=ZR (VI rts P):=by
    unfold ZR;rw[<-ht]
   rw[this]
  go_wp2_with fail;refine s0.o.mono ?_;rintro e w6 ⟨rfl,hw⟩;replace hw:=hw.symm;subst hw
  cases lo
  case' true=>obtain rfl:tx=⟨#[]⟩:=e0.o.symm
  case' false=>obtain rfl:tx=ZR (VI rts P):=e0.o.symm
  all_goals
   go_wp2;go_ret;exact⟨rfl,Ng.same (d.o.trans f0.o) (i.o.keep f0.o (Wz.refl _ _))⟩
 by_cases t0:k=3
 ·subst t0
  have u:B (N J 46 #[U (V ⟨L,0,I⟩),U (V ⟨X,0,I⟩),x4 #[E O 3,E O l,Y s,Y f,E O m,E O S,E O p,Z K F dc,M up]] W fun e w'=>e=H (M true)/\Ng c w L b es z w'):=by
   obtain⟨d1,d2,d3,d4,d5,_,d6⟩:=A.o;have e:=Ic c W L (Z (V ⟨g,0,I⟩) n vc) nv ov mv kv b R es z X 3 l s ⟨f,m,S,p⟩ K dl dc up i.o (i.o.tb X D.o) (d2.fr d.o) d3 d4 d5 (by omega);rw[d1]at e;refine e.mono ?_;rintro e w' ⟨r1,⟨v0,w0,es',r2,r3,r4⟩,r5⟩;exact⟨r1,Ng.of d.o r2 (by omega) (by omega) (by omega) r4 (fun e Q=>y5 Q) r5 (by decide)⟩
  have z1:=Zc j.o 1;have z2:=Zc j.o 2;have z3:=Zc j.o 3;have z4:=Zc j.o 4;have z5:=Zc j.o 5;have z6:=Zc j.o 6;have z7:=Zc j.o 7;have z8:=Zc j.o 8;go_wp2_with fail;refine u.o.mono ?_;rintro e w5 ⟨rfl,x⟩;have y:=Za x;go_wp2;go_ret;exact⟨rfl,y.o⟩
 by_cases A0:k=4
 ·subst A0
  have u:B (N J 47 #[U (V ⟨L,0,I⟩),U (V ⟨X,0,I⟩)] W fun e w'=>e=H (M true)/\Ng c w L b es z w'):=(Ib c W L (Z (V ⟨g,0,I⟩) n vc) nv ov mv kv b R es z X i.o D.o (HT.o W (d.o.mono)).1 A.o.2.2.2.1 A.o.2.2.2.2.2.1).mono (by
   rintro e w' ⟨r1,⟨M0,N0,O0,r2,r3,r4⟩,r5⟩
   exact⟨r1,Ng.of d.o r2 (by omega) (by omega) (by omega) (fun e Q=>y5 Q) r4 r5 (by decide)⟩)
  go_wp2_with fail;refine u.o.mono ?_;rintro e w5 ⟨rfl,x⟩;have y:=Za x;go_wp2;go_ret;exact⟨rfl,y.o⟩
 by_cases B0:k=5
 ·subst B0
  have u:B (N J 48 #[U (V ⟨L,0,I⟩),U (V ⟨X,0,I⟩)] W fun e w'=>e=H (M true)/\Ng c w L b es z w'):=(GT c W L (Z (V ⟨g,0,I⟩) n vc) nv ov mv kv b R es z X i.o D.o A.o.2.2.2.1 A.o.2.2.2.2.1).mono (by
   rintro e w' ⟨r1,⟨v0,w0,es',r2,r3,r4⟩,r5⟩
   exact⟨r1,Ng.of d.o r2 (by omega) (by omega) (by omega) r4 (fun e Q=>y5 Q) r5 (by decide)⟩)
  go_wp2_with fail;refine u.o.mono ?_;rintro e w5 ⟨rfl,x⟩;have y:=Za x;go_wp2;go_ret;exact⟨rfl,y.o⟩
 by_cases C0:k=6
 ·subst C0
  have u:B (N J 49 #[U (V ⟨L,0,I⟩),U (V ⟨X,0,I⟩)] W fun e w'=>e=H (M true)/\Ng c w L b es z w'):=(EQ c W L (Z (V ⟨g,0,I⟩) n vc) nv ov mv kv b R es z X i.o D.o (HT.o W (d.o.mono)).2).mono (by
   rintro e w' ⟨r1,⟨v',P0,r2⟩,r3⟩
   exact⟨r1,Ng.of d.o r2 (by omega) (by omega) (by omega) (fun e Q=>y5 Q) (fun e Q=>y5 Q) r3 (by decide)⟩)
  go_wp2_with fail;refine u.o.mono ?_;rintro e w5 ⟨rfl,x⟩;have y:=Za x;go_wp2;go_ret;exact⟨rfl,y.o⟩
 have f2:(k==2)=false:=by simp;omega
 have f3:(k==3)=false:=by simp;omega
 have f4:(k==4)=false:=by simp;omega
 have f5:(k==5)=false:=by simp;omega
 have f6:(k==6)=false:=by simp;omega
 have f8:(k==8)=false:=by simp;omega
 go_wp2;go_ret;exact⟨rfl,Ng.same d.o i.o⟩
def Qz (w:x9)(L m:Nat):Prop:=∃c v d f g h a i es b,RF c w L v d f g h a i es b/\(∀k,k<L->c k=0)/\a<=m/\es.length<=4*m/\b.length<=4*m/\∀e,e∈es\/e∈b->e.n<=8796093022208
theorem Ng.all {c w w' L a m es d}(h:Ng c w L a es d w')(B:L<w.heap.size)(j:∀k,k<L->c k=0)(C:a<=m)(D:es.length<=4*m)(E:d.length<=4*m)(l:∀e,e∈es\/e∈d->e.n<=8796093022208):Qz w' L (m+1)/\Fr (fun k=>L<=k) w w':=by
 obtain⟨⟨v,o,p,q,r,b,s,es',f,⟨t,u,x⟩,G,H,I,y,z⟩,A⟩:=h;refine⟨⟨t,v,o,p,q,r,b,s,es',f,x,fun k g=>(u k (by omega)).trans (j k g),by omega,by omega,by omega,?_⟩,A.mono fun k g=>Nat.le_of_not_lt fun e=>g (j k e)⟩;rintro e (i|i)
 ·exact(y e i).elim (fun h=>l e (y5 h)) id
 exact(z e i).elim (fun h=>l e (F h)) id
theorem K9 (w L m k g s a b n d l i o p x)(h:Qz w L m)(G:k<=6)(y: -9223372036854775808<=g)(z:g<=9223372036854775807)(K:∀w',Fr (fun k=>L<=k) w w'->QS w'/\LU w')(A:x.length=i)(O:Yf w l x)(P:a.size<=maxLen)(hm:96*m+96<=140737488355328)(Q:(i+6)*16<=140737488355328):
  N J 26 #[U (V ⟨L,0,I⟩),Dl k g s a b n d l i o p] w fun e w'=>e=H (M true)/\Qz w' L (m+1)/\Fr (fun k=>L<=k) w w':=by
 obtain⟨c,v,B,C,D,E,f,t,es,u,r,R,S,T,W,X⟩:=h;have Y:=(iA.1 r.bx).1
 have q:N J 26 #[U (V ⟨L,0,I⟩),Dl k g s a b n d l i o p] w fun e w'=>e=H (M true)/\Ng c w L f es u w':=by
  by_cases j:k=1
  ·subst j
   exact L5 c w L v B C D E f t es u g s a b n d l i o p r
  rcases Nat.eq_zero_or_pos t.length with F|F
  ·obtain⟨Z,vc,e⟩:=oL r.tv
   rw[F]at e;subst e;exact ER c w L B C D E f t es u Z vc k g s a b n d l i o p r G j
  exact ES c w L v B C D E f t es u k g s a b n d l i o p x r F G j y z K A O P (by omega) (by omega) (by omega) Q
 exact q.mono fun e w' ⟨r1,r2⟩=>⟨r1,r2.all Y R S T W X⟩
theorem LQ.at {c w W L tn u x y z s q A B r t es}(h:LQ c w L tn u x y z s (Z r q A) (Z t q B) es [])(C:F0 w W){i e}(hi:es[i]?=V e):
  ∃b d,r=V ⟨b,0,I⟩/\t=V ⟨d,0,I⟩/\W.cell? ⟨b,i,I⟩=V (Z e.a e.n e.c)/\W.cell? ⟨d,i,I⟩=V (Y e.m)/\∀k,k<e.n->∃g,e.a=V ⟨g,0,I⟩/\∀j v,(G3 s e.m)[j]?=V v->W.cell? ⟨g,k*s+j,I⟩=V v:=by
 have f:=h.keep C (Wz.refl _ _) (by simp);have l:=f.nm;rw[x3]at l;have J:=(iG.1 hi).1;obtain⟨b,_,o,_,_⟩:=l.form (by omega);obtain⟨d,_,p,_,_⟩:=f.ma.form (by omega);injection o with o _ _;injection p with p _ _;subst o p;refine⟨b,d,rfl,rfl,?_,?_,fun k D=>?_⟩
 ·have:=l.cells (g:=b) rfl i _ (by rw[y3,hi];rfl)
  rw[Yd,y9]at this;exact this
 ·have:=f.ma.cells (g:=d) rfl i _ (by rw[y3,hi];rfl)
  rw[Yd,y9]at this;exact this
 obtain⟨g,E,_,K,F,G⟩:=f.el e (by simpa using mG hi) k D
 exact⟨g,E,fun j v H=>bC F _ _ (G j v H)⟩
theorem ET (c w L v nv ov mv C S xs es D)(h:RF c w L v nv ov mv C S xs es D)(hE:es.length<=8796093022208)(T:D.length<=8796093022208)(hn:∀e,e∈es\/e∈D->e.n<=maxLen):
  N J 29 #[U (V ⟨L,0,I⟩)] w fun e w'=>e=H (M true)/\F0 w w':=by
 have K:=Za hn;have h1:=h.n.nm;have h2:=h.o.nm;rw[x3]at h1 h2;obtain⟨na,nc,e⟩:=oL h1;subst e;obtain⟨ma,mc,e⟩:=oL h.n.ma;subst e;obtain⟨oa,oc,e⟩:=oL h2;subst e;obtain⟨ka,kc,e⟩:=oL h.o.ma;subst e;obtain⟨q,X⟩:∃q,es.length=q:=⟨_,rfl⟩;have HQ:=Za X;obtain⟨u,hu⟩:∃u,D.length=u:=⟨_,rfl⟩;have HU:=Za hu;have A:=Za h;rw[X,hu]at A
 have R:B (∀W,F0 w W->W.cell? ⟨L,2,I⟩=V (Z na q nc)/\W.cell? ⟨L,4,I⟩=V (Z ma q mc)/\W.cell? ⟨L,3,I⟩=V (Z oa u oc)/\W.cell? ⟨L,5,I⟩=V (Z ka u kc)):=fun W hf=>by
  have b:=hf.whole A.o.bx;exact⟨Zc b 2,Zc b 4,Zc b 3,Zc b 5⟩
 rw[X]at hE;rw[hu]at T;go_enter Tryz.func29,Tryz.ntmps29;go_wp2_with fail
 go_loopg [3,4] q (fun m iv _ wr=>∃i,i<=q/\m=q-i/\iv=E O (i:Nat)/\B (F0 w wr))
 case atStart=>exact⟨0,y4 _,rfl,rfl,(Fr.refl _ _)⟩
 obtain⟨i,hi,rfl,rfl,j⟩:=hrel;obtain⟨c2,c4,c3,c5⟩:=R.o wr j.o;by_cases a0:i<q
 ·have l:(i:Int)<(q:Int):=by omega
  obtain⟨e,p⟩:∃e,es[i]?=V e:=⟨_,gE (by have:=HQ.o;omega)⟩;have r:=Za p;have s:=K.o e (y5 (mG p));unfold maxLen at s
  have P:(e.n:Int)<=9223372036854775807:=by omega
  obtain⟨gn,gm,d,f,s1,_⟩:=A.o.n.at j.o p;subst d f;go_wp2_with fail
  go_loopg [4] e.n (fun m C wr=>∃k,k<=e.n/\m=e.n-k/\C=E O (k:Nat)/\B (F0 w wr))
  case atStart=>exact⟨0,y4 _,rfl,rfl,j⟩
  obtain⟨k,hk,rfl,rfl,a⟩:=hrel;obtain⟨d2,d4,d3,d5⟩:=R.o wr a.o;obtain⟨b0,c0,d,f,r1,r2,Q⟩:=A.o.n.at a.o r.o;injection d with d;injection d with d _ _;injection f with f;injection f with f _ _;subst d f;by_cases t:k<e.n
  ·have x:(k:Int)<(e.n:Int):=by omega
   obtain⟨g,ea,y⟩:=Q k t;rw[ea]at r1
   (have t0:wr.cell? ⟨g,k,I⟩=V (Y e.m):=(by simpa using y 0 _ rfl);clear Q y;go_upto_region 7 with fail)
   go_quiet (fail)
   have z:B (F0 w (wr.drewN nq)):=a.o.trans ⟨rfl,rfl,rfl,G _,fun _ _ _=>rfl⟩;go_wp2_with fail;go_roundg (e.n-(k+1))
   case measure=>omega
   exact⟨k+1,by omega,rfl,by go_num,z⟩
  have x:¬(k:Int)<(e.n:Int):=by omega
  go_wp2_with fail;go_roundg (q-(i+1))
  case measure=>omega
  exact⟨i+1,by omega,rfl,by go_num,a⟩
 have l:¬(i:Int)<(q:Int):=by omega
 go_wp2_with fail
 go_loopg [5,6] u (fun m iv _ wr=>∃i,i<=u/\m=u-i/\iv=E O (i:Nat)/\B (F0 w wr))
 case atStart=>exact⟨0,y4 _,rfl,rfl,j⟩
 obtain⟨i,hi,rfl,rfl,j⟩:=hrel;obtain⟨c2,c4,c3,c5⟩:=R.o wr j.o;by_cases a0:i<u
 ·have l:(i:Int)<(u:Int):=by omega
  obtain⟨e,p⟩:∃e,D[i]?=V e:=⟨_,gE (by have:=HU.o;omega)⟩;have r:=Za p;have s:=K.o e (F (mG p));unfold maxLen at s
  have P:(e.n:Int)<=9223372036854775807:=by omega
  obtain⟨gn,gm,d,f,s1,_⟩:=A.o.o.at j.o p;subst d f;go_wp2_with fail
  go_loopg [6] e.n (fun m C wr=>∃k,k<=e.n/\m=e.n-k/\C=E O (k:Nat)/\B (F0 w wr))
  case atStart=>exact⟨0,y4 _,rfl,rfl,j⟩
  obtain⟨k,hk,rfl,rfl,a⟩:=hrel;obtain⟨d2,d4,d3,d5⟩:=R.o wr a.o;obtain⟨b0,c0,d,f,r1,r2,Q⟩:=A.o.o.at a.o r.o;injection d with d;injection d with d _ _;injection f with f;injection f with f _ _;subst d f;by_cases t:k<e.n
  ·have x:(k:Int)<(e.n:Int):=by omega
   obtain⟨g,ea,y⟩:=Q k t;rw[ea]at r1
   (have t0:wr.cell? ⟨g,k*6,I⟩=V (Y e.m):=y 0 _ rfl;have t1:wr.cell? ⟨g,k*6+1,I⟩=V (Y e.m):=y 1 _ rfl;have t2:wr.cell? ⟨g,k*6+2,I⟩=V (Y ⟨#[]⟩):=y 2 _ rfl;clear Q y;go_upto_region 15 with fail)
   go_quiet (fail)
   have z:B (F0 w (wr.drewN nq)):=a.o.trans ⟨rfl,rfl,rfl,G _,fun _ _ _=>rfl⟩;go_wp2_with fail;go_roundg (e.n-(k+1))
   case measure=>omega
   exact⟨k+1,by omega,rfl,by go_num,z⟩
  have x:¬(k:Int)<(e.n:Int):=by omega
  go_wp2_with fail;go_roundg (u-(i+1))
  case measure=>omega
  exact⟨i+1,by omega,rfl,by go_num,a⟩
 have l:¬(i:Int)<(u:Int):=by omega
 go_wp2_with fail;go_ret;exact⟨rfl,j.o⟩
def GU (w:x9)(b o:Nat):Prop:=
 ∃(k c:Int)(s a:ByteArray)(d i e:Int)(g:Option Addr)(f j:Nat)(l:Bool)(h:List ByteArray),(-9223372036854775808<=c/\c<=9223372036854775807/\h.length=f/\Yf w g h/\a.size<=maxLen/\(f+6)*16<=140737488355328)/\
  w.cell? ⟨b,o,I⟩=V (E O k)/\w.cell? ⟨b,o+1,I⟩=V (E O c)/\w.cell? ⟨b,o+2,I⟩=V (Y s)/\w.cell? ⟨b,o+3,I⟩=V (Y a)/\w.cell? ⟨b,o+4,I⟩=V (E O d)/\
  w.cell? ⟨b,o+5,I⟩=V (E O i)/\w.cell? ⟨b,o+6,I⟩=V (E O e)/\w.cell? ⟨b,o+7,I⟩=V (Z g f j)/\w.cell? ⟨b,o+8,I⟩=V (M l)
theorem Yf.frL {w w' L a l}(h:Yf w a l)(c:Fr (fun k=>L<=k) w w')(i:w.heap.size<=L):Yf w' a l:=by
 intro k s d;obtain⟨g,o,e,b⟩:=h k s d;have f:g<w.heap.size:=bL w _ b;exact⟨g,o,e,(c.cell (p:=⟨g,o+k,I⟩) f (by show¬L<=g;omega)).trans b⟩
theorem GU.fr {w w' b o L}(h:GU w b o)(f:Fr (fun k=>L<=k) w w')(i:b<w.heap.size)(l:w.heap.size<=L):GU w' b o:=by
 obtain⟨k,m,s,a,c,n,d,q,r,t,v,x,⟨y,z,A,B,C⟩,D,c1,E,F,G,H,J,K,M⟩:=h
 have g:∀j u,w.cell? ⟨b,o+j,I⟩=V u->w'.cell? ⟨b,o+j,I⟩=V u:=fun j u e=>(f.cell (p:=⟨b,o+j,I⟩) i (by show¬L<=b;omega)).trans e
 exact⟨k,m,s,a,c,n,d,q,r,t,v,x,⟨y,z,A,B.frL f l,C⟩,g 0 _ D,g 1 _ c1,g 2 _ E,g 3 _ F,g 4 _ G,g 5 _ H,g 6 _ J,g 7 _ K,g 8 _ M⟩
theorem Qz.fr {w w' L m}(h:Qz w L m)(b:F0 w w'):Qz w' L m:=by
 obtain⟨c,v,d,e,f,g,a,i,es,j,k,l⟩:=h;exact⟨c,v,d,e,f,g,a,i,es,j,k.keep b (Wz.refl _ _),l⟩
theorem Qz.up {w L m}(h:Qz w L m):Qz w L (m+1):=by
 obtain⟨c,v,b,d,e,f,a,g,es,i,j,k,n,o,p,l⟩:=h;exact⟨c,v,b,d,e,f,a,g,es,i,j,k,by omega,by omega,by omega,l⟩
theorem Qz.still {w L m}(h:Qz w L m)(o:4*m<=8796093022208):N J 29 #[U (V ⟨L,0,I⟩)] w fun e w'=>e=H (M true)/\F0 w w':=by
 obtain⟨c,v,b,d,f,g,a,i,es,j,k,p,q,r,s,l⟩:=h;exact ET c w L v b d f g a i es j k (by omega) (by omega) (fun e n=>x6 (l e n) (by unfold maxLen;omega))
theorem RF.zero {w L}(h:w.heap[L]?=V (G2 (Z I 0 0) (Z I 0 0) (Z I 0 0) (Z I 0 0) (Z I 0 0) 0)):RF (fun k=>if k=L then 1 else 0) w L (Z I 0 0) (Z I 0 0) (Z I 0 0) (Z I 0 0) (Z I 0 0) 0 [] [] []:=by
 have a:∀t,Cl (fun k=>if k=L then 1 else 0) (Z I 0 0) t:=fun t k c=>by cases c
 exact⟨h,if_pos rfl,oZ _ _ _ _,a _,by simp,(fun X d=>by cases d),⟨oZ _ _ _ _,a _,oZ _ _ _ _,a _,(fun e b=>by cases b)⟩,⟨oZ _ _ _ _,a _,oZ _ _ _ _,a _,(fun e b=>by cases b)⟩⟩
theorem GV (w sa n c)(hn:96*n+192<=140737488355328)(X:∀i,i<n->∃b o,sa=V ⟨b,o,I⟩/\b<w.heap.size/\GU w b (o+i*9))(ht:∀w',Below w.heap.size w w'->QS w'/\LU w'):
  N J 11 #[Z sa n c,E O 6] w fun e w'=>e=H (M true)/\Below w.heap.size w w':=by
 have HS:=Za X;have HT:=Za ht
 have l0:(n:Int)<=9223372036854775807:=by omega
 clear X ht;go_enter Tryz.func11,Tryz.ntmps11;go_wp2_with fail;have q:=aN w (C #[Z I 0 0,Z I 0 0,Z I 0 0,Z I 0 0,Z I 0 0,Z I 0 0,E O 0] 58);have r:=(VA w (C #[Z I 0 0,Z I 0 0,Z I 0 0,Z I 0 0,Z I 0 0,Z I 0 0,E O 0] 58)).1;have HL:=Za (RF.zero q);clear q;refine(Qb _ _ w.heap.size _ _ _ _ _ _ [] [] [] _ HL.o).mono ?_;rintro e t ⟨rfl,⟨v1,a0,⟨c1,u,v⟩⟩,y⟩;have l:B (Qz t w.heap.size 0):=⟨c1,v1,_,_,_,_,0,a0,[],[],v,fun k j=>(u k (by simp;omega)).trans (if_neg (by omega)),by omega,by simp,by simp,fun x hx=>by rcases hx with h|h<;>cases h⟩
 have f:B (Fr (fun k=>w.heap.size<=k) w t):=(r.o.mono).trans (y.mono fun k j=>by
  by_cases e:k=w.heap.size
  ·omega
  dsimp only at j
  rw[if_neg e]at j
  simp at j)
 clear v y u HL r;obtain⟨L,Y⟩:∃L,w.heap.size=L:=⟨_,rfl⟩;rw[Y]at l f;have g:=Za Y;rw[Y];clear Y
 have a:B (N J 26 #[U (V ⟨L,0,I⟩),Dl 3 0 ⟨#[]⟩ ⟨#[52,49,50,51,52,53]⟩ 0 0 0 I 0 0 false] t fun e w'=>e=H (M true)/\Qz w' L (0+1)/\Fr (fun k=>L<=k) t w'):=
  K9 t L 0 3 0 ⟨#[]⟩ ⟨#[52,49,50,51,52,53]⟩ 0 0 0 I 0 0 false [] l.o (by omega) (by omega) (by omega) (fun w' hw=>HT.o w' ((f.o.trans hw).below (G _) (fun k j=>by have:=g.o;omega))) rfl (fun k s X=>by simp at X) (by decide) (by omega) (by omega)
 unfold Dl at a;go_wp2_with fail;refine a.o.mono ?_;rintro e w2 ⟨rfl,z,A⟩;have b0:=Za z;have d0:=Za (f.o.trans A);clear z A a l f;go_wp2_with fail
 go_loopg [6,8] 0 (fun _ ok kk wr=>ok=M true/\kk=E O 0/\B (wr=w2))
 case atStart=>exact⟨rfl,rfl,rfl⟩
 obtain⟨rfl,rfl,HW⟩:=hrel;have e:=HW.o;subst e;go_wp2_with fail
 go_loopg [6,14] n (fun m ok ii wr=>∃i,i<=n/\m=n-i/\ok=M true/\ii=E O (i:Nat)/\B (Qz wr L (i+1))/\B (Fr (fun k=>L<=k) w wr))
 case atStart=>exact⟨0,y4 _,rfl,rfl,rfl,b0,d0⟩
 obtain⟨i,hi,rfl,rfl,rfl,D,d⟩:=hrel;by_cases e0:i<n
 ·have f0:(i:Int)<(n:Int):=by omega
  obtain⟨b,o,rfl,hb,F⟩:=HS.o i e0;obtain⟨k,on,s,K,P,am,Q,da,dn,dc,up,dl,hD,c0,c1,c2,c3,c4,c5,c6,c7,c8⟩:=F.fr d.o hb (x5 g.o);have g0:=Za hD;clear F hD;by_cases j:6<k
  ·go_wp2
   go_roundg (n-(i+1))
   case measure=>omega
   exact⟨i+1,by omega,rfl,rfl,by go_num,D.o.up,d⟩
  have R:k<=6:=by omega
  have a:B (N J 26 #[U (V ⟨L,0,I⟩),Dl k on s K P am Q da dn dc up] wr fun e w'=>e=H (M true)/\Qz w' L (i+1+1)/\Fr (fun k=>L<=k) wr w'):=by
   obtain⟨d1,d2,d3,d4,d5,d6⟩:=g0.o;exact K9 wr L (i+1) k on s K P am Q da dn dc up dl D.o R d1 d2 (fun w' hw=>HT.o w' ((d.o.trans hw).below (G _) (fun k j=>by have:=g.o;omega))) d3 d4 d5 (by omega) d6
  unfold Dl at a;clear R;go_wp2_with fail;refine a.o.mono ?_;rintro e w4 ⟨rfl,S,T⟩;have W:=Za S;have h0:=Za (d.o.trans T);clear S T c0 c1 c2 c3 c4 c5 c6 c7 c8;have i0:=Za (W.o.still (by omega));go_wp2_with fail;refine i0.o.mono ?_;rintro e w5 ⟨rfl,p⟩;have j0:=Za (W.o.fr p);have k0:=Za (h0.o.trans (p.mono));clear p;go_wp2;go_roundg (n-(i+1))
  case measure=>omega
  exact⟨i+1,by omega,rfl,rfl,by go_num,j0,k0⟩
 have f0:¬(i:Int)<(n:Int):=by omega
 go_wp2;go_ret;exact⟨rfl,d.o.below (G _) (fun k j=>by have:=g.o;omega)⟩
theorem Ja (w a n c)(d:96*n+192<=140737488355328)(f:∀i,i<n->∃b o,a=V ⟨b,o,I⟩/\b<w.heap.size/\GU w b (o+i*9))(g:∀w',Below w.heap.size w w'->QS w'/\LU w'):
  N J 6 #[Z a n c] w fun e w'=>e=H (M true)/\Below w.heap.size w w':=by
 have j:=Za (GV w a n c d f g);clear d f g;go_enter Tryz.func6,Tryz.ntmps6;go_wp2_with fail;refine j.o.mono ?_;rintro e l ⟨rfl,h⟩;have k:=Za h;clear h;go_wp2;go_ret;exact⟨rfl,k.o⟩
open Go.ChangeShapes Go.WideShapes Go.ChangeAt Go.Deep
theorem tB:J.globalNamed "internal/strconv.uint64pow10" =V 1:=by kernel_rfl
theorem yw:(J.globals[1]?).map (·.type)=V 351:=by kernel_rfl
theorem yx:J.cellsOf 351=20:=by kernel_rfl
theorem xS:J.cellsOf 328=1:=by kernel_rfl
theorem yy:(J.globals[0]?).map (·.type)=V 275:=by kernel_rfl
theorem yz:J.cellsOf 275=16:=by kernel_rfl
theorem xT:J.cellsOf 221=1:=by kernel_rfl
theorem wL {W}(h:laidMetH J Rows.loadsRow.laid W):QS W/\LU W:=by
 have a:laidMet J Rows.loadsRow.laid W:=h;exact⟨Lib.tabIs_of_head tB yw Tryz.underlying351 Tryz.underlying328 xS yx a.tail.tail.tail,Lib.tabIs_of_head uB yy Tryz.underlying275 Tryz.underlying221 xT yz a⟩
set_option maxRecDepth 100000 in
theorem yA (os):laidMet J Rows.loadsRow.laid ((World.laidAll J os Rows.loadsRow.laid).forCall (fun _ _=>0) ⟨#[],#[Z I 0 0],[]⟩).memory:=
 laidMet_laidAll _ (by kernel_rfl) (by kernel_rfl)
set_option maxRecDepth 100000 in
theorem BT (os):((World.laidAll J os Rows.loadsRow.laid).forCall (fun _ _=>0) ⟨#[],#[Z I 0 0],[]⟩).variablesRefB Tryz.checked.prog=true:=by kernel_rfl
theorem sQ:(Rows.loadsRow.wf (OpenSpec.ofChange Rows.loadsSpec))=true:=by kernel_rfl
theorem sR:(laidOutB J)=true:=by kernel_rfl
theorem sS:(mapsRowed J)=true:=by kernel_rfl
theorem sT:(Tryz.f6.params.all (J.readableRec ·))=true:=by kernel_rfl
theorem sU:(namedTie J Rows.loadsRow.named Rows.loadsSpec.vars)=true:=by kernel_rfl
theorem sV:((Rows.loadsRow.stops==[]))=true:=by kernel_rfl
theorem sW:((J.stops==[]))=true:=by kernel_rfl
theorem sX:((Rows.loadsRow.knobs==[]))=true:=by kernel_rfl
theorem sY:((J.stopKnobs==[]))=true:=by kernel_rfl
theorem sZ:((Rows.loadsRow.inPlace==J.inPlace 6))=true:=by kernel_rfl
theorem tC:((Rows.loadsRow.unfollowed==J.unfollowed 6))=true:=by kernel_rfl
theorem tD:((Rows.loadsRow.recurses==J.recurses 6))=true:=by kernel_rfl
theorem tF:((Rows.loadsRow.named==J.varsNamed 6))=true:=by kernel_rfl
theorem tG:((Rows.loadsRow.maps==(Tryz.f6.params.toList++Rows.loadsSpec.plain.varTypes J).any (J.mapsRec ·)))=true:=by kernel_rfl
theorem tH:((Rows.loadsRow.ifaces==(Tryz.f6.params.toList++Rows.loadsSpec.plain.varTypes J).any (J.ifacesRec ·)))=true:=by kernel_rfl
theorem tI:((Rows.loadsRow.mapsOut==J.mapsAmong Tryz.f6.resultTypes.toList))=true:=by kernel_rfl
theorem tJ:((Rows.loadsRow.loops==(Tryz.f6.params.toList++Rows.loadsSpec.plain.varTypes J).any (J.loopsFrom ·)))=true:=by kernel_rfl
theorem tK:((Rows.loadsRow.wideKeys==(Tryz.f6.params.toList++Rows.loadsSpec.plain.varTypes J++Tryz.f6.resultTypes.toList).any (J.wideKeysFrom ·)))=true:=by kernel_rfl
theorem tL:(Rows.loadsSpec.vars.all (J.varReadable ·))=true:=by kernel_rfl
theorem tM:(Tryz.f6.resultTypes.all (fun t=>J.readableRec t&&decide (t<J.types.size)))=true:=by kernel_rfl
theorem tN:((Rows.loadsRow.ifacesOut==Tryz.f6.resultTypes.toList.any (J.ifacesRec ·)))=true:=by kernel_rfl
theorem tO:((Rows.loadsRow.loopsOut==Tryz.f6.resultTypes.toList.any (J.loopsFrom ·)))=true:=by kernel_rfl
theorem tP:((Rows.loadsRow.plainKeys==J.plainKeys))=true:=by kernel_rfl
theorem tQ:(Rows.loadsRow.shortTexts.isNone)=true:=by kernel_rfl
theorem tS:(J.stopsHeard)=true:=by kernel_rfl
theorem tT:(J.mayEnter)=true:=by kernel_rfl
theorem tU:((Rows.loadsRow.lifted==J.liftsFinal))=true:=by kernel_rfl
theorem tV:((J.make==V Rows.loadsRow.make))=true:=by kernel_rfl
theorem tW:((Rows.loadsRow.kinds==(if Rows.loadsRow.domain.isEmpty then[]else Tryz.f6.params.toList.map fun t=>match J.underlying t with|some (.int k)=>V k|_=>I)))=true:=by kernel_rfl
theorem tX:((Rows.loadsRow.pinned==Rows.loadsRow.pinnedBy))=true:=by kernel_rfl
theorem tY:((Rows.loadsRow.veiled==(Tryz.f6.params.toList++Rows.loadsSpec.plain.varTypes J++Tryz.f6.resultTypes.toList).any (J.veiledRec ·)))=true:=by kernel_rfl
theorem tZ:(Rows.loadsRow.veiledFits J Tryz.f6.params.toList (Tryz.f6.params.toList++Rows.loadsSpec.plain.varTypes J++Tryz.f6.resultTypes.toList))=true:=by kernel_rfl
theorem Xg {a b}(c:a=true)(d:b=true):(a&&b)=true:=by rw[c,d];rfl
set_option maxRecDepth 100000 in
theorem Id:joinedFacts J 6 Tryz.f6 Rows.loadsSpec Rows.loadsRow=true:=by
 unfold joinedFacts;exact(Xg (Xg (Xg (Xg (Xg (Xg (Xg (Xg (Xg (Xg (Xg (Xg (Xg (Xg (Xg (Xg (Xg (Xg (Xg (Xg (Xg (Xg (Xg (Xg (Xg (Xg (Xg (Xg (Xg (Xg (Xg sQ sR) sS) sT) sU) sV) sW) sX) sY) sZ) tC) tD) tF) tG) tH) tI) tJ) tK) tL) tM) tN) tO) tP) tQ) tS) tT) tU) tV) tW) tX) tY) tZ)
