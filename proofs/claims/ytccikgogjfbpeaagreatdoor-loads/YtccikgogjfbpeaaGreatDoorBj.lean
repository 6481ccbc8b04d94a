/- The law, for reports: decides. The law, for reports: one step. The law, for reports: the script, played; Loads. The law: a world in which the listed variables lie; what the row's list gives. For every script of steps, played up to the loads, Loads answers true, and the script reads afterwards as it did: the image of a table is loaded, what was loaded decides as the table that wrote it, has no text, no overlaps and no dead rules of its own, and writes the same image again; besides, every fault, every plain text, every decision, every list of overlaps and of dead rules; and lists that went in or came out belong to their callers. Conditions: none but the row's own (the tables that lie ahead of the call lie as their text lays them; the card ties them). -/
import Derived.Test.YtccikgogjfbpeaaGreatDoorBi
import Derived.Carry
import Derived.Deep.Slices
import Derived.Deep.DeepHandedRow
import Derived.Deep.DeepWitnessRowRef
import Derived.Stop.LaidErr
import Derived.Lay
import Derived.Test.YtccikgogjfbpeaaGreatDoorAd
import Derived.Test.YtccikgogjfbpeaaGreatDoorTie
import Derived.OpenShut
import Derived.SizedLaws
open Go.Proofs.Tryz renaming prog->I
open Option renaming none->J,some->V
open Go.Value renaming string->Y,slice->Z,pointer->U,int->O,bool->R,string->y8,oneCell'->x3,agg->x8,cells->q8
open Go.IntKind renaming i64->K,i64->q9
open Go.Ending renaming returned->E
open Go.RowKit renaming Hid->B
open Nat renaming le_refl->G,le_of_eq->q4,le_trans->q5,mul_one->q6,zero_le->q7
open Go.AllReadyH renaming nil->M
open Go renaming Calls->N,Value->x9
open Go.Obj renaming cells->z9
open Or renaming inr->y6,inl->y9
open Go.World renaming laidAll->x4,cells?_some->x5,cell?_spot->x6
namespace Go.Proofs.YtccikgogjfbpeaaGreatDoor
set_option maxRecDepth 30000
set_option maxHeartbeats 8000000
open Go.RowKit
theorem J8 (c w L v nv ov mv kv b0 xs es fs X k on s)(p:WC)(da H dc up)(h:RA c w L v nv ov mv kv b0 xs es fs)(hx:K3 c w X)(hd:Ye w da H)(hs:p.pan.size<=maxLen)(hc:b0<=4611686018427387904)(hE:(es.length+4)*24<=140737488355328)(hN:(H.length+6)*16<=140737488355328):
  N I 46 #[U (V ⟨L,0,J⟩),U (V ⟨X,0,J⟩),Dq k on s p.pan p.mcc p.am p.cur da H.length dc up] w fun e w'=>e=E (R true)/\(∃c0 d0 es',OW w c w' L v c0 ov d0 kv (b0+1) xs es' fs/\es'.length=es.length+4/\∀e,e∈es'->e∈es\/e.n<=8796093022208)/\SG [1,3,4,7] c w w':=by
 obtain⟨ij,g1,h1,i1,j1⟩:=info_parts TE;have HS:=Za h;have HX:=Za hx;have HD:B (Ye w da H):=hd;have HB:B (b0<=4611686018427387904/\(es.length+4)*24<=140737488355328/\(H.length+6)*16<=140737488355328/\p.pan.size<=maxLen):=⟨hc,hE,hN,hs⟩;have l1:L<w.heap.size:=(iA.1 h.bx).1;obtain⟨a,x0⟩:∃a,H.length=a:=⟨_,rfl⟩;have r:B (H.length=a):=x0
 have B1:a<=8796093022202:=by omega
 obtain⟨r0,e0⟩:=Vx w (Sl k on s p.pan p.mcc p.am p.cur da a dc up);unfold Sl at r0 e0;unfold Dq;rw[x0];clear h hx hd hs hc hE hN x0;go_enter Tryz.func46,Tryz.ntmps46;go_upto_region 1 with fail;generalize w.alloc _=W0 at*;obtain⟨P,hP⟩:∃P,w.heap.size=P:=⟨_,rfl⟩;have L0:B (w.heap.size=P/\L<P):=⟨hP,by omega⟩;rw[hP]at e0;rw[hP];have x7:W0.cell? ⟨P,7,J⟩=V (Z da a dc):=bC e0.o 7 _ rfl;have t0:=run_make (P:=I) W0 28 9 ij _ Tryz.underlying28 g1 h1 K K ((a:Int)+2) ((a:Int)+2) (by omega) (by omega) (by rw[j1];omega) (by omega);rw[show((a:Int)+2).toNat=a+2 from by omega,i1,q6]at t0
 have C1:(a:Int)<=8796093022202:=by omega
 obtain⟨z,f0⟩:∃z,(madeCells (y8 ByteArray.empty).cells (a+2)).toList=z:=⟨_,rfl⟩
 have y0:B (z.length=a+2):=by show _=_;rw[<-f0,Array.length_toList,size_madeCells]
 rw[show madeCells (y8 ByteArray.empty).cells (a+2)=z.toArray from by rw[<-f0,Array.toArray_toList]]at t0;obtain⟨A,hA⟩:∃A,W0.heap.size=A:=⟨_,rfl⟩;have HA:B (W0.heap.size=A):=hA
 have v0:B ((W0.alloc (z9 z.toArray 9)).heap[A]?=V (z9 z.toArray 9)):=by rw[<-hA];exact aN W0 _
 have a0:B (Below A W0 (W0.alloc (z9 z.toArray 9))):=(Below.refl _ _).alloc (q4 hA.symm) _
 have z0:P<A:=by rw[<-hA];exact(iA.1 e0.o).1
 have M0:B (P<A):=z0;rw[hA]at t0;generalize W0.alloc _=W1 at*;have y7:W1.cell? ⟨P,7,J⟩=V (Z da a dc):=bC ((a0.o.block P z0).trans e0.o) 7 _ rfl;clear hP hA f0 l1 z0
 obtain⟨W2,m1,N0,O0⟩:∃W2,(Builtin.copy_ #[28,28] 3 #[Z (V ⟨A,0,J⟩) (a+2) (a+2),Z da a dc]).run I W1=.ok (goInt a) W2/\W2.heap[A]?=V (z9 (splice z 0 (H.map y8)).toArray 9)/\Below A W0 W2:=by
  have w0:Nat.min a (a+2)=a:=Nat.min_eq_left (by omega);by_cases h0:a=0
  ·have n1:H=[]:=List.eq_nil_of_length_eq_zero (r.o.trans h0)
   refine⟨W1,?_,?_,a0.o⟩
   ·rw[run_copy_none (P:=I) W1 28 28 3 9 _ _ _ _ _ _ Tryz.underlying28 (by kernel_rfl) (by rw[w0];exact h0),h0]
    rfl
   rw[n1,v0.o]
   simp[splice]
  obtain⟨g,o,e1,_⟩:=HD.o 0 _ (gE (by have:=r.o;omega))
  subst e1
  have A0:(H.map y8).length=a:=by rw[List.length_map,r.o]
  have hr:=run_copy_row (P:=I) W1 28 28 3 9 A 0 (a+2) (a+2) ⟨g,o,J⟩ a dc z.toArray 9 (H.map y8) Tryz.underlying28 (by kernel_rfl) v0.o (by rw[w0];exact A0) (fun j v hj=>?_) (by rw[A0];have:=y0.o;simp;omega) (fun v hv=>by obtain⟨s',_,rfl⟩:=List.mem_map.1 hv;rfl)
  ·rw[A0]at hr
   refine⟨_,hr,?_,below_setRow a0.o (G _) _⟩;rw[setRow_heap _ _ _ _ _ _ v0.o];simp[splice,r.o]
  rw[List.getElem?_map]at hj
  cases hd:H[j]? with
  |none=>rw[hd]at hj;cases hj
  |some s'=>
   rw[hd]at hj;injection hj with hj;subst hj;obtain⟨g',o',e2,e3⟩:=HD.o j _ hd;injection e2 with e2;injection e2 with e2 e4 _;subst e2 e4;rw[TM];have f1:=(r0.o.cell (p:=⟨g,o+j,J⟩) (bL w _ e3) (by simp)).trans e3;have D1:g<W0.heap.size:=bL W0 _ f1;exact(a0.o.cell (p:=⟨g,o+j,J⟩) (by have:=HA.o;show g<A;omega)).trans f1
 obtain⟨B0,⟨u4,P0⟩,Q0,⟨u5,R0⟩,l⟩:=Lf.lay N0 (by rw[r.o,y0.o]);rw[r.o]at B0 P0 Q0 R0 l;have C0:F0 W0 ((W2.setCell ⟨A,a,J⟩ (Y ⟨#[98,101,104,105,110,100]⟩)).setCell ⟨A,a+1,J⟩ (Y ⟨#[105,116]⟩)):=((Fr.of_below (by rw[HA.o];exact O0)).setCell (p:=⟨A,a,J⟩) (y6 (by have:=HA.o;show _<=A;omega)) _).setCell (p:=⟨A,a+1,J⟩) (y6 (by have:=HA.o;show _<=A;omega)) _;have g0:B (Lf ((W2.setCell ⟨A,a,J⟩ (Y ⟨#[98,101,104,105,110,100]⟩)).setCell ⟨A,a+1,J⟩ (Y ⟨#[105,116]⟩)) A H):=B0;have i0:B (F0 w ((W2.setCell ⟨A,a,J⟩ (Y ⟨#[98,101,104,105,110,100]⟩)).setCell ⟨A,a+1,J⟩ (Y ⟨#[105,116]⟩))):=r0.o.trans C0;have t1:B (((W2.setCell ⟨A,a,J⟩ (Y ⟨#[98,101,104,105,110,100]⟩)).setCell ⟨A,a+1,J⟩ (Y ⟨#[105,116]⟩)).heap[P]?=V (z9 #[O K k,O K on,Y s,Y p.pan,O K p.mcc,O K p.am,O K p.cur,Z da a dc,R up] 62)):=C0.whole e0.o (by simp);clear B0 C0 O0 N0 v0 a0 e0 r0 y0;go_upto_region 6 with fail;clear x7 y7 P0 Q0 R0 l t0 m1;generalize(W2.setCell ⟨A,a,J⟩ (Y ⟨#[98,101,104,105,110,100]⟩)).setCell ⟨A,a+1,J⟩ (Y ⟨#[105,116]⟩)=t at*;clear u4 u5 W1 W2;obtain⟨T,q,S0,D0,E0,T0,V0⟩:=HX.o.both p HB.o.2.2.2 i0.o;obtain⟨b,j0⟩:∃b,S0 H=b:=⟨_,rfl⟩
 have X0:B (∀W,F0 t W->W.cell? ⟨A,a,J⟩=V (Y ⟨#[98,101,104,105,110,100]⟩)/\W.cell? ⟨A,a+1,J⟩=V (Y ⟨#[105,116]⟩)):=fun W F=>by
  obtain⟨cs,c1,c2,c3,c4,c5⟩:=g0.o.fr F (by simp);rw[r.o]at c4 c5;exact⟨bC c1 _ _ c4,bC c1 _ _ c5⟩
 have v1:B (∀W,F0 t W->∀(i:Nat),i<a->∃s g o,da=V ⟨g,o,J⟩/\W.cell? ⟨g,o+i,J⟩=V (Y s)/\W.cell? ⟨A,i,J⟩=V (Y s)):=fun W F i hi=>by
  have w1:i<H.length:=by have:=r.o;omega
  have hg:=gE w1;obtain⟨g,o,e1,e2⟩:=(HD.o.fr (i0.o.trans F) (by simp)) i _ hg;obtain⟨cs,c1,c2,c3,_⟩:=g0.o.fr F (by simp);exact⟨_,g,o,e1,e2,bC c1 _ _ (c3 i _ hg)⟩
 have C:B (∀W,F0 t W->W.cell? ⟨X,0,J⟩=V (U (V ⟨T,0,J⟩))/\W.cell? ⟨X,1,J⟩=V (U (V ⟨q,0,J⟩))/\W.cell? ⟨P,3,J⟩=V (Y p.pan)/\W.cell? ⟨P,4,J⟩=V (O K p.mcc)/\W.cell? ⟨P,5,J⟩=V (O K p.am)/\W.cell? ⟨P,6,J⟩=V (O K p.cur)/\W.cell? ⟨P,7,J⟩=V (Z da a dc)):=fun W F=>by
  have e:=F.whole t1.o (by simp);exact⟨(F.cell (p:=⟨X,0,J⟩) (bL t _ D0) (by simp)).trans D0,(F.cell (p:=⟨X,1,J⟩) (bL t _ E0) (by simp)).trans E0,bC e 3 _ rfl,bC e 4 _ rfl,bC e 5 _ rfl,bC e 6 _ rfl,bC e 7 _ rfl⟩
 have G0:B (∀W,F0 t W->N I 19 #[U (V ⟨T,0,J⟩),x8 #[Y p.pan,O K p.mcc,O K p.am,O K p.cur],Z (V ⟨A,0,J⟩) a (a+2)] W fun e w'=>e=E (x8 #[O K (b.1:Nat),Y b.2.1,Y b.2.2])/\F0 W w'):=fun W F=>by
  have e:=T0 W (V ⟨A,0,J⟩) (a+2) H F (g0.o.fr F (by simp)).strs (by have:=r.o;unfold maxLen;omega);rw[j0,r.o]at e;exact e
 have x1:B (∀W,F0 t W->N I 56 #[U (V ⟨q,0,J⟩),x8 #[Y p.pan,O K p.mcc,O K p.am,O K p.cur],Z da a dc] W fun e w'=>e=E (x8 #[O K (b.1:Nat),Y b.2.1,Y b.2.2])/\F0 W w'):=fun W F=>by
  have e:=V0 W da dc H F (HD.o.fr (i0.o.trans F) (by simp)) (by have:=r.o;unfold maxLen;omega);rw[j0,r.o]at e;exact e
 have H0:B (A<t.heap.size/\w.heap.size<=A):=by
  obtain⟨cs,c1,_⟩:=g0.o;exact⟨(iA.1 c1).1,by have:=M0.o;have:=L0.o.1;omega⟩
 clear D0 E0 T0 V0 j0 S0
 go_cut [9] (fun v wx=>∃Q,v=U (V ⟨Q,0,J⟩)/\B (F0 t wx/\t.heap.size<=Q/\wx.heap[Q]?=V (vS b)))
 case first=>
  refine wp_region_held_drew (S:=fun W=>W.cell? ⟨X,0,J⟩=V (U (V ⟨T,0,J⟩))/\W.cell? ⟨X,1,J⟩=V (U (V ⟨q,0,J⟩))/\W.cell? ⟨P,3,J⟩=V (Y p.pan)/\W.cell? ⟨P,4,J⟩=V (O K p.mcc)/\W.cell? ⟨P,5,J⟩=V (O K p.am)/\W.cell? ⟨P,6,J⟩=V (O K p.cur)/\W.cell? ⟨P,7,J⟩=V (Z da a dc)) (by kernel_rfl) (C.o _ (Fr.refl _ _).drew) (fun D=>?_);refine UP 0 (v:=?v0z) ?y0z D ?r0z
  case y0z=>rintro w ⟨s0,s1,s3,s4,s5,s6,s7⟩;go_simp;first|with_reducible rfl|rw[if_pos (by omega)]
  try go_frame
  refine UP 1 (v:=?v1z) ?y1z D ?r1z
  case y1z=>rintro w ⟨s0,s1,s3,s4,s5,s6,s7⟩;go_simp;first|with_reducible rfl|rw[if_pos (by omega)]
  try go_frame
  refine UP 2 (v:=?v2z) ?y2z D ?r2z
  case y2z=>rintro w ⟨s0,s1,s3,s4,s5,s6,s7⟩;go_simp;first|with_reducible rfl|rw[if_pos (by omega)]
  try go_frame
  refine UP 3 (v:=?v3z) ?y3z D ?r3z
  case y3z=>rintro w ⟨s0,s1,s3,s4,s5,s6,s7⟩;go_simp;first|with_reducible rfl|rw[if_pos (by omega)]
  try go_frame
  refine UP 4 (v:=?v4z) ?y4z D ?r4z
  case y4z=>rintro w ⟨s0,s1,s3,s4,s5,s6,s7⟩;go_simp;first|with_reducible rfl|rw[if_pos (by omega)]
  try go_frame
  refine UP 5 (v:=?v5z) ?y5z D ?r5z
  case y5z=>rintro w ⟨s0,s1,s3,s4,s5,s6,s7⟩;go_simp;first|with_reducible rfl|rw[if_pos (by omega)]
  try go_frame
  refine UP 6 (v:=?v6z) ?y6z D ?r6z
  case y6z=>rintro w ⟨s0,s1,s3,s4,s5,s6,s7⟩;go_simp;first|with_reducible rfl|rw[if_pos (by omega)]
  try go_frame
  refine UP 7 (v:=?v7z) ?y7z D ?r7z
  case y7z=>rintro w ⟨s0,s1,s3,s4,s5,s6,s7⟩;go_simp;first|with_reducible rfl|rw[if_pos (by omega)]
  try go_frame
  refine UP 8 (v:=?v8z) ?y8z D ?r8z
  case y8z=>rintro w ⟨s0,s1,s3,s4,s5,s6,s7⟩;go_simp;first|with_reducible rfl|rw[if_pos (by omega)]
  try go_frame
  refine wpAnyH_ready (rs:=[9,10]) (by kernel_rfl) (by simp) ?_;refine Zb rfl (fun u f=>?_) ?_
  ·try rw[if_pos (by rfl)]
   go_simp;refine(G0.o _ ((Fr.refl _ _).drew)).mono ?_;rintro e y ⟨rfl,l⟩;have d:B (F0 t y):=((Fr.refl _ _).drew).trans l;clear l;refine f.out _ _ (C.o _ d.o) (fun D=>?_);clear f u
   try go_frame
   refine wpAnyH_ready (rs:=[10]) (by kernel_rfl) (by simp) ?_;refine Zb rfl (fun u f=>?_) M
   try rw[if_pos (by rfl)]
   go_simp;refine f.out _ _ (C.o _ (d.o.alloc _)) (fun D=>?_);clear f u
   try go_frame
   refine wpAnyH_ready (rs:=[11]) (by kernel_rfl) (by simp) ?_;refine Zb rfl (fun u f=>?_) M
   try rw[if_pos (by rfl)]
   refine wp_store_row 38 _ _ rfl y.heap.size #[O K (b.1:Nat),Y b.2.1,Y b.2.2] rfl rfl 38 _ (heap_alloc_new y _) (by kernel_rfl) rfl (by simp[x3]) ?_;refine f.out _ _ (C.o _ (Fr.setRow (d.o.alloc _) (y6 d.o.size) _)) (fun _=>?_);clear f u
   try go_frame
   refine wpAnyH_done (by kernel_rfl) ?_ _;go_wp2_with fail;go_meet;exact⟨y.heap.size,rfl,Fr.setRow (d.o.alloc _) (y6 d.o.size) _,d.o.size,setRow_heap _ y.heap.size _ _ _ _ (aN y _)⟩
  refine Zb rfl (fun u f=>?_) M
  try rw[if_pos (by rfl)]
  go_simp;refine f.out _ _ (C.o _ (((Fr.refl _ _).drew).alloc _)) (fun D=>?_);clear f u
  try go_frame
  have k0:B (F0 t (t.drew.alloc (z9 #[O K 0,Y ⟨#[]⟩,Y ⟨#[]⟩] 38))):=((Fr.refl _ _).drew).alloc _;have I0:B ((t.drew.alloc (z9 #[O K 0,Y ⟨#[]⟩,Y ⟨#[]⟩] 38)).heap[t.heap.size]?=V (z9 #[O K 0,Y ⟨#[]⟩,Y ⟨#[]⟩] 38)):=aN t.drew _;refine wpAnyH_ready (rs:=[9]) (by kernel_rfl) (by simp) ?_;refine Zb rfl (fun u f=>?_) M
  try rw[if_pos (by rfl)]
  go_simp;refine(G0.o _ k0.o).mono ?_;rintro e y ⟨rfl,l⟩;have d:B (F0 t y):=k0.o.trans l;have l0:B (y.heap[t.heap.size]?=V (z9 #[O K 0,Y ⟨#[]⟩,Y ⟨#[]⟩] 38)):=l.whole I0.o (by simp);clear l;refine f.out _ _ (C.o _ d.o) (fun D=>?_);clear f u
  try go_frame
  refine wpAnyH_ready (rs:=[11]) (by kernel_rfl) (by simp) ?_;refine Zb rfl (fun u f=>?_) M
  try rw[if_pos (by rfl)]
  refine wp_store_row 38 _ _ rfl t.heap.size #[O K (b.1:Nat),Y b.2.1,Y b.2.2] rfl rfl 38 _ l0.o (by kernel_rfl) rfl (by simp[x3]) ?_;refine f.out _ _ (C.o _ (Fr.setRow d.o (y6 (G _)) _)) (fun _=>?_);clear f u
  try go_frame
  refine wpAnyH_done (by kernel_rfl) ?_ _;go_wp2_with fail;go_meet;exact⟨t.heap.size,rfl,Fr.setRow d.o (y6 (G _)) _,G _,setRow_heap y t.heap.size _ _ _ _ l0.o⟩
 obtain⟨Q1,rfl,HQ⟩:=hcut;generalize wc=W4 at*;obtain⟨h7,h8⟩:=X0.o W4 HQ.o.1;have HW:B (F0 t W4):=HQ.o.1;have Y0:B (t.heap.size<=Q1/\W4.heap[Q1]?=V (vS b)):=HQ.o.2
 have k1:(a:Int)<(a:Int)+2:=by omega
 have k2:(a:Int)+1<(a:Int)+2:=by omega
 clear HQ G0 X0;go_wp2_with fail;clear h7 h8 k1 k2
 go_loopg [10,11] a (fun m bv kv wr=>∃i,i<=a/\m=a-i/\bv=R true/\kv=O K (i:Nat)/\B (F0 W4 wr))
 case atStart=>exact⟨0,q7 _,rfl,rfl,rfl,Fr.refl _ _⟩
 obtain⟨i,hi,rfl,rfl,rfl,m0⟩:=hrel;by_cases y1:i<a
 ·have z1:(i:Int)<(a:Int):=by omega
  have E1:(i:Int)<(a:Int)+2:=by omega
  obtain⟨sx,g,o,rfl,r1,r2⟩:=v1.o wr (HW.o.trans m0.o) i y1;obtain⟨_,_,_,_,_,_,r7⟩:=C.o wr (HW.o.trans m0.o);go_upto_region 11 with fail
  go_quiet (fail)
  have A1:B (F0 W4 (wr.drewN nq)):=m0.o.trans ⟨rfl,rfl,rfl,G _,fun _ _ _=>rfl⟩;go_wp2_with fail;go_roundg (a-(i+1))
  case measure=>omega
  exact⟨i+1,by omega,rfl,rfl,by go_num,A1⟩
 have z1:¬(i:Int)<(a:Int):=by omega
 have n0:=Za (HW.o.trans m0.o)
 have x:B (∀W,F0 wr W->W.cell? ⟨X,0,J⟩=V (U (V ⟨T,0,J⟩))/\W.cell? ⟨X,1,J⟩=V (U (V ⟨q,0,J⟩))/\W.cell? ⟨P,3,J⟩=V (Y p.pan)/\W.cell? ⟨P,4,J⟩=V (O K p.mcc)/\W.cell? ⟨P,5,J⟩=V (O K p.am)/\W.cell? ⟨P,6,J⟩=V (O K p.cur)/\W.cell? ⟨P,7,J⟩=V (Z da a dc)):=fun W F=>C.o W (n0.o.trans F)
 have Z0:B (∀W,F0 wr W->N I 56 #[U (V ⟨q,0,J⟩),x8 #[Y p.pan,O K p.mcc,O K p.am,O K p.cur],Z da a dc] W fun e w'=>e=E (x8 #[O K (b.1:Nat),Y b.2.1,Y b.2.2])/\F0 W w'):=fun W F=>x1.o W (n0.o.trans F)
 go_upto_region 12 with fail
 go_cut [12] (fun v wx=>∃Q,v=U (V ⟨Q,0,J⟩)/\B (F0 wr wx/\wr.heap.size<=Q/\wx.heap[Q]?=V (vS b)))
 case first=>
  refine wp_region_held_drew (S:=fun W=>W.cell? ⟨X,0,J⟩=V (U (V ⟨T,0,J⟩))/\W.cell? ⟨X,1,J⟩=V (U (V ⟨q,0,J⟩))/\W.cell? ⟨P,3,J⟩=V (Y p.pan)/\W.cell? ⟨P,4,J⟩=V (O K p.mcc)/\W.cell? ⟨P,5,J⟩=V (O K p.am)/\W.cell? ⟨P,6,J⟩=V (O K p.cur)/\W.cell? ⟨P,7,J⟩=V (Z da a dc)) (by kernel_rfl) (x.o _ (Fr.refl _ _).drew) (fun D=>?_)
  iterate 8 (refine YO 0 D ?_;try go_frame)
  refine wpAnyH_ready (rs:=[8,9]) (by kernel_rfl) (by simp) ?_;refine Zb rfl (fun u f=>?_) ?_
  ·try rw[if_pos (by rfl)]
   go_simp;refine(Z0.o _ ((Fr.refl _ _).drew)).mono ?_;rintro e y ⟨rfl,l⟩;have d:B (F0 wr y):=((Fr.refl _ _).drew).trans l;clear l;refine f.out _ _ (x.o _ d.o) (fun D=>?_);clear f u
   try go_frame
   refine wpAnyH_ready (rs:=[9]) (by kernel_rfl) (by simp) ?_;refine Zb rfl (fun u f=>?_) M
   try rw[if_pos (by rfl)]
   go_simp;refine f.out _ _ (x.o _ (d.o.alloc _)) (fun D=>?_);clear f u
   try go_frame
   refine wpAnyH_ready (rs:=[10]) (by kernel_rfl) (by simp) ?_;refine Zb rfl (fun u f=>?_) M
   try rw[if_pos (by rfl)]
   refine wp_store_row 38 _ _ rfl y.heap.size #[O K (b.1:Nat),Y b.2.1,Y b.2.2] rfl rfl 38 _ (heap_alloc_new y _) (by kernel_rfl) rfl (by simp[x3]) ?_;refine f.out _ _ (x.o _ (Fr.setRow (d.o.alloc _) (y6 d.o.size) _)) (fun _=>?_);clear f u
   try go_frame
   refine wpAnyH_done (by kernel_rfl) ?_ _;go_wp2_with fail;go_meet;exact⟨y.heap.size,rfl,Fr.setRow (d.o.alloc _) (y6 d.o.size) _,d.o.size,setRow_heap _ y.heap.size _ _ _ _ (aN y _)⟩
  refine Zb rfl (fun u f=>?_) M
  try rw[if_pos (by rfl)]
  go_simp;refine f.out _ _ (x.o _ (((Fr.refl _ _).drew).alloc _)) (fun D=>?_);clear f u
  try go_frame
  have k0:B (F0 wr (wr.drew.alloc (z9 #[O K 0,Y ⟨#[]⟩,Y ⟨#[]⟩] 38))):=((Fr.refl _ _).drew).alloc _;have I0:B ((wr.drew.alloc (z9 #[O K 0,Y ⟨#[]⟩,Y ⟨#[]⟩] 38)).heap[wr.heap.size]?=V (z9 #[O K 0,Y ⟨#[]⟩,Y ⟨#[]⟩] 38)):=aN wr.drew _;refine wpAnyH_ready (rs:=[8]) (by kernel_rfl) (by simp) ?_;refine Zb rfl (fun u f=>?_) M
  try rw[if_pos (by rfl)]
  go_simp;refine(Z0.o _ k0.o).mono ?_;rintro e y ⟨rfl,l⟩;have d:B (F0 wr y):=k0.o.trans l;have l0:B (y.heap[wr.heap.size]?=V (z9 #[O K 0,Y ⟨#[]⟩,Y ⟨#[]⟩] 38)):=l.whole I0.o (by simp);clear l;refine f.out _ _ (x.o _ d.o) (fun D=>?_);clear f u
  try go_frame
  refine wpAnyH_ready (rs:=[10]) (by kernel_rfl) (by simp) ?_;refine Zb rfl (fun u f=>?_) M
  try rw[if_pos (by rfl)]
  refine wp_store_row 38 _ _ rfl wr.heap.size #[O K (b.1:Nat),Y b.2.1,Y b.2.2] rfl rfl 38 _ l0.o (by kernel_rfl) rfl (by simp[x3]) ?_;refine f.out _ _ (x.o _ (Fr.setRow d.o (y6 (G _)) _)) (fun _=>?_);clear f u
  try go_frame
  refine wpAnyH_done (by kernel_rfl) ?_ _;go_wp2_with fail;go_meet;exact⟨wr.heap.size,rfl,Fr.setRow d.o (y6 (G _)) _,G _,setRow_heap y wr.heap.size _ _ _ _ l0.o⟩
 obtain⟨Q2,rfl,HQ⟩:=hcut;have J0:=Za ((i0.o.trans n0.o).trans HQ.o.1)
 obtain⟨c1,a1⟩:∃c1:Nat->Nat,c1=fun k=>if k=A then 7 else if w.heap.size<=k then 0 else c k:=⟨_,rfl⟩
 have o0:B (Wz w c c1/\c1 A=7/\∀k,w.heap.size<=k->k≠A->c1 k=0):=by
  subst a1;refine⟨fun k hk=>?_,if_pos rfl,fun k hk hn=>?_⟩
  ·have:=H0.o.2
   dsimp only
   rw[if_neg (by omega),if_neg (by omega)]
  dsimp only
  rw[if_neg hn,if_pos hk]
 clear a1
 have HT:B (N I 84 #[U (V ⟨L,0,J⟩),Z (V ⟨A,0,J⟩) (a+2) (a+2)] wc fun e w'=>e=E (.tuple #[])/\∃c0 d0 es',OW wc c1 w' L v c0 ov d0 kv (b0+1) xs es' fs/\es'.length=es.length+4/\(∀e,e∈es'->e∈es\/e.n<=8796093022208)/\SG [1,3,4,7] c1 wc w'):=by
  obtain⟨b1,b2,b3,b4⟩:=HB.o;obtain⟨ys,d1⟩:=(g0.o.fr (n0.o.trans HQ.o.1) (by simp)).row (L:=L) (by have:=M0.o;have:=L0.o.2;omega) (by have:=r.o;unfold maxLen;omega);rw[r.o]at d1;refine Li c1 wc L v nv ov mv kv b0 xs es fs (V ⟨A,0,J⟩) (a+2) (a+2) ys (HS.o.keep J0.o o0.o.1) d1 (P4 o0.o.2.1) (fun e he k hk g e1 e2=>?_) b1 b2 (by have:=r.o;omega);obtain⟨g',k1,_,cs,k3,_⟩:=HS.o.n.el e (by simpa using he) k hk;rw[k1]at e1;injection e1 with e1;injection e1 with e1
  have:A=g:=by simpa[Value.ownBlock]using e2
  have:=(iA.1 k3).1;have:=H0.o.2;omega
 go_upto_region 13 with fail;go_wp2_with fail;refine HT.o.mono ?_;rintro e w7 ⟨rfl,c0,d0,es',⟨c7,a7,h7⟩,l7,m7,h9⟩;have H7:B ((∃c0 d0 es',OW w c w7 L v c0 ov d0 kv (b0+1) xs es' fs/\es'.length=es.length+4/\∀e,e∈es'->e∈es\/e.n<=8796093022208)/\SG [1,3,4,7] c w w7):=⟨⟨c0,d0,es',⟨c7,o0.o.1.trans a7 J0.o.size,h7⟩,l7,m7⟩,SG.cls (J0.o.mono (by simp)) o0.o.1 h9 fun i hi=>hi⟩
 have K0:∀Q,t.heap.size<=Q->¬c1 Q∈[1,3,4,7]:=by
  intro Q hQ;rw[o0.o.2.2 Q (by have:=i0.o.size;omega) (by have:=H0.o.1;omega)]
  decide
 have o1:=h9.whole (HQ.o.1.whole (m0.o.whole Y0.o.2 (by simp)) (by simp)) (K0 Q1 Y0.o.1);have o2:=h9.whole HQ.o.2.2 (K0 Q2 (q5 n0.o.size HQ.o.2.1));have p0:w7.cell? ⟨Q1,0,J⟩=V (O K (b.1:Nat)):=bC o1 0 _ rfl;have p1:w7.cell? ⟨Q1,1,J⟩=V (Y b.2.1):=bC o1 1 _ rfl;have p2:w7.cell? ⟨Q1,2,J⟩=V (Y b.2.2):=bC o1 2 _ rfl;have q0:w7.cell? ⟨Q2,0,J⟩=V (O K (b.1:Nat)):=bC o2 0 _ rfl;have q1:w7.cell? ⟨Q2,1,J⟩=V (Y b.2.1):=bC o2 1 _ rfl;have q2:w7.cell? ⟨Q2,2,J⟩=V (Y b.2.2):=bC o2 2 _ rfl;clear h7 a7 l7 m7 h9 K0 o1 o2 HT;go_wp2_with fail;go_ret;exact⟨rfl,H7.o⟩
def Nb (c:Nat->Nat)(w:World)(L d:Nat)(es f:List J9)(w':World):Prop:=
 (∃v g h i j a l es' b,OW w c w' L v g h i j a l es' b/\a<=d+1/\es'.length<=es.length+4/\b.length<=f.length+4/\(∀e,e∈es'->e∈es\/e.n<=8796093022208)/\∀e,e∈b->e∈f\/e.n<=8796093022208)/\Fr (fun k=>c k≠0) w w'
theorem Nb.of {c w W w' L d a es f es' b v i j l m o Q}(p:F0 w W)(h:OW W c w' L v i j l m a o es' b)(q:a<=d+1)(r:es'.length<=es.length+4)(s:b.length<=f.length+4)(t:∀e,e∈es'->e∈es\/e.n<=8796093022208)(u:∀e,e∈b->e∈f\/e.n<=8796093022208)(x:SG Q c W w')(y:0∉Q):Nb c w L d es f w':=by
 obtain⟨z,A,B⟩:=h;exact⟨⟨v,i,j,l,m,a,o,es',b,⟨z,fun k g=>A k (nL g p.size),B⟩,q,r,s,t,u⟩,(p.mono).trans (x.mono fun k g e=>y (e▸g))⟩
theorem Nb.same {c w w' L a es d v f g i j k}(l:F0 w w')(h:RA c w' L v f g i j a k es d):Nb c w L a es d w':=
 Nb.of (Q:=[]) l ⟨c,Wz.refl _ _,h⟩ (by omega) (by omega) (by omega) (fun e b=>y9 b) (fun e b=>y9 b) Zt (by simp)
theorem LY (c w L v j k l m a n es b q s d f r g t u x y)(h:RA c w L v j k l m a n es b):
  N I 26 #[U (V ⟨L,0,J⟩),Dq 1 q s d f r g t u x y] w fun e w'=>e=E (R true)/\Nb c w L a es b w':=by
 unfold Dq;have z:=Za h;go_enter Tryz.func26,Tryz.ntmps26;go_wp2_with fail;generalize A:w.alloc _=W at*;have p:B (F0 w W):=Ed A;refine(R7 c W L v j k l m a n es b s (z.o.keep p.o (Wz.refl _ _))).mono ?_;rintro e C ⟨rfl,⟨v',D,F⟩,G⟩;have H:B (Nb c w L a es b C):=Nb.of p.o F (by omega) (by omega) (by omega) (fun e i=>y9 i) (fun e i=>y9 i) G (by decide);go_wp2;go_ret;exact⟨rfl,H.o⟩
theorem EN (c w L r t u v a x es i y z k j s b d l f m n p q)(h:RA c w L (Z y 0 z) r t u v a x es i)(F:k<=6)(A:k≠1):
  N I 26 #[U (V ⟨L,0,J⟩),Dq k j s b d l f m n p q] w fun e w'=>e=E (R true)/\Nb c w L a es i w':=by
 have B:=Za h
 have G:(k==1)=false:=by simp;omega
 have H:(k==7)=false:=by simp;omega
 have K:(k==9)=false:=by simp;omega
 have C:(k==10)=false:=by simp;omega
 have g:=(Vx w (Sl k j s b d l f m n p q)).1;have D:=bC (g.o.whole h.bx) 0 _ rfl;unfold Sl at g D;unfold Dq;go_enter Tryz.func26,Tryz.ntmps26;go_wp2;go_ret;exact⟨rfl,Nb.same g.o (B.o.keep g.o (Wz.refl _ _))⟩
theorem RA.pick {c w L v j l m n b a es o}(h:RA c w L v j l m n b a es o)(k)(f:k<a.length):∃g d X,v=Z (V ⟨g,0,J⟩) a.length d/\w.cell? ⟨g,k,J⟩=V (U (V ⟨X,0,J⟩))/\X∈a:=by
 obtain⟨g,d,e,p,q⟩:=h.tv.form (by omega);subst e;have i:=h.tv.cells (g:=g) rfl _ _ (show(a.map fun X=>Value.pointer (V ⟨X,0,J⟩))[k]?=V (U (V ⟨a[k],0,J⟩)) by rw[List.getElem?_map,gE f];rfl);rw[TM,Nat.zero_add]at i;exact⟨g,d,a[k],rfl,i,List.getElem_mem f⟩
theorem EO (c w L v nv ov mv kv b P es z k l s f m Q p F D S up dl)(h:RA c w L v nv ov mv kv b P es z)(h0:0<P.length)(hk:k<=6)(H0:k≠1)(g0: -9223372036854775808<=l)(i0:l<=9223372036854775807)(ht:∀w',Fr (fun k=>L<=k) w w'->QW w'/\LP w')(j0:dl.length=D)(hd:Ye w F dl)(hs:f.size<=maxLen)(hc:b<=4611686018427387904)(hE:(es.length+4)*24<=140737488355328)(k0:(z.length+4)*24<=140737488355328)(hN:(D+6)*16<=140737488355328):
  N I 26 #[U (V ⟨L,0,J⟩),Dq k l s f m Q p F D S up] w fun e w'=>e=E (R true)/\Nb c w L b es z w':=by
 have e1:(k==1)=false:=by simp;omega
 have e7:(k==7)=false:=by simp;omega
 have e9:(k==9)=false:=by simp;omega
 have I0:(k==10)=false:=by simp;omega
 have HF:=(Vx w (Sl k l s f m Q p F D S up)).1;have HT:=Za ht;have HL:=Za (h.keep HF.o (Wz.refl _ _));have hy:=aN w (Sl k l s f m Q p F D S up);have y0:=Zc hy 0;have y1:=Zc hy 1;have HY:=Za hy;have A:B (dl.length=D/\Ye w F dl/\f.size<=maxLen/\b<=4611686018427387904/\(es.length+4)*24<=140737488355328/\(z.length+4)*24<=140737488355328/\(D+6)*16<=140737488355328):=⟨j0,hd,hs,hc,hE,k0,hN⟩;unfold Sl at HF HL HY y0 y1;obtain⟨n,hn⟩:∃n,P.length=n:=⟨_,rfl⟩;have HN:=Za hn
 have a0:0<n:=by omega
 have D0:n<=20:=by have:=h.few;omega
 have hp:=zt l n a0
 have J0:(RS l n:Int)<(n:Int):=by omega
 have K0:((n:Int)==0)=false:=by simp;omega
 obtain⟨g,vc,X,hv,L0,l0⟩:=HL.o.pick (RS l n) (by omega);have C:=Za l0;subst hv;rw[hn]at HL;have c0:=Zc HL.o.bx 0
 have m0:B (∀W,N I 44 #[O K l,O K n] W fun e w'=>e=E (O K (RS l n))/\w'=W):=fun W=>zu l n W g0 i0 a0 (by omega)
 unfold Dq;go_enter Tryz.func26,Tryz.ntmps26;go_wp2_with fail
 go_quiet ((go_at_call 44;exact Calls.quiet_of_same (m0.o _)))
 have HD:B (F0 (w.alloc (z9 #[O K k,O K l,Y s,Y f,O K m,O K Q,O K p,Z F D S,R up] 62)) ((w.alloc (z9 #[O K k,O K l,Y s,Y f,O K m,O K Q,O K p,Z F D S,R up] 62)).drewN nq)):=⟨rfl,rfl,rfl,G _,fun _ _ _=>rfl⟩;have z0:=HD.o.get y0;have i:=Za (HL.o.keep HD.o (Wz.refl _ _));have j:=Za (HD.o.whole HY.o);have d:=Za (HF.o.trans HD.o);generalize(w.alloc _).drewN nq=W at*;by_cases n0:k=2
 ·subst n0
  obtain⟨T,q,rts,H,lo,o0,E0,G0,_,h2,_,_,p0,_⟩:=(i.o.tb X C.o).now;obtain⟨q0,a,body,h8⟩:=p0 W Zt;have b0:=Za (q0.text (HT.o W (d.o.mono)).1);obtain⟨tx,d0⟩:∃tx,ZQ (if lo=true then[]else VF rts H)=tx:=⟨_,rfl⟩;rw[d0]at b0;have e0:=Za d0;have r0:=Za h8;have HX:=Za h2;have x0:=Zc h2 0;go_wp2_with fail;refine b0.o.mono ?_;rintro e w5 ⟨rfl,hf⟩;have f0:=Za hf;have x1:=bC (hf.whole HX.o) 1 _ rfl;have x2:=bC (hf.whole HX.o) 2 _ rfl
  have s0:B (N I 45 #[U (V ⟨q,0,J⟩)] w5 fun e w'=>e=E (Y (ZQ (VF rts H)))/\w'=w5):=by
   have hr:=r0.o.fr hf;obtain⟨⟨a',c',k1,k2⟩,_,⟨k3,k4⟩,k5,_⟩:=hr;refine(CK w5 q a' c' body k1 (fun h=>by obtain⟨g',e,_,_,r⟩:=k2 h;exact⟨g',e,r⟩) k3 k4).mono ?_;rintro e w' ⟨⟨t,rfl,ht⟩,rfl⟩;refine⟨?_,rfl⟩;rw[<-k5]at ht
   have:t=ZQ (VF rts H):=by
    unfold ZQ;rw[<-ht]
   rw[this]
  go_wp2_with fail;refine s0.o.mono ?_;rintro e w6 ⟨rfl,hw⟩;replace hw:=hw.symm;subst hw
  cases lo
  case' true=>obtain rfl:tx=⟨#[]⟩:=e0.o.symm
  case' false=>obtain rfl:tx=ZQ (VF rts H):=e0.o.symm
  all_goals
   go_wp2;go_ret;exact⟨rfl,Nb.same (d.o.trans f0.o) (i.o.keep f0.o (Wz.refl _ _))⟩
 by_cases t0:k=3
 ·subst t0
  have u:B (N I 46 #[U (V ⟨L,0,J⟩),U (V ⟨X,0,J⟩),x8 #[O K 3,O K l,Y s,Y f,O K m,O K Q,O K p,Z F D S,R up]] W fun e w'=>e=E (R true)/\Nb c w L b es z w'):=by
   obtain⟨d1,d2,d3,d4,d5,_,d6⟩:=A.o;have e:=J8 c W L (Z (V ⟨g,0,J⟩) n vc) nv ov mv kv b P es z X 3 l s ⟨f,m,Q,p⟩ F dl S up i.o (i.o.tb X C.o) (d2.fr d.o) d3 d4 d5 (by omega);rw[d1]at e;refine e.mono ?_;rintro e w' ⟨r1,⟨v0,w0,es',r2,r3,r4⟩,r5⟩;exact⟨r1,Nb.of d.o r2 (by omega) (by omega) (by omega) r4 (fun e M=>y9 M) r5 (by decide)⟩
  have z1:=Zc j.o 1;have z2:=Zc j.o 2;have z3:=Zc j.o 3;have z4:=Zc j.o 4;have z5:=Zc j.o 5;have z6:=Zc j.o 6;have z7:=Zc j.o 7;have z8:=Zc j.o 8;go_wp2_with fail;refine u.o.mono ?_;rintro e w5 ⟨rfl,x⟩;have y:=Za x;go_wp2;go_ret;exact⟨rfl,y.o⟩
 by_cases A0:k=4
 ·subst A0
  have u:B (N I 47 #[U (V ⟨L,0,J⟩),U (V ⟨X,0,J⟩)] W fun e w'=>e=E (R true)/\Nb c w L b es z w'):=(J7 c W L (Z (V ⟨g,0,J⟩) n vc) nv ov mv kv b P es z X i.o C.o (HT.o W (d.o.mono)).1 A.o.2.2.2.1 A.o.2.2.2.2.2.1).mono (by
   rintro e w' ⟨r1,⟨M0,N0,O0,r2,r3,r4⟩,r5⟩
   exact⟨r1,Nb.of d.o r2 (by omega) (by omega) (by omega) (fun e M=>y9 M) r4 r5 (by decide)⟩)
  go_wp2_with fail;refine u.o.mono ?_;rintro e w5 ⟨rfl,x⟩;have y:=Za x;go_wp2;go_ret;exact⟨rfl,y.o⟩
 by_cases B0:k=5
 ·subst B0
  have u:B (N I 48 #[U (V ⟨L,0,J⟩),U (V ⟨X,0,J⟩)] W fun e w'=>e=E (R true)/\Nb c w L b es z w'):=(GP c W L (Z (V ⟨g,0,J⟩) n vc) nv ov mv kv b P es z X i.o C.o A.o.2.2.2.1 A.o.2.2.2.2.1).mono (by
   rintro e w' ⟨r1,⟨v0,w0,es',r2,r3,r4⟩,r5⟩
   exact⟨r1,Nb.of d.o r2 (by omega) (by omega) (by omega) r4 (fun e M=>y9 M) r5 (by decide)⟩)
  go_wp2_with fail;refine u.o.mono ?_;rintro e w5 ⟨rfl,x⟩;have y:=Za x;go_wp2;go_ret;exact⟨rfl,y.o⟩
 by_cases C0:k=6
 ·subst C0
  have u:B (N I 49 #[U (V ⟨L,0,J⟩),U (V ⟨X,0,J⟩)] W fun e w'=>e=E (R true)/\Nb c w L b es z w'):=(EM c W L (Z (V ⟨g,0,J⟩) n vc) nv ov mv kv b P es z X i.o C.o (HT.o W (d.o.mono)).2).mono (by
   rintro e w' ⟨r1,⟨v',P0,r2⟩,r3⟩
   exact⟨r1,Nb.of d.o r2 (by omega) (by omega) (by omega) (fun e M=>y9 M) (fun e M=>y9 M) r3 (by decide)⟩)
  go_wp2_with fail;refine u.o.mono ?_;rintro e w5 ⟨rfl,x⟩;have y:=Za x;go_wp2;go_ret;exact⟨rfl,y.o⟩
 have f2:(k==2)=false:=by simp;omega
 have f3:(k==3)=false:=by simp;omega
 have f4:(k==4)=false:=by simp;omega
 have f5:(k==5)=false:=by simp;omega
 have f6:(k==6)=false:=by simp;omega
 have f8:(k==8)=false:=by simp;omega
 go_wp2;go_ret;exact⟨rfl,Nb.same d.o i.o⟩
def Qv (w:World)(L m:Nat):Prop:=∃c v d f g h a i es b,RA c w L v d f g h a i es b/\(∀k,k<L->c k=0)/\a<=m/\es.length<=4*m/\b.length<=4*m/\∀e,e∈es\/e∈b->e.n<=8796093022208
theorem Nb.all {c w w' L a m es d}(h:Nb c w L a es d w')(B:L<w.heap.size)(j:∀k,k<L->c k=0)(C:a<=m)(D:es.length<=4*m)(E:d.length<=4*m)(l:∀e,e∈es\/e∈d->e.n<=8796093022208):Qv w' L (m+1)/\Fr (fun k=>L<=k) w w':=by
 obtain⟨⟨v,o,p,q,r,b,s,es',f,⟨t,u,x⟩,F,G,H,y,z⟩,A⟩:=h;refine⟨⟨t,v,o,p,q,r,b,s,es',f,x,fun k g=>(u k (by omega)).trans (j k g),by omega,by omega,by omega,?_⟩,A.mono fun k g=>Nat.le_of_not_lt fun e=>g (j k e)⟩;rintro e (i|i)
 ·exact(y e i).elim (fun h=>l e (y9 h)) id
 exact(z e i).elim (fun h=>l e (y6 h)) id
theorem K5 (w L m k g s a b n d l i o p x)(h:Qv w L m)(H:k<=6)(y: -9223372036854775808<=g)(z:g<=9223372036854775807)(K:∀w',Fr (fun k=>L<=k) w w'->QW w'/\LP w')(A:x.length=i)(M:Ye w l x)(O:a.size<=maxLen)(hm:96*m+96<=140737488355328)(P:(i+6)*16<=140737488355328):
  N I 26 #[U (V ⟨L,0,J⟩),Dq k g s a b n d l i o p] w fun e w'=>e=E (R true)/\Qv w' L (m+1)/\Fr (fun k=>L<=k) w w':=by
 obtain⟨c,v,B,C,D,F,f,t,es,u,r,Q,S,T,W,X⟩:=h;have Y:=(iA.1 r.bx).1
 have q:N I 26 #[U (V ⟨L,0,J⟩),Dq k g s a b n d l i o p] w fun e w'=>e=E (R true)/\Nb c w L f es u w':=by
  by_cases j:k=1
  ·subst j
   exact LY c w L v B C D F f t es u g s a b n d l i o p r
  rcases Nat.eq_zero_or_pos t.length with G|G
  ·obtain⟨Z,vc,e⟩:=oL r.tv
   rw[G]at e;subst e;exact EN c w L B C D F f t es u Z vc k g s a b n d l i o p r H j
  exact EO c w L v B C D F f t es u k g s a b n d l i o p x r G H j y z K A M O (by omega) (by omega) (by omega) P
 exact q.mono fun e w' ⟨r1,r2⟩=>⟨r1,r2.all Y Q S T W X⟩
theorem Qv.fr {w w' L m}(h:Qv w L m)(b:F0 w w'):Qv w' L m:=by
 obtain⟨c,v,d,e,f,g,a,i,es,j,k,l⟩:=h;exact⟨c,v,d,e,f,g,a,i,es,j,k.keep b (Wz.refl _ _),l⟩
theorem Qv.up {w L m}(h:Qv w L m):Qv w L (m+1):=by
 obtain⟨c,v,b,d,e,f,a,g,es,i,j,k,n,o,p,l⟩:=h;exact⟨c,v,b,d,e,f,a,g,es,i,j,k,by omega,by omega,by omega,l⟩
theorem Qv.still {w L m}(h:Qv w L m)(o:4*m<=8796093022208):N I 29 #[U (V ⟨L,0,J⟩)] w fun e w'=>e=E (R true)/\F0 w w':=by
 obtain⟨c,v,b,d,f,g,a,i,es,j,k,p,q,r,s,l⟩:=h;exact EJ c w L v b d f g a i es j k (by omega) (by omega) (fun e n=>q5 (l e n) (by unfold maxLen;omega))
theorem RA.zero {w L}(h:w.heap[L]?=V (GY (Z J 0 0) (Z J 0 0) (Z J 0 0) (Z J 0 0) (Z J 0 0) 0)):RA (fun k=>if k=L then 1 else 0) w L (Z J 0 0) (Z J 0 0) (Z J 0 0) (Z J 0 0) (Z J 0 0) 0 [] [] []:=by
 have a:∀t,Cl (fun k=>if k=L then 1 else 0) (Z J 0 0) t:=fun t k c=>by cases c
 exact⟨h,if_pos rfl,oZ _ _ _ _,a _,by simp,(fun X d=>by cases d),⟨oZ _ _ _ _,a _,oZ _ _ _ _,a _,(fun e b=>by cases b)⟩,⟨oZ _ _ _ _,a _,oZ _ _ _ _,a _,(fun e b=>by cases b)⟩⟩
theorem GQ (w sa n c)(hn:96*n+192<=140737488355328)(W:∀i,i<n->∃b o,sa=V ⟨b,o,J⟩/\b<w.heap.size/\GE w b (o+i*9))(ht:∀w',Below w.heap.size w w'->QW w'/\LP w'):
  N I 11 #[Z sa n c,O K 6] w fun e w'=>e=E (R true)/\Below w.heap.size w w':=by
 have HS:=Za W;have HT:=Za ht
 have k0:(n:Int)<=9223372036854775807:=by omega
 clear W ht;go_enter Tryz.func11,Tryz.ntmps11;go_wp2_with fail;have q:=aN w (z9 #[Z J 0 0,Z J 0 0,Z J 0 0,Z J 0 0,Z J 0 0,Z J 0 0,O K 0] 58);have r:=(Vx w (z9 #[Z J 0 0,Z J 0 0,Z J 0 0,Z J 0 0,Z J 0 0,Z J 0 0,O K 0] 58)).1;have HL:=Za (RA.zero q);clear q;refine(R7 _ _ w.heap.size _ _ _ _ _ _ [] [] [] _ HL.o).mono ?_;rintro e t ⟨rfl,⟨v1,Y,⟨c1,u,v⟩⟩,y⟩;have l:B (Qv t w.heap.size 0):=⟨c1,v1,_,_,_,_,0,Y,[],[],v,fun k j=>(u k (by simp;omega)).trans (if_neg (by omega)),by omega,by simp,by simp,fun x hx=>by rcases hx with h|h<;>cases h⟩
 have f:B (Fr (fun k=>w.heap.size<=k) w t):=(r.o.mono).trans (y.mono fun k j=>by
  by_cases e:k=w.heap.size
  ·omega
  dsimp only at j
  rw[if_neg e]at j
  simp at j)
 clear v y u HL r;obtain⟨L,X⟩:∃L,w.heap.size=L:=⟨_,rfl⟩;rw[X]at l f;have g:=Za X;rw[X];clear X
 have a:B (N I 26 #[U (V ⟨L,0,J⟩),Dq 3 0 ⟨#[]⟩ ⟨#[52,49,50,51,52,53]⟩ 0 0 0 J 0 0 false] t fun e w'=>e=E (R true)/\Qv w' L (0+1)/\Fr (fun k=>L<=k) t w'):=
  K5 t L 0 3 0 ⟨#[]⟩ ⟨#[52,49,50,51,52,53]⟩ 0 0 0 J 0 0 false [] l.o (by omega) (by omega) (by omega) (fun w' hw=>HT.o w' ((f.o.trans hw).below (G _) (fun k j=>by have:=g.o;omega))) rfl (fun k s W=>by simp at W) (by decide) (by omega) (by omega)
 unfold Dq at a;go_wp2_with fail;refine a.o.mono ?_;rintro e w2 ⟨rfl,z,A⟩;have a0:=Za z;have b0:=Za (f.o.trans A);clear z A a l f;go_wp2_with fail
 go_loopg [6,8] 0 (fun _ ok kk wr=>ok=R true/\kk=O K 0/\B (wr=w2))
 case atStart=>exact⟨rfl,rfl,rfl⟩
 obtain⟨rfl,rfl,HW⟩:=hrel;have e:=HW.o;subst e;go_wp2_with fail
 go_loopg [6,14] n (fun m ok ii wr=>∃i,i<=n/\m=n-i/\ok=R true/\ii=O K (i:Nat)/\B (Qv wr L (i+1))/\B (Fr (fun k=>L<=k) w wr))
 case atStart=>exact⟨0,q7 _,rfl,rfl,rfl,a0,b0⟩
 obtain⟨i,hi,rfl,rfl,rfl,C,d⟩:=hrel;by_cases d0:i<n
 ·have e0:(i:Int)<(n:Int):=by omega
  obtain⟨b,o,rfl,hb,D⟩:=HS.o i d0;obtain⟨k,on,s,F,H,am,M,da,dn,dc,up,dl,hD,c0,c1,c2,c3,c4,c5,c6,c7,c8⟩:=D.fr d.o hb (q4 g.o);have f0:=Za hD;clear D hD;by_cases j:6<k
  ·go_wp2
   go_roundg (n-(i+1))
   case measure=>omega
   exact⟨i+1,by omega,rfl,rfl,by go_num,C.o.up,d⟩
  have P:k<=6:=by omega
  have a:B (N I 26 #[U (V ⟨L,0,J⟩),Dq k on s F H am M da dn dc up] wr fun e w'=>e=E (R true)/\Qv w' L (i+1+1)/\Fr (fun k=>L<=k) wr w'):=by
   obtain⟨d1,d2,d3,d4,d5,d6⟩:=f0.o;exact K5 wr L (i+1) k on s F H am M da dn dc up dl C.o P d1 d2 (fun w' hw=>HT.o w' ((d.o.trans hw).below (G _) (fun k j=>by have:=g.o;omega))) d3 d4 d5 (by omega) d6
  unfold Dq at a;clear P;go_wp2_with fail;refine a.o.mono ?_;rintro e w4 ⟨rfl,Q,S⟩;have T:=Za Q;have g0:=Za (d.o.trans S);clear Q S c0 c1 c2 c3 c4 c5 c6 c7 c8;have h0:=Za (T.o.still (by omega));go_wp2_with fail;refine h0.o.mono ?_;rintro e w5 ⟨rfl,p⟩;have i0:=Za (T.o.fr p);have j0:=Za (g0.o.trans (p.mono));clear p;go_wp2;go_roundg (n-(i+1))
  case measure=>omega
  exact⟨i+1,by omega,rfl,rfl,by go_num,i0,j0⟩
 have e0:¬(i:Int)<(n:Int):=by omega
 go_wp2;go_ret;exact⟨rfl,d.o.below (G _) (fun k j=>by have:=g.o;omega)⟩
theorem K6 (w a n c)(d:96*n+192<=140737488355328)(f:∀i,i<n->∃b o,a=V ⟨b,o,J⟩/\b<w.heap.size/\GE w b (o+i*9))(g:∀w',Below w.heap.size w w'->QW w'/\LP w'):
  N I 6 #[Z a n c] w fun e w'=>e=E (R true)/\Below w.heap.size w w':=by
 have j:=Za (GQ w a n c d f g);clear d f g;go_enter Tryz.func6,Tryz.ntmps6;go_wp2_with fail;refine j.o.mono ?_;rintro e l ⟨rfl,h⟩;have k:=Za h;clear h;go_wp2;go_ret;exact⟨rfl,k.o⟩
open Go.ChangeShapes Go.WideShapes Go.ChangeAt Go.Deep
theorem tU:I.globalNamed "internal/strconv.uint64pow10" =V 1:=by kernel_rfl
theorem yq:(I.globals[1]?).map (·.type)=V 351:=by kernel_rfl
theorem yr:I.cellsOf 351=20:=by kernel_rfl
theorem xN:I.cellsOf 328=1:=by kernel_rfl
theorem yt:(I.globals[0]?).map (·.type)=V 275:=by kernel_rfl
theorem yu:I.cellsOf 275=16:=by kernel_rfl
theorem xO:I.cellsOf 221=1:=by kernel_rfl
theorem wG {W}(h:laidMetH I Rows.loadsRow.laid W):QW W/\LP W:=by
 have a:laidMet I Rows.loadsRow.laid W:=h;exact⟨Lib.tabIs_of_head tU yq Tryz.underlying351 Tryz.underlying328 xN yr a.tail.tail.tail,Lib.tabIs_of_head ur yt Tryz.underlying275 Tryz.underlying221 xO yu a⟩
set_option maxRecDepth 100000 in
theorem yv (os):laidMet I Rows.loadsRow.laid ((x4 I os Rows.loadsRow.laid).forCall (fun _ _=>0) ⟨#[],#[Z J 0 0],[]⟩).memory:=
 laidMet_laidAll _ (by kernel_rfl) (by kernel_rfl)
set_option maxRecDepth 100000 in
theorem BO (os):((x4 I os Rows.loadsRow.laid).forCall (fun _ _=>0) ⟨#[],#[Z J 0 0],[]⟩).variablesRefB Tryz.checked.prog=true:=by kernel_rfl
theorem Yq:ownKnob I.godebug=J:=by kernel_rfl
theorem xP:laidOutB I=true:=by kernel_rfl
theorem DS:I.cellsOf 62=9:=by kernel_rfl
theorem GR:I.cellsOf 3=1:=by kernel_rfl
theorem Lk:I.cellsOf 9=1:=by kernel_rfl
theorem yw:I.cellsOf 35=4:=by kernel_rfl
theorem BP:I.cellsOf 28=1:=by kernel_rfl
theorem BQ:I.cellsOf 4=1:=by kernel_rfl
theorem xQ:I.bytesOf 62=104:=by kernel_rfl
theorem yx:I.bytesOf 9=16:=by kernel_rfl
theorem Rh {H:Type}{P:Program}{e:TypeId}:∀{l:List (DataW H)}{d:DataW H},d∈l->∀n∈d.weights P e,n∈DataW.weightsAll P e l
 |x::r,d,hd,n,hn=>by
  unfold DataW.weightsAll;rcases List.mem_cons.1 hd with e|e
  ·subst e
   exact List.mem_append_left _ hn
  exact List.mem_append_right _ (Rh e n hn)
theorem DT {Q:Nat->ByteArray->Prop}:∀n,(∀i,i<n->∃s,Q i s)->∃l:List ByteArray,l.length=n/\∀k s,l[k]?=V s->Q k s
 |0,_=>⟨[],rfl,fun k s h=>by simp at h⟩
 |n+1,h=>by
  obtain⟨l,c,d⟩:=DT n (fun i hi=>h i (by omega));obtain⟨s,e⟩:=h n (by omega);refine⟨l++[s],by simp[c],fun k f a=>?_⟩;by_cases b:k<l.length
  ·rw[List.getElem?_append_left b]at a
   exact d k f a
  rw[aR (by omega)]at a
  have:k-l.length=0:=by have:=(iG.1 a).1;simp at this;omega
  rw[this]at a;injection a with a;subst a
  have:k=n:=by omega
  subst this;exact e
theorem BR {H}{enc:TypeId×x9->H}{w base d f n v x}(h:DataW.trod enc I w base d f n 28 [v]=V x)(E:∀n∈x.1.weights I 28,n<=reachBytes):
  ∃(A:Option Addr)(r F:Nat)(j:List ByteArray),v=.slice A r F/\j.length=r/\Ye w A j/\(r+6)*16<=140737488355328:=by
 rcases open_slice Tryz.underlying28 h with⟨c,_⟩|⟨a,b,cap,m,n,D,P,c,R,S,T,t,G,u⟩
 ·simp only[List.cons.injEq,and_true]at c
  exact⟨J,0,0,[],c,rfl,fun k s p=>by simp at p,by omega⟩
 simp only[List.cons.injEq,and_true]at c
 have K:b<=m:=by rw[t];split<;>omega
 have L:b*16<=reachBytes:=by
  have:=E ((b+(m-b))*16) (by rw[G];simp[DataW.weights,Tryz.underlying28,yx]);omega
 obtain⟨j,M,B⟩:=DT (Q:=fun k s=>w.cell? (a.add k)=V (.string s)) b (fun i hi=>by
  obtain⟨cs',C,N⟩:=u i (by omega);rw[Lk,q6]at C;obtain⟨s,O,_,_⟩:=DataW.trod_string Tryz.underlying9 N;subst O;obtain⟨_,_,q⟩:=x5 C;have:=q 0 (by simp);refine⟨s,?_⟩
  simpa[Addr.add]using this)
 refine⟨V a,b,cap,j,c,M,fun k s p=>?_,by unfold reachBytes at L;omega⟩;have q:=B k s p
 have y:0<j.length:=by have:=(iG.1 p).1;omega
 have z:=B 0 _ (gE y);obtain⟨g,o,l⟩:=a
 have e:l=J:=by simpa[Addr.add]using x6 z
 subst e;exact⟨g,o,rfl,by rw[add_plain]at q;exact q⟩
set_option maxRecDepth 100000 in
theorem xR {H}{enc:TypeId×x9->H}{w base d l n r x}(h:DataW.trod enc I w base d l n 62 r=V x)(t:∀n∈x.1.weights I 62,n<=reachBytes):
  ∃(k a:Int)(s b:ByteArray)(e u f:Int)(p:Option Addr)(o v:Nat)(y:Bool)(q:List ByteArray),(-9223372036854775808<=a/\a<=9223372036854775807/\q.length=o/\Ye w p q/\b.size<=maxLen/\(o+6)*16<=140737488355328)/\
   r=[.int .i64 k,.int .i64 a,.string s,.string b,.int .i64 e,.int .i64 u,.int .i64 f,.slice p o v,.bool y]:=by
 obtain⟨U,m,_,g,B,z,c⟩:=DataW.trod_struct Tryz.underlying62 h;rw[DS]at B
 match r,B,U,z,c,g with
 |[v0,v1,v2,v3,v4,v5,v6,v7,v8],_,[y0,y1,y2,y3,y4,y5],_,c,g=>
  have g0:=c 0 (Field.mk "Kind" 3 0 false "" "" 0) rfl;have g1:=c 1 (Field.mk "On" 3 1 false "" "" 8) rfl;have g2:=c 2 (Field.mk "Text" 9 2 false "" "" 16) rfl;have g3:=c 3 (Field.mk "P" 35 3 false "" "" 32) rfl;have C:=c 4 (Field.mk "Down" 28 7 false "" "" 72) rfl;have D:=c 5 (Field.mk "Up" 4 8 false "" "" 96) rfl;simp only[GR,Lk,yw,BP,BQ,List.drop_succ_cons,List.drop_zero,List.take_succ_cons,List.take_zero,List.getElem?_cons_zero,List.getElem?_cons_succ]at g0 g1 g2 g3 C D;obtain⟨k,E,_,_⟩:=DataW.trod_int Tryz.underlying3 g0;obtain⟨a,F,_,W⟩:=DataW.trod_int Tryz.underlying3 g1;obtain⟨s,G,_,_⟩:=DataW.trod_string Tryz.underlying9 g2;obtain⟨X,m',_,_,_,A,i⟩:=DataW.trod_struct Tryz.underlying35 g3;obtain⟨y,J,_⟩:=DataW.trod_bool Tryz.underlying4 D
  obtain⟨p,o,v,q,K,Y,Z,l3⟩:=BR C (fun k hk=>t k (by
   rw[g];simp only[DataW.weights,Tryz.underlying62]
   exact DataW.weights_mem_each (j:=4) rfl rfl k hk))
  match X,A,i with
  |[z0,z1,z2,z3],_,i=>
   have L:=i 0 (Field.mk "Pan" 9 0 false "" "" 0) rfl;have M:=i 1 (Field.mk "Mcc" 3 1 false "" "" 16) rfl;have N:=i 2 (Field.mk "Amount" 3 2 false "" "" 24) rfl;have O:=i 3 (Field.mk "Cur" 3 3 false "" "" 32) rfl;simp only[GR,Lk,List.drop_succ_cons,List.drop_zero,List.take_succ_cons,List.take_zero,List.getElem?_cons_zero,List.getElem?_cons_succ]at L M N O;obtain⟨b,P,_,lp⟩:=DataW.trod_string Tryz.underlying9 L;obtain⟨e,Q,_,_⟩:=DataW.trod_int Tryz.underlying3 M;obtain⟨u,R,_,_⟩:=DataW.trod_int Tryz.underlying3 N;obtain⟨f,S,_,_⟩:=DataW.trod_int Tryz.underlying3 O;simp only[List.cons.injEq,and_true]at E F G P Q R S K J;subst E F G P Q R S K J;have T: -9223372036854775808<=a/\a<=9223372036854775807:=(by simpa[Lit.wf]using W:q9.min<=a/\a<=9223372036854775807);exact⟨k,a,s,b,e,u,f,p,o,v,y,q,⟨T.1,T.2,Y,Z,lp,l3⟩,rfl⟩
set_option maxRecDepth 100000 in
theorem yy (H)(enc:TypeId×x9->H)(W base args O R r)(u:∀(j:Nat) t v,Tryz.f6.params[j]?=V t->args[j]?=V v->Value.okWide I W .any base t v)(hW:DataW.Whole enc I Tryz.f6.params.toList Rows.loadsSpec.vars false W args.toList O R r)(C:(DataW.weightsEach I (Tryz.f6.params.toList++Rows.loadsSpec.plain.varTypes I) (O++R)).all (· <=reachBytes)=true)(hL:laidMetH I Rows.loadsRow.laid W):
  N I 6 args W fun e W'=>∃v,e=.returned v/\Rows.loadsSpec.post enc I Tryz.f6 false true false false W args v W':=by
 have w:(DataW.weightsEach I (Tryz.f6.params.toList++[]) (O++R)).all (· <=reachBytes)=true:=C;have y:=hW;obtain⟨p,q,S,hV,rfl,_,_⟩:=hW;have hA:DataW.TrodAll enc I W 0 (fun _=>true) true Tryz.f6.params.toList args.toList O p:=S;rw[Tryz.params6]at hA u w;obtain⟨v0,d0,rfl,rfl,h0⟩:=trodAll_one hA;obtain⟨rfl,rfl⟩:=trodVars_none hV;have T:=h0;obtain⟨c0,hf⟩:=h0;simp only[List.append_nil]at y
 have U:∀x∈p,x.block<W.heap.size:=fun x P=>by simpa using y.lt x P
 obtain⟨a0,l,cap,rfl⟩:=okWide_slice Tryz.underlying22 (u 0 22 v0 rfl rfl)
 have hT:∀w',Below W.heap.size W w'->QW w'/\LP w':=fun w' X=>⟨(wG hL).1.below (G _) X,Lib.tabBelow_of_tabIs (wG hL).2 w' X⟩
 have E:N I 6 #[.slice a0 l cap] W fun e w'=>e=.returned (.bool true)/\Below W.heap.size W w':=by
  rcases open_slice Tryz.underlying22 hf with⟨o,_⟩|⟨a,e0,f0,m,n,D,Pl,o,X,hl,hm,Y,Z,P⟩
  ·simp[q8]at o
   obtain⟨rfl,rfl,rfl⟩:=o;exact K6 W J 0 0 (by omega) (fun i hi=>by omega) hT
  simp[q8]at o
  obtain⟨rfl,rfl,rfl⟩:=o;simp only[if_true]at Y;have hd:d0=.slice ((List.range l).map D) ((List.range (m-l)).map fun j=>D (l+j)):=congrArg Prod.fst Z
  have Q:l*104<=reachBytes:=by
   have e:=sized_slice w (j:=0) (t:=22) (e:=62) rfl (by rw[hd];rfl) Tryz.underlying22;rw[xQ]at e;simp at e;omega
  have b0:∀i,i<l->∀n∈(D i).weights I 62,n<=reachBytes:=fun i hi n hn=>by
   have e:=List.all_eq_true.1 w n (DataW.weights_mem_each (j:=0) (t:=22) (d:=d0) rfl rfl n (by
    rw[hd];simp only[DataW.weights,Tryz.underlying22]
    exact List.mem_cons_of_mem _ (List.mem_append_left _ (Rh (List.mem_map.2 ⟨i,List.mem_range.2 hi,rfl⟩) n hn))))
   simpa using e
  refine K6 W (V a) l cap (by unfold reachBytes at Q;omega) (fun i hi=>?_) hT;obtain⟨cs',h1,h2⟩:=P i (by omega);obtain⟨AY,h3,_⟩:=P 0 (by omega);rw[DS]at h1 h3;obtain⟨_,g0,z⟩:=x5 h1;obtain⟨_,A,f⟩:=x5 h3;obtain⟨k,on,s,F,K,am,L,da,dn,dc,up,dl,hD,rfl⟩:=xR h2 (b0 i hi);obtain⟨b,off,M⟩:=a
  have B:M=J:=by
   match AY,A,f with
   |c::_,_,f=>simpa[Addr.add]using x6 (f 0 (by omega))
  subst B
  have g:∀j v,[Value.int .i64 k,.int .i64 on,.string s,.string F,.int .i64 K,.int .i64 am,.int .i64 L,.slice da dn dc,.bool up][j]?=V v->W.cell? ⟨b,off+i*9+j,J⟩=V v:=fun j v hj=>by
   have:=z j (iG.1 hj).1;rw[add_plain,add_plain]at this;rw[this];exact hj
  exact⟨b,off,rfl,bL W _ (g 0 _ rfl),k,on,s,F,K,am,L,da,dn,dc,up,dl,hD,g 0 _ rfl,g 1 _ rfl,g 2 _ rfl,g 3 _ rfl,g 4 _ rfl,g 5 _ rfl,g 6 _ rfl,g 7 _ rfl,g 8 _ rfl⟩
 refine E.mono fun e W' ⟨he,Q⟩=>?_
 subst he;exact⟨_,rfl,⟨_,_,_,[],_,[],y,trodAll_mk1 (shut_bool Tryz.underlying4 true),trodAll_mk1 (Below.trod xP (by kernel_rfl) (of_decide_eq_true (by kernel_rfl)) T Q U),rfl,Q.frame _,fun h=>by cases h⟩⟩
theorem uF (os){H}(enc:TypeId×x9->H):∃a,DataW.whole enc I ((x4 I os Rows.loadsRow.laid).forCall (fun _ _=>0) ⟨#[],#[.slice J 0 0],[]⟩).memory Tryz.f6.params.toList Rows.loadsSpec.vars false #[Value.slice J 0 0].toList 8=V ([.nil],[],a):=
 ⟨[],by kernel_rfl⟩
set_option maxRecDepth 100000 in
theorem lifted (os)(a:os.Started)(H)(enc:TypeId×x9->H)(F):
    ReturnsInHanded {} Tryz.checked os 6 .any ((OpenSpec.ofChange Rows.loadsSpec).preRow enc I Tryz.f6 Rows.loadsRow.domain false Rows.loadsRow.laid) (((OpenSpec.ofChange Rows.loadsSpec).at F).post enc I Tryz.f6 false true false false):=by
  obtain⟨d,f⟩:=uF os enc;refine returnsInHanded_of_row (C:=Tryz.checked) (s:=OpenSpec.ofChange Rows.loadsSpec) Yq a (by kernel_rfl) Tryz.func6
    (witness_row_atRef (enc:=enc) (C:=Tryz.checked) false (x4 I os Rows.loadsRow.laid) #[Z J 0 0] (World.laidAll_os _ _ _) (BO os) (by kernel_rfl) (by kernel_rfl)
      (OpenSpec.preRow_of_cond 8 f (by kernel_rfl) (fun k g=>by cases g) (by kernel_rfl) (yv os))) ?_
  intro W base args h i b c j _ _ e l _ _;exact yy H enc W base args h i b c j e l
set_option maxRecDepth 100000 in
theorem tV:Rows.LoadsSaid:=
 OpenClaim.holds_of_cond 6 Tryz.f6 rfl rfl rfl rfl rfl rfl rfl ⟨rfl,rfl,rfl,rfl,rfl⟩ rfl rfl rfl rfl rfl (by kernel_rfl) Tryz.func6 Jb
  (of_decide_eq_true (by kernel_rfl)) (by unfold Func.isWrapper;first|(rw[if_pos (by decide+kernel)];kernel_rfl)|(rw[if_neg (by decide+kernel)];exact⟨rfl,rfl⟩))
  (fun os a H enc _ F=>by rw[OpenClaim.pre_eq_preRow];exact lifted os a H enc F)
theorem plain (f fn)(c:Tryz.pinned.checked.prog.funcNamed "junction/junctionlaw.Loads" =V f)(a:Tryz.pinned.checked.prog.funcs[f]?=V fn):
  true=Tryz.pinned.checked.prog.looks []/\∀(j:Nat) t,fn.params[j]?=V t->Tryz.pinned.checked.prog.wantsStandIn t=false:=by
 obtain rfl:f=6:=Option.some.inj ((show I.funcNamed "junction/junctionlaw.Loads" =V 6 by kernel_rfl).symm.trans c)|>.symm;obtain rfl:fn=Tryz.f6:=(Option.some.inj (Tryz.func6.symm.trans a)).symm;refine⟨by kernel_rfl,fun j t b=>?_⟩;rw[Tryz.params6]at b
 obtain rfl:t=22:=by simpa using Array.mem_of_getElem? b
 exact(show I.wantsStandIn 22=false by kernel_rfl)
theorem loads_card:Rows.LoadsCardSaid:=
 Claim7.holds_tied_plain_at .later [] _ _ _ _ tV (fun _ h=>by cases h) (by kernel_rfl) (fun _ h=>by cases h) loads_row_tie rfl ⟨rfl,rfl⟩ (by kernel_rfl) rfl plain (by kernel_rfl)
