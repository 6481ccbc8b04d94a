import Derived.Test.YtccikgogjfbpeaaGreatDoorAp
open Go.Value renaming string->I,int->Z,pointer->U,slice->E,string->B,bool->R,oneCell'->z9,agg->y3
open Option renaming none->J,some->V
open Go.IntKind renaming i64->Y
open Go.Proofs.Tryz renaming prog->K
open Go.RowKit renaming Hid->O
open Go.Ending renaming returned->H
open Go.AllReadyH renaming nil->D
open Nat renaming le_refl->G,zero_add->y4
open Go.Obj renaming cells->M
open Go renaming Calls->N,World->y2,Value->y5
open Or renaming inr->C,inl->F
open Go.Proofs.Tryz
namespace Go.Proofs.YtccikgogjfbpeaaGreatDoor
set_option linter.defProp false
set_option maxRecDepth 30000
set_option maxHeartbeats 8000000
open Go.RowKit
def Ke (w:y2)(A:Nat)(b:List ByteArray):Prop:=
 ∃a:Array y5,w.heap[A]?=V (M a 9)/\a.size=b.length+2/\(∀(k:Nat)(s:ByteArray),b[k]?=V s->a[k]?=V (B s))/\a[b.length]?=V (B ⟨#[98,101,104,105,110,100]⟩)/\a[b.length+1]?=V (B ⟨#[105,116]⟩)
def Ke.fr {w w' S A a}(h:Ke w A a)(b:Fr S w w')(c:¬S A:=by simp):Ke w' A a:=by
 obtain⟨cs,d,e⟩:=h;exact⟨cs,b.whole d c,e⟩
def Ke.strs {w A a}(h:Ke w A a):ZX w (V ⟨A,0,J⟩) a:=by
 intro k s b;obtain⟨cs,c,_,d,_⟩:=h;exact⟨A,0,rfl,by rw[y4];exact bC c k _ (d k s b)⟩
def Ke.row {w A L a}(h:Ke w A a)(d:L<A)(e:a.length+2<=maxLen):∃f,w.ownsRow (L+1) 9 1 (E (V ⟨A,0,J⟩) (a.length+2) (a.length+2)) (a.length+2) f:=by
 obtain⟨b,g,c,_⟩:=h;exact⟨b.toList,by simp[c],.inr ⟨A,a.length+2,b,rfl,d,g,G _,e,z,by rw[List.take_of_length_le (by simp[c])]⟩⟩
def Ke.lay {W:y2}{A a b}(h:W.heap[A]?=V (M (splice b 0 (a.map B)).toArray 9))(j:b.length=a.length+2):
  Ke ((W.setCell ⟨A,a.length,J⟩ (I ⟨#[98,101,104,105,110,100]⟩)).setCell ⟨A,a.length+1,J⟩ (I ⟨#[105,116]⟩)) A a/\(∃u,W.cell? ⟨A,a.length,J⟩=V u)/\W.frozen? ⟨A,a.length,J⟩=false/\(∃u,(W.setCell ⟨A,a.length,J⟩ (I ⟨#[98,101,104,105,110,100]⟩)).cell? ⟨A,a.length+1,J⟩=V u)/\(W.setCell ⟨A,a.length,J⟩ (I ⟨#[98,101,104,105,110,100]⟩)).frozen? ⟨A,a.length+1,J⟩=false:=by
 obtain⟨e,c⟩:=ad (splice b 0 (a.map B)).toArray
 have f:e.size=a.length+2:=by rw[<-c];simp[splice,j]
 have g:∀(k:Nat)(s:ByteArray),a[k]?=V s->e[k]?=V (B s):=fun k s d=>by
  have:=(iG.1 d).1;rw[<-c];simp[splice,List.getElem?_append,this];exact(iG.1 d).2
 rw[c]at h;have i:=heap_setCell_same W A a.length _ _ (I ⟨#[98,101,104,105,110,100]⟩) h;have l:=heap_setCell_same _ A (a.length+1) _ _ (I ⟨#[105,116]⟩) i;refine⟨⟨_,l,by simp[f],fun k s d=>?_,?_,?_⟩,⟨_,bC h _ _ (Array.getElem?_eq_getElem z)⟩,bF h _,⟨_,bC i _ _ (Array.getElem?_eq_getElem aF)⟩,bF i _⟩
 ·have:=(iG.1 d).1;rw[Array.getElem?_setIfInBounds_ne z,Array.getElem?_setIfInBounds_ne z];exact g k s d
 ·rw[Array.getElem?_setIfInBounds_ne z,Array.getElem?_setIfInBounds_self_of_lt z]
 rw[Array.getElem?_setIfInBounds_self_of_lt aF]
def wV (o:Nat×ByteArray×ByteArray):Obj:=M #[Z Y (o.1:Nat),I o.2.1,I o.2.2] 38

def I7 (c w L v bv nv ov mv kv c0 xs es fs X k on s)(p:XQ)(da dl dc up)(h:Sn c w L v bv nv ov mv kv c0 xs es fs)(hx:KQ c w X)(hd:ZX w da dl)(hs:p.pan.size<=maxLen)(hc:c0<=4611686018427387904)(hE:(es.length+4)*24<=140737488355328)(hN:(dl.length+6)*16<=140737488355328):
  N K 46 #[U (V ⟨L,0,J⟩),U (V ⟨X,0,J⟩),QY k on s p.pan p.mcc p.am p.cur da dl.length dc up] w fun e w'=>e=H (R true)/\(∃d0 e0 t,NJ w c w' L v bv d0 ov e0 kv (c0+1) xs t fs/\t.length=es.length+4/\∀e,e∈t->e∈es\/e.n<=8796093022208)/\US [1,3,4,7] c w w':=by
 obtain⟨ij,h1,i1,j1,l1⟩:=info_parts Ut;have HS:=Za h;have HX:=Za hx;have HD:O (ZX w da dl):=hd;have HB:O (c0<=4611686018427387904/\(es.length+4)*24<=140737488355328/\(dl.length+6)*16<=140737488355328/\p.pan.size<=maxLen):=⟨hc,hE,hN,hs⟩;have m1:L<w.heap.size:=(iA.1 h.bx).1;obtain⟨a,y0⟩:=ad dl.length;have r:O (dl.length=a):=y0;have C1:a<=8796093022202:=az;obtain⟨t0,f0⟩:=WM w (Yl k on s p.pan p.mcc p.am p.cur da a dc up);unfold Yl at t0 f0;unfold QY;rw[y0];clear h hx hd hs hc hE hN y0;go_enter func46,ntmps46;go_upto_region 1 with fail;generalize w.alloc _=W0 at*;obtain⟨P,hP⟩:=ad w.heap.size;have M0:O (w.heap.size=P/\L<P):=⟨hP,az⟩;rw[hP]at f0;rw[hP];have x7:W0.cell? ⟨P,7,J⟩=V (E da a dc):=bC f0.o 7 _ rfl;have v0:=run_make (P:=K) W0 28 9 ij _ underlying28 h1 i1 Y Y ((a:Int)+2) ((a:Int)+2) az az (by rw[l1];omega) az;rw[show((a:Int)+2).toNat=a+2 from az,j1,Nat.mul_one]at v0;have D1:(a:Int)<=8796093022202:=az;obtain⟨F,g0⟩:=ad (madeCells (B ByteArray.empty).cells (a+2)).toList
 have z0:O (F.length=a+2):=by show _=_;rw[<-g0,Array.length_toList,size_madeCells]
 rw[show madeCells (B ByteArray.empty).cells (a+2)=F.toArray from by rw[<-g0,Array.toArray_toList]]at v0;obtain⟨A,hA⟩:=ad W0.heap.size;have HA:O (W0.heap.size=A):=hA
 have w0:O ((W0.alloc (M F.toArray 9)).heap[A]?=V (M F.toArray 9)):=by rw[<-hA];exact aN W0 _
 have b0:O (Below A W0 (W0.alloc (M F.toArray 9))):=(Below.refl _ _).alloc (Nat.le_of_eq hA.symm) _
 have A0:P<A:=by rw[<-hA];exact(iA.1 f0.o).1
 have N0:O (P<A):=A0;rw[hA]at v0;generalize W0.alloc _=W1 at*;have y7:W1.cell? ⟨P,7,J⟩=V (E da a dc):=bC ((b0.o.block P A0).trans f0.o) 7 _ rfl;clear hP hA g0 m1 A0
 obtain⟨W2,n1,O0,P0⟩:∃W2,(Builtin.copy_ #[28,28] 3 #[E (V ⟨A,0,J⟩) (a+2) (a+2),E da a dc]).run K W1=.ok (goInt a) W2/\W2.heap[A]?=V (M (splice F 0 (dl.map B)).toArray 9)/\Below A W0 W2:=by
  have x0:Nat.min a (a+2)=a:=Nat.min_eq_left az;by_cases h0:a=0
  ·have t1:dl=[]:=List.eq_nil_of_length_eq_zero (r.o.trans h0);refine⟨W1,?_,?_,b0.o⟩
   ·rw[run_copy_none (P:=K) W1 28 28 3 9 _ _ _ _ _ _ underlying28 n (by rw[x0];exact h0),h0];rfl
   rw[t1,w0.o];simp[splice]
  obtain⟨g,o,e1,_⟩:=HD.o 0 _ (gE (aj r.o));subst e1
  have B0:(dl.map B).length=a:=by rw[List.length_map,r.o]
  have hr:=run_copy_row (P:=K) W1 28 28 3 9 A 0 (a+2) (a+2) ⟨g,o,J⟩ a dc F.toArray 9 (dl.map B) underlying28 n w0.o (by rw[x0];exact B0) (fun j v hj=>?_) (by rw[B0];have:=z0.o;simp;omega) (fun v hv=>by obtain⟨s',_,rfl⟩:=List.mem_map.1 hv;rfl)
  ·rw[B0]at hr;refine⟨_,hr,?_,below_setRow b0.o (G _) _⟩;rw[setRow_heap _ _ _ _ _ _ w0.o];simp[splice,r.o]
  rw[List.getElem?_map]at hj
  cases hd:dl[j]? with
  |none=>rw[hd]at hj;cases hj
  |some s'=>
   rw[hd]at hj;injection hj with hj;subst hj;obtain⟨g',o',e2,e3⟩:=HD.o j _ hd;injection e2 with e2;injection e2 with e2 e4 _;subst e2 e4;rw[Sa];have f1:=(t0.o.cell (p:=⟨g,o+j,J⟩) (bL w _ e3) aA).trans e3;have E1:g<W0.heap.size:=bL W0 _ f1;exact(b0.o.cell (p:=⟨g,o+j,J⟩) (by have:=HA.o;show g<A;omega)).trans f1
 obtain⟨C0,⟨u4,Q0⟩,R0,⟨u5,S0⟩,l⟩:=Ke.lay O0 (by rw[r.o,z0.o]);rw[r.o]at C0 Q0 R0 S0 l;have D0:F0 W0 ((W2.setCell ⟨A,a,J⟩ (I ⟨#[98,101,104,105,110,100]⟩)).setCell ⟨A,a+1,J⟩ (I ⟨#[105,116]⟩)):=((Fr.of_below (by rw[HA.o];exact P0)).setCell (p:=⟨A,a,J⟩) (C (by have:=HA.o;show _<=A;omega)) _).setCell (p:=⟨A,a+1,J⟩) (C (by have:=HA.o;show _<=A;omega)) _;have i0:O (Ke ((W2.setCell ⟨A,a,J⟩ (I ⟨#[98,101,104,105,110,100]⟩)).setCell ⟨A,a+1,J⟩ (I ⟨#[105,116]⟩)) A dl):=C0;have j0:O (F0 w ((W2.setCell ⟨A,a,J⟩ (I ⟨#[98,101,104,105,110,100]⟩)).setCell ⟨A,a+1,J⟩ (I ⟨#[105,116]⟩))):=t0.o.trans D0;have v1:O (((W2.setCell ⟨A,a,J⟩ (I ⟨#[98,101,104,105,110,100]⟩)).setCell ⟨A,a+1,J⟩ (I ⟨#[105,116]⟩)).heap[P]?=V (M #[Z Y k,Z Y on,I s,I p.pan,Z Y p.mcc,Z Y p.am,Z Y p.cur,E da a dc,R up] 62)):=D0.whole f0.o aA;clear C0 D0 P0 O0 w0 b0 f0 t0 z0;go_upto_region 6 with fail;clear x7 y7 Q0 R0 S0 l v0 n1;generalize(W2.setCell ⟨A,a,J⟩ (I ⟨#[98,101,104,105,110,100]⟩)).setCell ⟨A,a+1,J⟩ (I ⟨#[105,116]⟩)=u at*;clear u4 u5 W1 W2;obtain⟨T,q,T0,E0,G0,V0,X0⟩:=HX.o.both p HB.o.2.2.2 j0.o;obtain⟨b,k0⟩:=ad (T0 dl)
 have Y0:O (∀W,F0 u W->W.cell? ⟨A,a,J⟩=V (I ⟨#[98,101,104,105,110,100]⟩)/\W.cell? ⟨A,a+1,J⟩=V (I ⟨#[105,116]⟩)):=fun W hf=>by
  obtain⟨cs,c1,c2,c3,c4,c5⟩:=i0.o.fr hf aA;rw[r.o]at c4 c5;exact⟨bC c1 _ _ c4,bC c1 _ _ c5⟩
 have w1:O (∀W,F0 u W->∀(i:Nat),i<a->∃s g o,da=V ⟨g,o,J⟩/\W.cell? ⟨g,o+i,J⟩=V (I s)/\W.cell? ⟨A,i,J⟩=V (I s)):=fun W hf i hi=>by
  have x1:i<dl.length:=aj r.o;have hg:=gE x1;obtain⟨g,o,e1,e2⟩:=(HD.o.fr (j0.o.trans hf) aA) i _ hg;obtain⟨cs,c1,c2,c3,_⟩:=i0.o.fr hf aA;exact⟨_,g,o,e1,e2,bC c1 _ _ (c3 i _ hg)⟩
 have a0:O (∀W,F0 u W->W.cell? ⟨X,0,J⟩=V (U (V ⟨T,0,J⟩))/\W.cell? ⟨X,1,J⟩=V (U (V ⟨q,0,J⟩))/\W.cell? ⟨P,3,J⟩=V (I p.pan)/\W.cell? ⟨P,4,J⟩=V (Z Y p.mcc)/\W.cell? ⟨P,5,J⟩=V (Z Y p.am)/\W.cell? ⟨P,6,J⟩=V (Z Y p.cur)/\W.cell? ⟨P,7,J⟩=V (E da a dc)):=fun W hf=>by
  have e:=hf.whole v1.o aA;exact⟨(hf.cell (p:=⟨X,0,J⟩) (bL u _ E0) aA).trans E0,(hf.cell (p:=⟨X,1,J⟩) (bL u _ G0) aA).trans G0,bC e 3 _ rfl,bC e 4 _ rfl,bC e 5 _ rfl,bC e 6 _ rfl,bC e 7 _ rfl⟩
 have H0:O (∀W,F0 u W->N K 19 #[U (V ⟨T,0,J⟩),y3 #[I p.pan,Z Y p.mcc,Z Y p.am,Z Y p.cur],E (V ⟨A,0,J⟩) a (a+2)] W fun e w'=>e=H (y3 #[Z Y (b.1:Nat),I b.2.1,I b.2.2])/\F0 W w'):=fun W hf=>by
  have e:=V0 W (V ⟨A,0,J⟩) (a+2) dl hf (i0.o.fr hf aA).strs (by have:=r.o;unfold maxLen;omega);rw[k0,r.o]at e;exact e
 have y1:O (∀W,F0 u W->N K 56 #[U (V ⟨q,0,J⟩),y3 #[I p.pan,Z Y p.mcc,Z Y p.am,Z Y p.cur],E da a dc] W fun e w'=>e=H (y3 #[Z Y (b.1:Nat),I b.2.1,I b.2.2])/\F0 W w'):=fun W hf=>by
  have e:=X0 W da dc dl hf (HD.o.fr (j0.o.trans hf) aA) (by have:=r.o;unfold maxLen;omega);rw[k0,r.o]at e;exact e
 have I0:O (A<u.heap.size/\w.heap.size<=A):=by
  obtain⟨cs,c1,_⟩:=i0.o;exact⟨(iA.1 c1).1,ak N0.o M0.o.1⟩
 clear E0 G0 V0 X0 k0 T0
 go_cut [9] (fun v wx=>∃Q,v=U (V ⟨Q,0,J⟩)/\O (F0 u wx/\u.heap.size<=Q/\wx.heap[Q]?=V (wV b)))
 case first=>
  refine wp_region_held_drew (S:=fun W=>W.cell? ⟨X,0,J⟩=V (U (V ⟨T,0,J⟩))/\W.cell? ⟨X,1,J⟩=V (U (V ⟨q,0,J⟩))/\W.cell? ⟨P,3,J⟩=V (I p.pan)/\W.cell? ⟨P,4,J⟩=V (Z Y p.mcc)/\W.cell? ⟨P,5,J⟩=V (Z Y p.am)/\W.cell? ⟨P,6,J⟩=V (Z Y p.cur)/\W.cell? ⟨P,7,J⟩=V (E da a dc)) n (a0.o _ (Fr.refl _ _).drew) (fun hH=>?_);refine U0 0 (v:=?v0z) ?y0z hH ?r0z
  case y0z=>rintro w ⟨s0,s1,s3,s4,s5,s6,s7⟩;go_simp;first|with_reducible rfl|rw[if_pos az]
  try go_frame
  refine U0 1 (v:=?v1z) ?y1z hH ?r1z
  case y1z=>rintro w ⟨s0,s1,s3,s4,s5,s6,s7⟩;go_simp;first|with_reducible rfl|rw[if_pos az]
  try go_frame
  refine U0 2 (v:=?v2z) ?y2z hH ?r2z
  case y2z=>rintro w ⟨s0,s1,s3,s4,s5,s6,s7⟩;go_simp;first|with_reducible rfl|rw[if_pos az]
  try go_frame
  refine U0 3 (v:=?v3z) ?y3z hH ?r3z
  case y3z=>rintro w ⟨s0,s1,s3,s4,s5,s6,s7⟩;go_simp;first|with_reducible rfl|rw[if_pos az]
  try go_frame
  refine U0 4 (v:=?v4z) ?y4z hH ?r4z
  case y4z=>rintro w ⟨s0,s1,s3,s4,s5,s6,s7⟩;go_simp;first|with_reducible rfl|rw[if_pos az]
  try go_frame
  refine U0 5 (v:=?v5z) ?y5z hH ?r5z
  case y5z=>rintro w ⟨s0,s1,s3,s4,s5,s6,s7⟩;go_simp;first|with_reducible rfl|rw[if_pos az]
  try go_frame
  refine U0 6 (v:=?v6z) ?y6z hH ?r6z
  case y6z=>rintro w ⟨s0,s1,s3,s4,s5,s6,s7⟩;go_simp;first|with_reducible rfl|rw[if_pos az]
  try go_frame
  refine U0 7 (v:=?v7z) ?y7z hH ?r7z
  case y7z=>rintro w ⟨s0,s1,s3,s4,s5,s6,s7⟩;go_simp;first|with_reducible rfl|rw[if_pos az]
  try go_frame
  refine U0 8 (v:=?v8z) ?y8z hH ?r8z
  case y8z=>rintro w ⟨s0,s1,s3,s4,s5,s6,s7⟩;go_simp;first|with_reducible rfl|rw[if_pos az]
  try go_frame
  refine wpAnyH_ready (rs:=[9,10]) n aA ?_;refine Zb rfl (fun x f=>?_) ?_
  ·try rw[if_pos aD]
   go_simp;refine(H0.o _ ((Fr.refl _ _).drew)).mono ?_;rintro e z ⟨rfl,l⟩;have d:O (F0 u z):=((Fr.refl _ _).drew).trans l;clear l;refine f.out _ _ (a0.o _ d.o) (fun hH=>?_);clear f x
   try go_frame
   refine wpAnyH_ready (rs:=[10]) n aA ?_;refine Zb rfl (fun x f=>?_) D
   try rw[if_pos aD]
   go_simp;refine f.out _ _ (a0.o _ (d.o.alloc _)) (fun hH=>?_);clear f x
   try go_frame
   refine wpAnyH_ready (rs:=[11]) n aA ?_;refine Zb rfl (fun x f=>?_) D
   try rw[if_pos aD]
   refine wp_store_row 38 _ _ rfl z.heap.size #[Z Y (b.1:Nat),I b.2.1,I b.2.2] rfl rfl 38 _ (heap_alloc_new z _) n rfl (by simp[z9]) ?_;refine f.out _ _ (a0.o _ (Fr.setRow (d.o.alloc _) (C d.o.size) _)) (fun _=>?_);clear f x
   try go_frame
   refine wpAnyH_done n ?_ _;go_wp2;go_meet;exact⟨z.heap.size,rfl,Fr.setRow (d.o.alloc _) (C d.o.size) _,d.o.size,setRow_heap _ z.heap.size _ _ _ _ (aN z _)⟩
  refine Zb rfl (fun x f=>?_) D
  try rw[if_pos aD]
  go_simp;refine f.out _ _ (a0.o _ (((Fr.refl _ _).drew).alloc _)) (fun hH=>?_);clear f x
  try go_frame
  have l0:O (F0 u (u.drew.alloc (M #[Z Y 0,I ⟨#[]⟩,I ⟨#[]⟩] 38))):=((Fr.refl _ _).drew).alloc _;have J0:O ((u.drew.alloc (M #[Z Y 0,I ⟨#[]⟩,I ⟨#[]⟩] 38)).heap[u.heap.size]?=V (M #[Z Y 0,I ⟨#[]⟩,I ⟨#[]⟩] 38)):=aN u.drew _;refine wpAnyH_ready (rs:=[9]) n aA ?_;refine Zb rfl (fun x f=>?_) D
  try rw[if_pos aD]
  go_simp;refine(H0.o _ l0.o).mono ?_;rintro e z ⟨rfl,l⟩;have d:O (F0 u z):=l0.o.trans l;have m0:O (z.heap[u.heap.size]?=V (M #[Z Y 0,I ⟨#[]⟩,I ⟨#[]⟩] 38)):=l.whole J0.o aA;clear l;refine f.out _ _ (a0.o _ d.o) (fun hH=>?_);clear f x
  try go_frame
  refine wpAnyH_ready (rs:=[11]) n aA ?_;refine Zb rfl (fun x f=>?_) D
  try rw[if_pos aD]
  refine wp_store_row 38 _ _ rfl u.heap.size #[Z Y (b.1:Nat),I b.2.1,I b.2.2] rfl rfl 38 _ m0.o n rfl (by simp[z9]) ?_;refine f.out _ _ (a0.o _ (Fr.setRow d.o (C (G _)) _)) (fun _=>?_);clear f x
  try go_frame
  refine wpAnyH_done n ?_ _;go_wp2;go_meet;exact⟨u.heap.size,rfl,Fr.setRow d.o (C (G _)) _,G _,setRow_heap z u.heap.size _ _ _ _ m0.o⟩
 obtain⟨Q1,rfl,HQ⟩:=hcut;generalize wc=W4 at*;obtain⟨h7,h8⟩:=Y0.o W4 HQ.o.1;have HW:O (F0 u W4):=HQ.o.1;have Z0:O (u.heap.size<=Q1/\W4.heap[Q1]?=V (wV b)):=HQ.o.2;have k1:(a:Int)<(a:Int)+2:=az;have k2:(a:Int)+1<(a:Int)+2:=az;clear HQ H0 Y0;go_wp2_with fail;clear h7 h8 k1 k2
 go_loopg [10,11] a (fun m bv kv wr=>∃i,i<=a/\m=a-i/\bv=R true/\kv=Z Y (i:Nat)/\O (F0 W4 wr))
 case atStart=>exact⟨0,Nat.zero_le _,rfl,rfl,rfl,Fr.refl _ _⟩
 obtain⟨i,hi,rfl,rfl,rfl,n0⟩:=hrel;by_cases z1:i<a
 ·have A1:=af i a;have F1:(i:Int)<(a:Int)+2:=az;obtain⟨sx,g,o,rfl,r1,r2⟩:=w1.o wr (HW.o.trans n0.o) i z1;obtain⟨_,_,_,_,_,_,r7⟩:=a0.o wr (HW.o.trans n0.o);go_upto_region 11 with fail
  go_quiet (fail)
  have B1:O (F0 W4 (wr.drewN nq)):=n0.o.trans ⟨rfl,rfl,rfl,G _,fun _ _ _=>rfl⟩;go_wp2;go_roundg (a-(i+1))
  case measure=>omega
  exact⟨i+1,az,rfl,rfl,aE,B1⟩
 have A1:=ai i a;have o0:=Za (HW.o.trans n0.o)
 have y:O (∀W,F0 wr W->W.cell? ⟨X,0,J⟩=V (U (V ⟨T,0,J⟩))/\W.cell? ⟨X,1,J⟩=V (U (V ⟨q,0,J⟩))/\W.cell? ⟨P,3,J⟩=V (I p.pan)/\W.cell? ⟨P,4,J⟩=V (Z Y p.mcc)/\W.cell? ⟨P,5,J⟩=V (Z Y p.am)/\W.cell? ⟨P,6,J⟩=V (Z Y p.cur)/\W.cell? ⟨P,7,J⟩=V (E da a dc)):=fun W hf=>a0.o W (o0.o.trans hf)
 have a1:O (∀W,F0 wr W->N K 56 #[U (V ⟨q,0,J⟩),y3 #[I p.pan,Z Y p.mcc,Z Y p.am,Z Y p.cur],E da a dc] W fun e w'=>e=H (y3 #[Z Y (b.1:Nat),I b.2.1,I b.2.2])/\F0 W w'):=fun W hf=>y1.o W (o0.o.trans hf)
 go_upto_region 12 with fail
 go_cut [12] (fun v wx=>∃Q,v=U (V ⟨Q,0,J⟩)/\O (F0 wr wx/\wr.heap.size<=Q/\wx.heap[Q]?=V (wV b)))
 case first=>
  refine wp_region_held_drew (S:=fun W=>W.cell? ⟨X,0,J⟩=V (U (V ⟨T,0,J⟩))/\W.cell? ⟨X,1,J⟩=V (U (V ⟨q,0,J⟩))/\W.cell? ⟨P,3,J⟩=V (I p.pan)/\W.cell? ⟨P,4,J⟩=V (Z Y p.mcc)/\W.cell? ⟨P,5,J⟩=V (Z Y p.am)/\W.cell? ⟨P,6,J⟩=V (Z Y p.cur)/\W.cell? ⟨P,7,J⟩=V (E da a dc)) n (y.o _ (Fr.refl _ _).drew) (fun hH=>?_)
  iterate 8 (refine Yy 0 hH ?_;try go_frame)
  refine wpAnyH_ready (rs:=[8,9]) n aA ?_;refine Zb rfl (fun x f=>?_) ?_
  ·try rw[if_pos aD]
   go_simp;refine(a1.o _ ((Fr.refl _ _).drew)).mono ?_;rintro e z ⟨rfl,l⟩;have d:O (F0 wr z):=((Fr.refl _ _).drew).trans l;clear l;refine f.out _ _ (y.o _ d.o) (fun hH=>?_);clear f x
   try go_frame
   refine wpAnyH_ready (rs:=[9]) n aA ?_;refine Zb rfl (fun x f=>?_) D
   try rw[if_pos aD]
   go_simp;refine f.out _ _ (y.o _ (d.o.alloc _)) (fun hH=>?_);clear f x
   try go_frame
   refine wpAnyH_ready (rs:=[10]) n aA ?_;refine Zb rfl (fun x f=>?_) D
   try rw[if_pos aD]
   refine wp_store_row 38 _ _ rfl z.heap.size #[Z Y (b.1:Nat),I b.2.1,I b.2.2] rfl rfl 38 _ (heap_alloc_new z _) n rfl (by simp[z9]) ?_;refine f.out _ _ (y.o _ (Fr.setRow (d.o.alloc _) (C d.o.size) _)) (fun _=>?_);clear f x
   try go_frame
   refine wpAnyH_done n ?_ _;go_wp2;go_meet;exact⟨z.heap.size,rfl,Fr.setRow (d.o.alloc _) (C d.o.size) _,d.o.size,setRow_heap _ z.heap.size _ _ _ _ (aN z _)⟩
  refine Zb rfl (fun x f=>?_) D
  try rw[if_pos aD]
  go_simp;refine f.out _ _ (y.o _ (((Fr.refl _ _).drew).alloc _)) (fun hH=>?_);clear f x
  try go_frame
  have l0:O (F0 wr (wr.drew.alloc (M #[Z Y 0,I ⟨#[]⟩,I ⟨#[]⟩] 38))):=((Fr.refl _ _).drew).alloc _;have J0:O ((wr.drew.alloc (M #[Z Y 0,I ⟨#[]⟩,I ⟨#[]⟩] 38)).heap[wr.heap.size]?=V (M #[Z Y 0,I ⟨#[]⟩,I ⟨#[]⟩] 38)):=aN wr.drew _;refine wpAnyH_ready (rs:=[8]) n aA ?_;refine Zb rfl (fun x f=>?_) D
  try rw[if_pos aD]
  go_simp;refine(a1.o _ l0.o).mono ?_;rintro e z ⟨rfl,l⟩;have d:O (F0 wr z):=l0.o.trans l;have m0:O (z.heap[wr.heap.size]?=V (M #[Z Y 0,I ⟨#[]⟩,I ⟨#[]⟩] 38)):=l.whole J0.o aA;clear l;refine f.out _ _ (y.o _ d.o) (fun hH=>?_);clear f x
  try go_frame
  refine wpAnyH_ready (rs:=[10]) n aA ?_;refine Zb rfl (fun x f=>?_) D
  try rw[if_pos aD]
  refine wp_store_row 38 _ _ rfl wr.heap.size #[Z Y (b.1:Nat),I b.2.1,I b.2.2] rfl rfl 38 _ m0.o n rfl (by simp[z9]) ?_;refine f.out _ _ (y.o _ (Fr.setRow d.o (C (G _)) _)) (fun _=>?_);clear f x
  try go_frame
  refine wpAnyH_done n ?_ _;go_wp2;go_meet;exact⟨wr.heap.size,rfl,Fr.setRow d.o (C (G _)) _,G _,setRow_heap z wr.heap.size _ _ _ _ m0.o⟩
 obtain⟨Q2,rfl,HQ⟩:=hcut;have K0:=Za ((j0.o.trans o0.o).trans HQ.o.1)
 obtain⟨c1,d1⟩:∃c1:Nat->Nat,c1=fun k=>if k=A then 7 else if w.heap.size<=k then 0 else c k:=⟨_,rfl⟩
 have r0:O (Y7 w c c1/\c1 A=7/\∀k,w.heap.size<=k->k≠A->c1 k=0):=by
  subst d1;refine⟨fun k hk=>?_,if_pos rfl,fun k hk hn=>?_⟩
  ·have:=I0.o.2
   dsimp only
   rw[if_neg az,if_neg az]
  dsimp only
  rw[if_neg hn,if_pos hk]
 clear d1
 have HT:O (N K 84 #[U (V ⟨L,0,J⟩),E (V ⟨A,0,J⟩) (a+2) (a+2)] wc fun e w'=>e=H (.tuple #[])/\∃d0 e0 t,NJ wc c1 w' L v bv d0 ov e0 kv (c0+1) xs t fs/\t.length=es.length+4/\(∀e,e∈t->e∈es\/e.n<=8796093022208)/\US [1,3,4,7] c1 wc w'):=by
  obtain⟨b1,b2,b3,b4⟩:=HB.o;obtain⟨ys,g1⟩:=(i0.o.fr (o0.o.trans HQ.o.1) aA).row (L:=L) (ak N0.o M0.o.2) (by have:=r.o;unfold maxLen;omega);rw[r.o]at g1;refine Kc c1 wc L v bv nv ov mv kv c0 xs es fs (V ⟨A,0,J⟩) (a+2) (a+2) ys (HS.o.keep K0.o r0.o.1) g1 (Pb r0.o.2.1) (fun e he k hk g e1 e2=>?_) b1 b2 (aj r.o);obtain⟨g',k1,_,cs,k3,_⟩:=HS.o.n.el e (by simpa using he) k hk;rw[k1]at e1;injection e1 with e1;injection e1 with e1
  have:A=g:=by simpa[Value.ownBlock]using e2
  have:=(iA.1 k3).1;have:=I0.o.2;omega
 go_upto_region 13 with fail;go_wp2_with fail;refine HT.o.mono ?_;rintro e w7 ⟨rfl,d0,e0,t,⟨c7,a7,h7⟩,l7,m7,h9⟩;have H7:O ((∃d0 e0 t,NJ w c w7 L v bv d0 ov e0 kv (c0+1) xs t fs/\t.length=es.length+4/\∀e,e∈t->e∈es\/e.n<=8796093022208)/\US [1,3,4,7] c w w7):=⟨⟨d0,e0,t,⟨c7,r0.o.1.trans a7 K0.o.size,h7⟩,l7,m7⟩,US.cls (K0.o.mono aA) r0.o.1 h9 fun i hi=>hi⟩
 have L0:∀Q,u.heap.size<=Q->¬c1 Q∈[1,3,4,7]:=by
  intro Q hQ;rw[r0.o.2.2 Q (aj j0.o.size) (aj I0.o.1)]
  decide
 have o1:=h9.whole (HQ.o.1.whole (n0.o.whole Z0.o.2 aA) aA) (L0 Q1 Z0.o.1);have o2:=h9.whole HQ.o.2.2 (L0 Q2 (Nat.le_trans o0.o.size HQ.o.2.1));have p0:w7.cell? ⟨Q1,0,J⟩=V (Z Y (b.1:Nat)):=bC o1 0 _ rfl;have p1:w7.cell? ⟨Q1,1,J⟩=V (I b.2.1):=bC o1 1 _ rfl;have p2:w7.cell? ⟨Q1,2,J⟩=V (I b.2.2):=bC o1 2 _ rfl;have q0:w7.cell? ⟨Q2,0,J⟩=V (Z Y (b.1:Nat)):=bC o2 0 _ rfl;have q1:w7.cell? ⟨Q2,1,J⟩=V (I b.2.1):=bC o2 1 _ rfl;have q2:w7.cell? ⟨Q2,2,J⟩=V (I b.2.2):=bC o2 2 _ rfl;clear h7 a7 l7 m7 h9 L0 o1 o2 HT;go_wp2;go_ret;exact⟨rfl,H7.o⟩

def Nq (c:Nat->Nat)(w:y2)(L:Nat)(j:y5)(f:Nat)(g h:List I9)(i:y2):Prop:=
 (∃v l m o p a q b d,NJ w c i L v j l m o p a q b d/\a<=f+1/\b.length<=g.length+4/\d.length<=h.length+4/\(∀e,e∈b->e∈g\/e.n<=8796093022208)/\∀e,e∈d->e∈h\/e.n<=8796093022208)/\Fr (fun k=>0<c k/\c k<12) w i
def Nq.of {c w W g L f a i j b d v m o p q r s Q}(t:F0 w W)(h:NJ W c g L v m o p q r a s b d)(u:a<=f+1)(y:b.length<=i.length+4)(z:d.length<=j.length+4)(A:∀e,e∈b->e∈i\/e.n<=8796093022208)(B:∀e,e∈d->e∈j\/e.n<=8796093022208)(C:US Q c W g)(D:∀x,x∈Q->0<x/\x<12):Nq c w L m f i j g:=by
 obtain⟨E,F,G⟩:=h;exact⟨⟨v,o,p,q,r,a,s,b,d,⟨E,fun k l=>F k (nL l t.size),G⟩,u,y,z,A,B⟩,(t.mono).trans (C.mono fun k l=>D _ l)⟩
def Nq.same {c w b L a f g v i j k l m n}(o:F0 w b)(h:Sn c b L v i j k l m a n f g):Nq c w L i a f g b:=
 Nq.of (Q:=[]) o ⟨c,Y7.refl _ _,h⟩ z z z (fun e d=>F d) (fun e d=>F d) Zo y
def KR (c w L v b l m n p a q d f t s g i u j x y z A)(h:Sn c w L v b l m n p a q d f):
  N K 26 #[U (V ⟨L,0,J⟩),QY 1 t s g i u j x y z A] w fun e B=>e=H (R true)/\Nq c w L b a d f B:=by
 unfold QY;have C:=o h;go_enter func26,ntmps26;go_wp2_with fail;generalize D:w.alloc _=W at*;have r:O (F0 w W):=DG D;refine(QC c W L v b l m n p a q d f s (C.o.keep r.o (Y7.refl _ _))).mono ?_;rintro e E ⟨rfl,⟨Q,G,I⟩,M⟩;have P:O (Nq c w L b a d f E):=Nq.of r.o I az az az (fun e k=>F k) (fun e k=>F k) M aB;go_wp2;go_ret;exact⟨rfl,P.o⟩
def D6 (c w L i u v x y a z j l A B k m s b d n f p q r t)(h:Sn c w L (E A 0 B) i u v x y a z j l)(M:k<=6)(C:k≠1):
  N K 26 #[U (V ⟨L,0,J⟩),QY k m s b d n f p q r t] w fun e D=>e=H (R true)/\Nq c w L i a j l D:=by
 have F:=o h;have O:(k==1)=false:=aF;have P:(k==7)=false:=aF;have Q:(k==9)=false:=aF;have G:(k==10)=false:=aF;have g:=(WM w (Yl k m s b d n f p q r t)).1;have I:=bC (g.o.whole h.bx) 0 _ rfl;unfold Yl at g I;unfold QY;go_enter func26,ntmps26;go_wp2;go_ret;exact⟨rfl,Nq.same g.o (F.o.keep g.o (Y7.refl _ _))⟩
def Sn.pick {c w L v j l m n o b a p q}(h:Sn c w L v j l m n o b a p q)(k)(f:k<a.length):∃g d X,v=E (V ⟨g,0,J⟩) a.length d/\w.cell? ⟨g,k,J⟩=V (U (V ⟨X,0,J⟩))/\X∈a:=by
 obtain⟨g,d,e,r,s⟩:=h.tv.form z;subst e;have i:=h.tv.cells (g:=g) rfl _ _ (show(a.map fun X=>Value.pointer (V ⟨X,0,J⟩))[k]?=V (U (V ⟨a[k],0,J⟩)) by rw[List.getElem?_map,gE f];rfl);rw[Sa,y4]at i;exact⟨g,d,a[k],rfl,i,List.getElem_mem f⟩
def D7 (c w L v P nv ov mv kv b xs A B k m s i p am u S Q dc up dl)(h:Sn c w L v P nv ov mv kv b xs A B)(h0:0<xs.length)(hk:k<=6)(L0:k≠1)(k0: -9223372036854775808<=m)(l0:m<=9223372036854775807)(ht:∀d,Fr (fun k=>L<=k) w d->QL d/\OG d)(m0:dl.length=Q)(hd:ZX w S dl)(hs:i.size<=maxLen)(hc:b<=4611686018427387904)(hE:(A.length+4)*24<=140737488355328)(n0:(B.length+4)*24<=140737488355328)(hN:(Q+6)*16<=140737488355328):
  N K 26 #[U (V ⟨L,0,J⟩),QY k m s i p am u S Q dc up] w fun e d=>e=H (R true)/\Nq c w L P b A B d:=by
 have e1:(k==1)=false:=aF;have e7:(k==7)=false:=aF;have e9:(k==9)=false:=aF;have M0:(k==10)=false:=aF;have HF:=(WM w (Yl k m s i p am u S Q dc up)).1;have HT:=o ht;have HL:=o (h.keep HF.o (Y7.refl _ _));have hy:=aN w (Yl k m s i p am u S Q dc up);obtain⟨y0,y1⟩:=ap hy;have HY:=o hy;have C:O (dl.length=Q/\ZX w S dl/\i.size<=maxLen/\b<=4611686018427387904/\(A.length+4)*24<=140737488355328/\(B.length+4)*24<=140737488355328/\(Q+6)*16<=140737488355328):=⟨m0,hd,hs,hc,hE,n0,hN⟩;unfold Yl at HF HL HY y0 y1;obtain⟨n,hn⟩:=ad xs.length;have HN:=o hn;have d0:0<n:=az;have I0:n<=20:=aj h.few;have hp:=PZ m n d0;have N0:(Tn m n:Int)<(n:Int):=az;have O0:((n:Int)==0)=false:=aF;obtain⟨g,vc,X,hv,Q0,o0⟩:=HL.o.pick (Tn m n) az;have D:=o o0;subst hv;rw[hn]at HL;have c0:=Zc HL.o.bx 0
 have p0:O (∀W,N K 44 #[Z Y m,Z Y n] W fun e d=>e=H (Z Y (Tn m n))/\d=W):=fun W=>P0 m n W k0 l0 d0 az
 unfold QY;go_enter func26,ntmps26;go_wp2
 go_quiet ((go_at_call 44;exact Calls.quiet_of_same (p0.o _)))
 have HD:O (F0 (w.alloc (M #[Z Y k,Z Y m,I s,I i,Z Y p,Z Y am,Z Y u,E S Q dc,R up] 62)) ((w.alloc (M #[Z Y k,Z Y m,I s,I i,Z Y p,Z Y am,Z Y u,E S Q dc,R up] 62)).drewN nq)):=⟨rfl,rfl,rfl,G _,fun _ _ _=>rfl⟩;have z0:=HD.o.get y0;have j:=o (HL.o.keep HD.o (Y7.refl _ _));have l:=o (HD.o.whole HY.o);have f:=o (HF.o.trans HD.o);generalize(w.alloc _).drewN nq=W at*;by_cases q0:k=2
 ·subst q0;obtain⟨T,q,a0,b0,lo,r0,J0,K0,_,h2,_,_,s0,_⟩:=(j.o.tb X D.o).now;obtain⟨t0,a,e0,h8⟩:=s0 W Zo;have f0:=o (t0.text (HT.o W (f.o.mono)).1);obtain⟨tx,g0⟩:=ad (ZS (if lo=true then[]else VN a0 b0));rw[g0]at f0;have i0:=o g0;have v0:=o h8;have HX:=o h2;have x0:=Zc h2 0;go_wp2_with fail;refine f0.o.mono ?_;rintro e w5 ⟨rfl,hf⟩;have j0:=o hf;have x1:=bC (hf.whole HX.o) 1 _ rfl;have x2:=bC (hf.whole HX.o) 2 _ rfl
  have w0:O (N K 45 #[U (V ⟨q,0,J⟩)] w5 fun e d=>e=H (I (ZS (VN a0 b0)))/\d=w5):=by
   have hr:=v0.o.fr hf;obtain⟨⟨a',c',k1,k2⟩,_,⟨k3,k4⟩,k5,_⟩:=hr;refine(AG w5 q a' c' e0 k1 (fun h=>by obtain⟨g',e,_,_,r⟩:=k2 h;exact⟨g',e,r⟩) k3 k4).mono ?_;rintro e d ⟨⟨t,rfl,ht⟩,rfl⟩;refine⟨?_,rfl⟩;rw[<-k5]at ht
   have:t=ZS (VN a0 b0):=by
    unfold ZS;rw[<-ht]
   rw[this]
  go_wp2_with fail;refine w0.o.mono ?_;rintro e w6 ⟨rfl,hw⟩;replace hw:=hw.symm;subst hw
  cases lo
  case' true=>obtain rfl:tx=⟨#[]⟩:=i0.o.symm
  case' false=>obtain rfl:tx=ZS (VN a0 b0):=i0.o.symm
  all_goals
   go_wp2;go_ret;exact⟨rfl,Nq.same (f.o.trans j0.o) (j.o.keep j0.o (Y7.refl _ _))⟩
 by_cases A0:k=3
 ·subst A0
  have x:O (N K 46 #[U (V ⟨L,0,J⟩),U (V ⟨X,0,J⟩),y3 #[Z Y 3,Z Y m,I s,I i,Z Y p,Z Y am,Z Y u,E S Q dc,R up]] W fun e d=>e=H (R true)/\Nq c w L P b A B d):=by
   obtain⟨d1,d2,d3,d4,d5,_,d6⟩:=C.o;have e:=I7 c W L (E (V ⟨g,0,J⟩) n vc) P nv ov mv kv b xs A B X 3 m s ⟨i,p,am,u⟩ S dl dc up j.o (j.o.tb X D.o) (d2.fr f.o) d3 d4 d5 az;rw[d1]at e;refine e.mono ?_;rintro e d ⟨r1,⟨B0,C0,D0,r2,r3,r4⟩,r5⟩;exact⟨r1,Nq.of f.o r2 az az az r4 (fun e he=>F he) r5 aB⟩
  have z1:=Zc l.o 1;have z2:=Zc l.o 2;have z3:=Zc l.o 3;have z4:=Zc l.o 4;have z5:=Zc l.o 5;have z6:=Zc l.o 6;have z7:=Zc l.o 7;have z8:=Zc l.o 8;go_wp2_with fail;refine x.o.mono ?_;rintro e w5 ⟨rfl,y⟩;have z:=o y;go_wp2;go_ret;exact⟨rfl,z.o⟩
 by_cases E0:k=4
 ·subst E0
  have x:O (N K 47 #[U (V ⟨L,0,J⟩),U (V ⟨X,0,J⟩)] W fun e d=>e=H (R true)/\Nq c w L P b A B d):=(I6 c W L (E (V ⟨g,0,J⟩) n vc) P nv ov mv kv b xs A B X j.o D.o (HT.o W (f.o.mono)).1 C.o.2.2.2.1 C.o.2.2.2.2.2.1).mono (by
   rintro e d ⟨r1,⟨R0,S0,T0,r2,r3,r4⟩,r5⟩
   exact⟨r1,Nq.of f.o r2 az az az (fun e he=>F he) r4 r5 aB⟩)
  go_wp2_with fail;refine x.o.mono ?_;rintro e w5 ⟨rfl,y⟩;have z:=o y;go_wp2;go_ret;exact⟨rfl,z.o⟩
 by_cases G0:k=5
 ·subst G0
  have x:O (N K 48 #[U (V ⟨L,0,J⟩),U (V ⟨X,0,J⟩)] W fun e d=>e=H (R true)/\Nq c w L P b A B d):=(FW c W L (E (V ⟨g,0,J⟩) n vc) P nv ov mv kv b xs A B X j.o D.o C.o.2.2.2.1 C.o.2.2.2.2.1).mono (by
   rintro e d ⟨r1,⟨B0,C0,D0,r2,r3,r4⟩,r5⟩
   exact⟨r1,Nq.of f.o r2 az az az r4 (fun e he=>F he) r5 aB⟩)
  go_wp2_with fail;refine x.o.mono ?_;rintro e w5 ⟨rfl,y⟩;have z:=o y;go_wp2;go_ret;exact⟨rfl,z.o⟩
 by_cases H0:k=6
 ·subst H0
  have x:O (N K 49 #[U (V ⟨L,0,J⟩),U (V ⟨X,0,J⟩)] W fun e d=>e=H (R true)/\Nq c w L P b A B d):=(D3 c W L (E (V ⟨g,0,J⟩) n vc) P nv ov mv kv b xs A B X j.o D.o (HT.o W (f.o.mono)).2).mono (by
   rintro e d ⟨r1,⟨v',V0,r2⟩,r3⟩
   exact⟨r1,Nq.of f.o r2 az az az (fun e he=>F he) (fun e he=>F he) r3 aB⟩)
  go_wp2_with fail;refine x.o.mono ?_;rintro e w5 ⟨rfl,y⟩;have z:=o y;go_wp2;go_ret;exact⟨rfl,z.o⟩
 have f2:(k==2)=false:=aF;have f3:(k==3)=false:=aF;have f4:(k==4)=false:=aF;have f5:(k==5)=false:=aF;have f6:(k==6)=false:=aF;have f8:(k==8)=false:=aF;go_wp2;go_ret;exact⟨rfl,Nq.same f.o j.o⟩
def uK (a:(Nat->Nat)->y2->y5->Nat->Prop):Prop:=∀{c w b m d e f},a c w b m->Fr (fun k=>0<c k/\c k<12) w e->Y7 w c d->m<=f->a d e b f
def Vi (bd:(Nat->Nat)->y2->y5->Nat->Prop)(w:y2)(L m:Nat):Prop:=∃c v f g h i j a l b d,Sn c w L v f g h i j a l b d/\(∀k,k<L->c k=0)/\a<=m/\b.length<=4*m/\d.length<=4*m/\(∀e,e∈b\/e∈d->e.n<=8796093022208)/\bd c w f m
def Vi.fr {bd w w' L m b}(e:uK bd)(h:Vi bd w L m)(d:F0 w w')(f:m<=b):Vi bd w' L b:=by
 obtain⟨c,v,g,i,j,k,l,a,n,es,o,p,q,t,u,x,r,s⟩:=h;exact⟨c,v,g,i,j,k,l,a,n,es,o,p.keep d (Y7.refl _ _),q,z,z,z,r,e s d.mono (Y7.refl _ _) f⟩
def Nq.all {d c w f L g a m i j}(x:uK d)(h:Nq c w L g a i j f)(K:L<w.heap.size)(q:∀k,k<L->c k=0)(M:a<=m)(N:i.length<=4*m)(O:j.length<=4*m)(r:∀e,e∈i\/e∈j->e.n<=8796093022208)(y:d c w g m):Vi d f L (m+1)/\Fr (fun k=>L<=k) w f:=by
 obtain⟨⟨v,z,A,B,D,b,E,l,o,⟨G,s,H⟩,P,Q,R,I,J⟩,t⟩:=h;refine⟨⟨G,v,g,z,A,B,D,b,E,l,o,H,fun k u=>(s k az).trans (q k u),az,az,az,?_,x y t s az⟩,t.mono fun k u=>Nat.le_of_not_lt fun e=>aj (q k e)⟩;rintro e (p|p)
 ·exact(I e p).elim (fun h=>r e (F h)) id
 exact(J e p).elim (fun h=>r e (C h)) id
def J0 {bd}(P:uK bd)(w L m k i s a b o d n j p r A)(h:Vi bd w L m)(O:k<=6)(B: -9223372036854775808<=i)(C:i<=9223372036854775807)(Q:∀f,Fr (fun k=>L<=k) w f->QL f/\OG f)(D:A.length=j)(S:ZX w n A)(T:a.size<=maxLen)(hm:96*m+96<=140737488355328)(W:(j+6)*16<=140737488355328):
  N K 26 #[U (V ⟨L,0,J⟩),QY k i s a b o d n j p r] w fun e f=>e=H (R true)/\Vi bd f L (m+1)/\Fr (fun k=>L<=k) w f:=by
 obtain⟨c,v,u,E,F,G,I,g,x,y,z,t,X,Y,Z,h5,h6,h7⟩:=h;have hL:=(iA.1 t.bx).1
 have q:N K 26 #[U (V ⟨L,0,J⟩),QY k i s a b o d n j p r] w fun e f=>e=H (R true)/\Nq c w L u g y z f:=by
  by_cases l:k=1
  ·subst l;exact KR c w L v u E F G I g x y z i s a b o d n j p r t
  rcases Nat.eq_zero_or_pos x.length with M|M
  ·obtain⟨va,vc,e⟩:=oL t.tv;rw[M]at e;subst e;exact D6 c w L u E F G I g x y z va vc k i s a b o d n j p r t O l
  exact D7 c w L v u E F G I g x y z k i s a b o d n j p r A t M O l B C Q D S T az az az W
 exact q.mono fun e f ⟨r1,r2⟩=>⟨r1,r2.all P hL X Y Z h5 h6 h7⟩
def Bi (w:y2)(b o:Nat):Prop:=
 ∃(k c:Int)(s a:ByteArray)(d i e:Int)(g:Option Addr)(f j:Nat)(l:Bool)(h:List ByteArray),(-9223372036854775808<=c/\c<=9223372036854775807/\h.length=f/\ZX w g h/\a.size<=maxLen/\(f+6)*16<=140737488355328)/\
  w.cell? ⟨b,o,J⟩=V (Z Y k)/\w.cell? ⟨b,o+1,J⟩=V (Z Y c)/\w.cell? ⟨b,o+2,J⟩=V (I s)/\w.cell? ⟨b,o+3,J⟩=V (I a)/\w.cell? ⟨b,o+4,J⟩=V (Z Y d)/\
  w.cell? ⟨b,o+5,J⟩=V (Z Y i)/\w.cell? ⟨b,o+6,J⟩=V (Z Y e)/\w.cell? ⟨b,o+7,J⟩=V (E g f j)/\w.cell? ⟨b,o+8,J⟩=V (R l)
def ZX.frL {w b L a l}(h:ZX w a l)(d:Fr (fun k=>L<=k) w b)(j:w.heap.size<=L):ZX b a l:=by
 intro k s e;obtain⟨g,o,f,c⟩:=h k s e;have i:g<w.heap.size:=bL w _ c;exact⟨g,o,f,(d.cell (p:=⟨g,o+k,J⟩) i (by show¬L<=g;omega)).trans c⟩
def Bi.fr {w w' b o L}(h:Bi w b o)(f:Fr (fun k=>L<=k) w w')(i:b<w.heap.size)(l:w.heap.size<=L):Bi w' b o:=by
 obtain⟨k,m,s,a,c,n,d,q,r,t,v,x,⟨y,z,A,B,C⟩,D,c1,E,F,G,H,I,K,M⟩:=h
 have g:∀j u,w.cell? ⟨b,o+j,J⟩=V u->w'.cell? ⟨b,o+j,J⟩=V u:=fun j u e=>(f.cell (p:=⟨b,o+j,J⟩) i (by show¬L<=b;omega)).trans e
 exact⟨k,m,s,a,c,n,d,q,r,t,v,x,⟨y,z,A,B.frL f l,C⟩,g 0 _ D,g 1 _ c1,g 2 _ E,g 3 _ F,g 4 _ G,g 5 _ H,g 6 _ I,g 7 _ K,g 8 _ M⟩
