import Derived.Test.YtccikgogjfbpeaaGreatDoorUb
open Option renaming some->I,none->J
open Go.Value renaming pointer->V,int->Y,bool->U,slice->O,string->H,slice->z1,agg->z5
open Go.IntKind renaming i64->Z
open Go.RowKit renaming Hid->E
open Go.Proofs.Tryz renaming prog->B
open Go.Ending renaming returned->G
open List renaming append_assoc->M,getElem?_map->N,length_map->F,length_take->z2
open Go.Obj renaming cells->A
open And renaming intro->C
open Go renaming Value->Q,Calls->z0,World->z3
namespace Go.Proofs.YtccikgogjfbpeaaGreatDoor
set_option maxRecDepth 30000
set_option maxHeartbeats 8000000
open Go.RowKit
theorem Gf (R:List Zc)(i a:Nat):∀d,∃t,TB R i (a+d)=TB R i a++t
 |0=>⟨[],by simp⟩
 |d+1=>by
  obtain⟨t,h⟩:=Gf R i a d;refine⟨t++Jg R i (i+1+(a+d)),?_⟩
  show TB R i (a+d)++Jg R i (i+1+(a+d))=_
  rw[h,M]
theorem Gg (R:List Zc)(a:Nat):∀d,∃t,TJ R (a+d)=TJ R a++t
 |0=>⟨[],by simp⟩
 |d+1=>by
  obtain⟨t,h⟩:=Gg R a d;refine⟨t++TB R (a+d) (R.length-(a+d+1)),?_⟩
  show TJ R (a+d)++TB R (a+d) (R.length-(a+d+1))=_
  rw[h,M]
theorem CC {R:List Zc}{i j:Nat}{r q:Zc}{y:UN×Nat}(d:R[i]?=I r)(a:R[i+1+j]?=I q)(f:Sf (VM r) (VM q)=I y):(TP R)[(TJ R i++TB R i j).length]?=I (r.name,q.name,U5 y.1):=by
 have g:=(iG.1 a).1;obtain⟨h,b⟩:=Gg R (i+1) (R.length-(i+1));obtain⟨k,c⟩:=Gf R i (j+1) (R.length-(i+1)-(j+1));rw[show i+1+(R.length-(i+1))=R.length from by omega]at b;rw[show j+1+(R.length-(i+1)-(j+1))=R.length-(i+1)from by omega]at c
 have l:Jg R i (i+1+j)=[(r.name,q.name,U5 y.1)]:=by simp only[Jg,d,a,f]
 have e:TP R=(TJ R i++TB R i j)++(Jg R i (i+1+j)++(k++h)):=by
  unfold TP;rw[b,show TJ R (i+1)=TJ R i++TB R i (R.length-(i+1))from rfl,c,show TB R i (j+1)=TB R i j++Jg R i (i+1+j)from rfl];simp only[M]
 rw[e,aR (Nat.le_refl _),Nat.sub_self,l];rfl
def CT (n:Nat):Code->Bool
 | .region m _ _=>m==n
 | .seq a _=>CT n a
 |_=>false
def CU (n:Nat):Code->Option Code
 | .seq a b=>if CT n a then I (.seq a b)else CU n b
 |_=>J
def B4 (f:Func)(n:Nat):Code:=(f.body.bind (CU n)).getD .skip
set_option maxRecDepth 1000000 in
theorem FT (c c1:Nat->Nat)(w w1 W:z3)(L:Nat)(v nv ov mv kv:Q)(K:Nat)(xs:List Nat)(es fs:List Ue)(X T q:Nat)(M:List Zd)(R:List Zc)(oa:Option Addr)(on oc n:Nat)(a2:Bool)(tv K0:Q)(h:SU c w L v nv ov mv kv K xs es fs)(x0:YE M R/\∀r,r∈R->UJ r)(L0:X<w.heap.size)(M0:c X=9)(N0:K<=4611686018427387904/\(fs.length+4)*24<=140737488355328)
  (O0:∀W,Fr (fun k=>k=X) w W->TO W q M R)(d0:w1.ownsRow w.heap.size 44 6 (O oa on oc) on (XG (TP R)))(y0:F0 w w1)(N:WJ w c c1/\Cl c1 (O oa on oc) 8)(n0:Fr (fun k=>k=X) w1 W)(P0:Nj w1 c1 W L v nv ov mv kv K xs es fs)(Q0:W.heap[X]?=I (A #[V (I ⟨T,0,J⟩),V (I ⟨q,0,J⟩),U false,U a2,tv,K0] 97))(A0:(TP R).length=on)(hn:R.length=n)
  (t2 t3 t4 t8 t9 e5 f5 g5 i5 j5 k5 l5 m5 n5 p5 r5 s5 t5 x5 y5 A5 B5 C5 D5 E5 F5 G5 H5 I5 J5 K5 L5 M5 N5 O5 P5 Q5 R5 S5 T5 V5 W5 X5 Y5 Z5 a6 b6 c6 d6 e6 f6 g6 h6 i6 j6 k6 l6 m6 n6 o6 p6 q6 r6 s6 t6 v6 w6 x6 y6 z6 A6 B6 C6 D6 E6 F6 G6 H6 I6 J6 K6 L6 M6 N6 O6 P6 Q6 R6 S6 T6 V6 W6 X6 Y6 Z6 R0 S0 T0 V0 W0 X0 Y0 Z0 a1 b1 d1 f1 g1 h1 i1 j1 l1 m1 n1 r1 s1 t1 v1 x1 z1 A1 B1 C1 D1 E1 F1 G1 H1 I1 J1 K1 L1 M1 N1 O1 P1 Q1 R1 S1 T1 V1 W1 X1 Y1 Z1 b2 d2 f2 g2 i2 j2 k2 l2 m2 n2 r2 s2 x2 z2 A2 B2 C2 D2 E2 G2 H2 I2 J2 K2 L2 M2 N2 O2 P2 Q2 R2 S2 T2 V2 W2 X2 Y2 Z2 a3 b3 c3 d3 f3 g3 i3 j3 l3 m3 n3 r3 s3 x3 y3 A3 B3 C3 D3 E3 F3 G3 H3 I3 J3 K3 L3 M3 N3 O3 P3 Q3 R3 S3 T3 V3 W3 X3 Y3 Z3 a4 b4 c4 d4 e4 f4 g4 i4 j4 k4 l4 m4 n4 p4 r4 s4 x4 y4 z4 A4 C4 D4 E4 F4 G4 H4 I4:Q):
  Code.wp B (B4 Tryz.f47 16) (bodyPost B Tryz.f47 fun e w'=>e=G (U true)/\(∃f0 g0 t,Nj w c w' L v nv f0 mv g0 (K+1) xs es t/\t.length=fs.length+4/\∀e,e∈t->e∈fs\/e.n<=8796093022208)/\St [1,5,6,8,9,10] c w w') ⟨#[V (I ⟨L,0,J⟩),V (I ⟨X,0,J⟩),t2,t3,t4,O oa on oc,Y Z 0,U true,t8,t9,e5,f5,g5,i5,j5,k5,l5,m5,n5,p5,r5,s5,t5,x5,y5,A5,B5,C5,D5,E5,F5,G5,H5,I5,J5,K5,L5,M5,N5,O5,P5,Q5,R5,S5,T5,V5,W5,X5,Y5,Z5,a6,b6,c6,d6,e6,f6,g6,h6,i6,j6,k6,l6,m6,n6,o6,p6,q6,r6,s6,t6,v6,w6,x6,y6,z6,A6,B6,C6,D6,E6,F6,G6,H6,I6,J6,K6,L6,M6,N6,O6,P6,Q6,R6,S6,T6,V6,W6,X6,Y6,Z6,R0,S0,T0,V0,W0,X0,Y0,Z0,a1,b1,d1,f1,g1,h1,i1,j1,l1,m1,n1,r1,s1,t1,v1,x1,z1,A1,B1,C1,D1,E1,F1,G1,H1,I1,J1,K1,L1,M1,N1,O1,P1,Q1,R1,S1,T1,V1,W1,X1,Y1,Z1,b2,d2,f2,g2,i2,j2,k2,l2,m2,n2,r2,s2,x2,z2,A2,B2,C2,D2,E2,G2,H2,I2,J2,K2,L2,M2,N2,O2,P2,Q2,R2,S2,T2,V2,W2,X2,Y2,Z2,a3,b3,c3,d3,f3,g3,i3,j3,l3,m3,n3,r3,s3,x3,y3,A3,B3,C3,D3,E3,F3,G3,H3,I3,J3,K3,L3,M3,N3,O3,P3,Q3,R3,S3,T3,V3,W3,X3,Y3,Z3,a4,b4,c4,d4,e4,f4,g4,i4,j4,k4,l4,m4,n4,p4,r4,s4,x4,y4,z4,A4,C4,D4,E4,F4,G4,H4,I4],[]⟩ W:=by
 conv=>arg 2;whnf
 have HS:=Za h;have f:=Za x0;have J4:=Za N0;have K4:=Za d0;have L4:=Za y0;have HC:=Za N;have a7:=Za n0;have b7:=Za P0;have B0:=Za A0;have HN:=Za hn;have M4:=Za (C L0 M0)
 have t7:n<=8:=by have:=x0.1.l8;omega
 have c7:on<=64:=by
  have:=PF R R.length;have e3:=Nat.mul_le_mul (show R.length<=8 by omega) (show R.length<=8 by omega);unfold TP at A0;omega
 have q0:E (∀b,F0 W b->b.cell? ⟨X,1,J⟩=I (V (I ⟨q,0,J⟩))/\b.cell? ⟨X,2,J⟩=I (U false)/\TO b q M R/\b.ownsRow w.heap.size 44 6 (O oa on oc) on (XG (TP R))):=fun b m=>by
  have e:=m.whole Q0 (by simp);exact⟨bC e 1 _ rfl,bC e 2 _ rfl,O0 b (((y0.mono (by simp)).trans n0).trans (m.mono (by simp))),oF (oF d0 n0 fun k hk=>by omega) m (by simp)⟩
 clear h x0 N0 O0 d0 y0 N n0 P0 Q0 A0 hn L0 M0;go_wp2_with fail
 go_loopg [6,7,12] n (fun mm av bv iv wr=>∃i a:Nat,i<=n/\mm=n-i/\av=Y Z (a:Nat)/\bv=U true/\iv=Y Z (i:Nat)/\a<=64/\E (a=(TJ R i).length)/\E (F0 W wr))
 case atStart=>exact⟨0,0,by omega,rfl,rfl,rfl,rfl,by omega,rfl,Fr.refl _ _⟩
 case round=>
  obtain⟨i,a0,v7,rfl,rfl,rfl,rfl,d7,N4,h0⟩:=hrel;obtain⟨y1,y2,l,_⟩:=q0.o wr h0.o;obtain⟨la,lc,h2,_⟩:=l.c2;rw[HN.o]at h2;clear l;by_cases x7:i<n
  ·have e7:(i:Int)<(n:Int):=by omega
   go_wp2_with fail;clear y1 y2 h2
   go_loopg [6,7,13] (n-(i+1)) (fun mm av bv kv wx=>∃j k a:Nat,k<=n/\mm=n-k/\av=Y Z (a:Nat)/\bv=U true/\kv=Y Z (k:Nat)/\a<=64/\E (k=i+1+j)/\E (a=(TJ R i++TB R i j).length)/\E (F0 W wx))
   case atStart=>exact⟨0,i+1,a0,by omega,rfl,rfl,rfl,by go_num,d7,rfl,by show _=_;rw[N4.o];simp[TB],h0⟩
   case round=>
    obtain⟨j,k,a,y7,rfl,rfl,rfl,rfl,ha,HK,HA,C0⟩:=hrel;generalize wr=wx at*;obtain⟨y1,y2,l,z⟩:=q0.o wx C0.o;obtain⟨la,lc,h2,h3⟩:=l.c2;rw[HN.o]at h2;by_cases z7:k<n
    ·have f7:(k:Int)<(n:Int):=by omega
     obtain⟨r,hr⟩:∃r,R[i]?=I r:=⟨_,gE (show i<R.length by have:=HN.o;omega)⟩;obtain⟨s,hs⟩:∃s,R[k]?=I s:=⟨_,gE (show k<R.length by have:=HN.o;omega)⟩;have d:E (R[i]?=I r/\R[k]?=I s):=⟨hr,hs⟩;have O4:=Za (Lr wx q M R i k r s l f.o.1 hr hs);clear h3 l z hr hs;go_wp2_with fail;refine O4.o.mono ?_;rintro e w2 ⟨rfl,P4⟩;have D0:=Za (C0.o.trans P4);clear P4 y1 y2 h2 O4
     cases r0:BE r s with
     |false=>
      have i0:E (a=(TJ R i++TB R i (j+1)).length):=by
       have e0:Sf (VM r) (VM s)=J:=by
        cases hy:Sf (VM r) (VM s)with
        |none=>rfl
        |some y=>
         have:=(Gd (f.o.1.rl r (mG d.o.1)) (f.o.2 r (mG d.o.1)) (f.o.2 s (mG d.o.2))).2 ⟨y,hy⟩;rw[r0]at this
         cases this
       have e1:Jg R i (i+1+j)=[]:=by
        have e:=d.o.2;rw[HK.o]at e;simp only[Jg,d.o.1,e,e0]
       show _=_
       rw[HA.o,show TB R i (j+1)=TB R i j++Jg R i (i+1+j)from rfl,e1,List.append_nil]
      clear r0;go_wp2_with fail;go_roundg (n-(k+1))
      case measure=>omega
      case rel=>exact⟨j+1,k+1,a,by omega,rfl,rfl,rfl,by go_num,ha,by show _=_;have:=HK.o;omega,i0,D0⟩
     |true=>
      obtain⟨y,hy⟩:=(Gd (f.o.1.rl r (mG d.o.1)) (f.o.2 r (mG d.o.1)) (f.o.2 s (mG d.o.2))).1 r0;obtain⟨p,hp⟩:∃p,U5 y.1=p:=⟨_,rfl⟩;have s0:=CC d.o.1 (by rw[<-HK.o];exact d.o.2) hy;rw[<-HA.o,hp]at s0;have x:=K7 (f.o.1.rl r (mG d.o.1)) (f.o.2 r (mG d.o.1)) hy;rw[hp]at x;have E0:=Za x
      have Q4:p.pan.size<=maxLen:=by
       have e:=x.1;unfold Yd Xv at e;simp only[Bool.and_eq_true,decide_eq_true_eq]at e;unfold maxLen;omega
      have j0:Xv p.pan=true:=by
       have e:=x.1;unfold Yd at e;simp only[Bool.and_eq_true]at e;exact e.1.1
      have A7:a<on:=by have:=(iG.1 s0).1;have:=B0.o;omega
      have i0:E (a+1=(TJ R i++TB R i (j+1)).length):=by
       have e:=d.o.2;rw[HK.o]at e
       have e1:Jg R i (i+1+j)=[(r.name,s.name,U5 y.1)]:=by simp only[Jg,d.o.1,e,hy]
       show _=_
       rw[HA.o,show TB R i (j+1)=TB R i j++Jg R i (i+1+j)from rfl,e1];simp[Nat.add_assoc]
      obtain⟨y1,y2,l,z⟩:=q0.o w2 D0.o;obtain⟨la,lc,h2,h3⟩:=l.c2;rw[HN.o]at h2;obtain⟨g,ma,mc,ca,cc,pa,pc,rfl,D,R4,S4,_⟩:=h3 i r d.o.1;obtain⟨g',g7,i7,j7,k7,l7,m7,e,u,v0,w0,_⟩:=h3 k s d.o.2;injection e with e;injection e with e _ _;subst e;obtain⟨og,e,F⟩:=Dw z B0.o s0;subst e;have o0:w2.cell? ⟨og,a*6,J⟩=I (H r.name):=F 0 _ rfl;have o1:=F 1 _ rfl;have o2:=F 2 _ rfl;have o3:=F 3 _ rfl;have o4:=F 4 _ rfl;have o5:=F 5 _ rfl;have u0:w2.cell? ⟨g,i*13,J⟩=I (H r.name):=D 0 _ rfl;have u1:w2.cell? ⟨g,k*13,J⟩=I (H s.name):=u 0 _ rfl
      have B7:(a:Int)<(on:Int):=by omega
      have n7:decide ((on:Int)<=(a:Int))=false:=by simp;omega
      have T4:E (∀b,z0 B 86 #[z5 #[H p.pan,Y Z p.mcc,Y Z p.am,Y Z p.cur]] b fun e w'=>e=G (U true)/\F0 b w'):=fun b=>by have e:=RZ b p Q4;rw[E0.o.1]at e;exact e
      have b0:E (∀P b,b.heap[P]?=I (Xt p)->F0 w2 b->b.cell? ⟨X,1,J⟩=I (V (I ⟨q,0,J⟩))/\b.cell? ⟨q,2,J⟩=I (O (I ⟨g,0,J⟩) n lc)/\b.cell? ⟨P,0,J⟩=I (H p.pan)/\b.cell? ⟨P,1,J⟩=I (Y Z p.mcc)/\b.cell? ⟨P,2,J⟩=I (Y Z p.am)/\b.cell? ⟨P,3,J⟩=I (Y Z p.cur)):=fun P b hP m=>⟨m.get y1,m.get h2,bC hP 0 _ rfl,bC hP 1 _ rfl,bC hP 2 _ rfl,bC hP 3 _ rfl⟩
      have V4:E (∀b,F0 w2 b->z0 B 87 #[V (I ⟨g,i*13,J⟩),z5 #[H p.pan,Y Z p.mcc,Y Z p.am,Y Z p.cur]] b fun e w'=>e=G (U true)/\F0 b w'):=fun b m=>by
       have e:=Rk b g (i*13) r ma mc ca cc pa pc M.length p (fun j v hv=>m.get (D j v hv)) (R4.fr m (by simp)) (S4.fr m (by simp)) (f.o.1.rl r (mG d.o.1)) j0;rw[E0.o.2.1]at e;exact e
      have W4:E (∀b,F0 w2 b->z0 B 87 #[V (I ⟨g,k*13,J⟩),z5 #[H p.pan,Y Z p.mcc,Y Z p.am,Y Z p.cur]] b fun e w'=>e=G (U true)/\F0 b w'):=fun b m=>by
       have e:=Rk b g (k*13) s g7 i7 j7 k7 l7 m7 M.length p (fun j v hv=>m.get (u j v hv)) (v0.fr m (by simp)) (w0.fr m (by simp)) (f.o.1.rl s (mG d.o.2)) j0;rw[E0.o.2.2]at e;exact e
      clear r0 hy hp s0 x Q4 j0 h3 l z D u R4 S4 v0 w0 F;go_upto_region 24 with fail
      go_quiet (fail)
      have k0:E (F0 w2 (w2.drewN nq)):=⟨rfl,rfl,rfl,Nat.le_refl _,fun _ _ _=>rfl⟩;have v2:=k0.o.get o2;have v3:=k0.o.get o3;have v4:=k0.o.get o4;have v5:=k0.o.get o5;clear o0 o1 o2 o3 o4 o5 u0 u1 y1 y2 h2 n7;generalize w2.drewN nq=w3 at*;go_upto_region 27 with fail;clear v2 v3 v4 v5;generalize hP:w3.alloc _=w4 at*;have X4:E (F0 w2 w4):=k0.o.trans (IOq hP);have G0:E (w4.heap[w3.heap.size]?=I (Xt p)):=F2 hP;obtain⟨P,Y4⟩:∃P,w3.heap.size=P:=⟨_,rfl⟩;rw[Y4]at G0 ⊢;obtain⟨_,_,p0,p1,p2,p3⟩:=b0.o P w4 G0.o X4.o;clear hP Y4;go_wp2_with fail;refine(T4.o _).mono ?_;rintro e w5 ⟨rfl,H0⟩;have l0:=Za (X4.o.trans H0);have t0:=Za (H0.whole G0.o (by simp));clear p0 p1 p2 p3 H0
      have Z4:E (∀b,E (F0 w5 b)->z0 B 87 #[V (I ⟨g,i*13,J⟩),z5 #[H p.pan,Y Z p.mcc,Y Z p.am,Y Z p.cur]] b fun e w'=>e=G (U true)/\E (F0 w5 w')/\w'.cell? ⟨X,1,J⟩=I (V (I ⟨q,0,J⟩))/\w'.cell? ⟨q,2,J⟩=I (O (I ⟨g,0,J⟩) n lc)/\w'.cell? ⟨P,0,J⟩=I (H p.pan)/\w'.cell? ⟨P,1,J⟩=I (Y Z p.mcc)/\w'.cell? ⟨P,2,J⟩=I (Y Z p.am)/\w'.cell? ⟨P,3,J⟩=I (Y Z p.cur)):=fun b m=>(V4.o b (l0.o.trans m.o)).mono (by
       rintro e w' ⟨he,h4⟩;have h5:=m.o.trans h4
       exact⟨he,h5,b0.o P w' (h5.whole t0.o (by simp)) (l0.o.trans h5)⟩)
      have hS:=b0.o P w5 t0.o l0.o;have I0:E (F0 w5 w5.drew):=(Fr.refl _ _).drew;go_upto_region 30 with fail
      go_region_held3 (fun b=>b.cell? ⟨X,1,J⟩=I (V (I ⟨q,0,J⟩))/\b.cell? ⟨q,2,J⟩=I (O (I ⟨g,0,J⟩) n lc)/\b.cell? ⟨P,0,J⟩=I (H p.pan)/\b.cell? ⟨P,1,J⟩=I (Y Z p.mcc)/\b.cell? ⟨P,2,J⟩=I (Y Z p.am)/\b.cell? ⟨P,3,J⟩=I (Y Z p.cur)) (first|assumption|go_keep) (first
       |(go_at_call 87;refine(Z4.o _ (by assumption)).mono ?_;rintro e w7 ⟨rfl,c0,o7⟩))
      have m0:=Za (l0.o.trans c0.o);have J0:=Za (c0.o.whole t0.o (by simp));clear o7 hS Z4 I0 c0 t0 l0
      have a5:E (∀b,E (F0 w7 b)->z0 B 87 #[V (I ⟨g,k*13,J⟩),z5 #[H p.pan,Y Z p.mcc,Y Z p.am,Y Z p.cur]] b fun e w'=>e=G (U true)/\E (F0 w7 w')/\w'.cell? ⟨X,1,J⟩=I (V (I ⟨q,0,J⟩))/\w'.cell? ⟨q,2,J⟩=I (O (I ⟨g,0,J⟩) n lc)/\w'.cell? ⟨P,0,J⟩=I (H p.pan)/\w'.cell? ⟨P,1,J⟩=I (Y Z p.mcc)/\w'.cell? ⟨P,2,J⟩=I (Y Z p.am)/\w'.cell? ⟨P,3,J⟩=I (Y Z p.cur)):=fun b m=>(W4.o b (m0.o.trans m.o)).mono (by
       rintro e w' ⟨he,h4⟩;have h5:=m.o.trans h4
       exact⟨he,h5,b0.o P w' (h5.whole J0.o (by simp)) (m0.o.trans h5)⟩)
      have hS:=b0.o P w7 J0.o m0.o;have I0:E (F0 w7 w7.drew):=(Fr.refl _ _).drew;go_upto_region 31 with fail
      go_region_held3 (fun b=>b.cell? ⟨X,1,J⟩=I (V (I ⟨q,0,J⟩))/\b.cell? ⟨q,2,J⟩=I (O (I ⟨g,0,J⟩) n lc)/\b.cell? ⟨P,0,J⟩=I (H p.pan)/\b.cell? ⟨P,1,J⟩=I (Y Z p.mcc)/\b.cell? ⟨P,2,J⟩=I (Y Z p.am)/\b.cell? ⟨P,3,J⟩=I (Y Z p.cur)) (first|assumption|go_keep) (first
       |(go_at_call 87;refine(a5.o _ (by assumption)).mono ?_;rintro e w9 ⟨rfl,c0,p7⟩))
      have q7:=Za (D0.o.trans (m0.o.trans c0.o));clear p7 hS a5 I0 c0 J0 m0 V4 W4 b0 T4;go_wp2_with fail;go_roundg (n-(k+1))
      case measure=>omega
      case rel=>exact⟨j+1,k+1,a+1,by omega,rfl,by go_num,rfl,by go_num,by omega,by show _=_;have:=HK.o;omega,i0,q7⟩
    ·have f7:¬(k:Int)<(n:Int):=by omega
     have i0:E (a=(TJ R (i+1)).length):=by
      show _=_
      rw[HA.o,show TJ R (i+1)=TJ R i++TB R i (R.length-(i+1))from rfl,HN.o,show n-(i+1)=j from by have:=HK.o;omega]
     clear h3 l z;go_wp2_with fail;go_roundg (n-(i+1))
     case measure=>omega
     case rel=>exact⟨i+1,a,by omega,rfl,rfl,rfl,by go_num,ha,i0,C0⟩
  ·have e7:¬(i:Int)<(n:Int):=by omega
   obtain rfl:i=n:=by omega
   obtain rfl:a0=on:=by
    rw[N4.o,<-B0.o,<-HN.o];rfl
   have HT:E (z0 B 88 #[V (I ⟨L,0,J⟩),O oa a0 oc] wr fun e w'=>e=G (.tuple #[])/\(∃f0 g0 t,Nj w c w' L v nv f0 mv g0 (K+1) xs es t/\t.length=fs.length+4/\∀e,e∈t->e∈fs\/e.n<=8796093022208)/\St [1,5,6,8,9,10] c w w'):=by
    obtain⟨c2,b5,r7⟩:=b7.o;obtain⟨N,s7⟩:=HC.o;obtain⟨_,_,_,z⟩:=q0.o wr h0.o;have C7:=(iA.1 HS.o.bx).1;have c5:WJ w c c2:=N.trans b5 L4.o.size;have d5:St [1,5,6,8,9,10] c w wr:=St.cls (c1:=c) (St.cls (c1:=c1) (L4.o.mono (by simp)) N a7.o fun k hk=>by rw[hk,N X M4.o.1,M4.o.2];decide) (WJ.refl _ _) (S:=fun _=>False) h0.o (by simp);refine(IT c2 wr L v nv ov mv kv K xs es fs oa a0 oc _ (r7.keep h0.o (WJ.refl _ _)) (oS z (by omega)) (fun k hk=>(b5 k (K4.o.lt k hk).2).trans (s7 k hk)) (fun e he k hk g e1 e2=>?_) J4.o.1 J4.o.2 (by omega)).mono ?_
    ·obtain⟨g',k1,_,cs,k3,_⟩:=HS.o.o.el e (by simpa using he) k hk
     rw[k1]at e1;injection e1 with e1;injection e1 with e1;have:=(iA.1 k3).1;have:=(K4.o.lt g e2).1;omega
    ·rintro e w' ⟨he,f0,g0,t,⟨c',q1,q2⟩,q3,q4,q5⟩
     exact⟨he,⟨f0,g0,t,⟨c',c5.trans q1 d5.size,q2⟩,q3,q4⟩,d5.cls c5 q5 fun k hk=>by revert hk;simp;omega⟩
   go_wp2_with fail;refine HT.o.mono ?_;rintro e w7 ⟨rfl,h7,h8⟩;have H7:=Za (C h7 h8);clear h7 h8 HT y1 y2 h2;go_wp2_with fail;go_ret;exact⟨rfl,H7.o⟩
def B5 (b:z3)(X T q:Nat)(a:Q)(R:List Zc)(i:Nat)(c:Q)(wr:z3):Prop:=
 wr.heap[X]?=I (A #[V (I ⟨T,0,J⟩),V (I ⟨q,0,J⟩),U false,U false,c,a] 97)/\wr.ownsRow b.heap.size 35 4 c ((Ud R).take i).length (XH ((Ud R).take i))/\Fr (fun k=>k=X) b wr
theorem B5.more {d wr c:z3}{X T q i j a f:Nat}{g:Option Addr}{b:Q}{R:List Zc}{p:ZI}{o:Obj}(t:wr.heap[X]?=I (A #[V (I ⟨T,0,J⟩),V (I ⟨q,0,J⟩),U false,U false,O g i f,b] 97))(m:wr.ownsRow d.heap.size 35 4 (O g i f) i (XH ((Ud R).take i)))(u:Fr (fun k=>k=X) d wr)(n:(Ud R)[i]?=I p)(x:X<d.heap.size)
  (v:(wr.drew.alloc o).grownBy c (z1 g i f).ownBlock)(h:c.ownsRow d.heap.size 35 4 (O (I ⟨j,0,J⟩) (i+1) a) (i+1) (XH ((Ud R).take i)++[H p.pan,Y Z p.mcc,Y Z p.am,Y Z p.cur])):
  c.heap[X]?=I (A #[V (I ⟨T,0,J⟩),V (I ⟨q,0,J⟩),U false,U false,O g i f,b] 97)/\B5 d X T q b R (i+1) (O (I ⟨j,0,J⟩) (i+1) a) (c.setCell ⟨X,4,J⟩ (O (I ⟨j,0,J⟩) (i+1) a)):=by
 have r:Fr (fun k=>(z1 g i f).ownBlock=I k) wr c:=(((Fr.refl _ wr).drew).alloc o).grown v fun k l=>Or.inl l
 have s:=r.whole t fun e=>by have:=(m.lt X e).1;omega
 have y:=(iG.1 n).1;have e:=heap_setCell_same c X 4 _ _ (O (I ⟨j,0,J⟩) (i+1) a) s;refine⟨s,by simpa using e,?_,(u.monoNew r fun k l=>Or.inr (m.lt k l).1).trans (UY _ 4)⟩
 have w:((Ud R).take (i+1)).length=i+1:=by rw[z2];omega
 rw[w,show XH ((Ud R).take (i+1))=XH ((Ud R).take i)++[H p.pan,Y Z p.mcc,Y Z p.am,Y Z p.cur]from by rw[List.take_add_one,n];simp[XH]]
 exact oF h (UY _ 4) fun k l=>by omega
theorem Ly (c:Nat->Nat)(w:z3)(L:Nat)(v nv ov mv kv:Q)(u:Nat)(xs:List Nat)(es fs:List Ue)(X:Nat)(h:SU c w L v nv ov mv kv u xs es fs)(hX:X∈xs)(ht:QA w)(hc:u<=4611686018427387904)(hE:(fs.length+4)*24<=140737488355328):
  z0 B 47 #[V (I ⟨L,0,J⟩),V (I ⟨X,0,J⟩)] w fun e w'=>e=G (U true)/\(∃P0 Q0 m0,Nj w c w' L v nv P0 mv Q0 (u+1) xs es m0/\m0.length=fs.length+4/\∀e,e∈m0->e∈fs\/e.n<=8796093022208)/\St [1,5,6,8,9,10] c w w':=by
 obtain⟨ij,R0,S0,T0,V0⟩:=info_parts ST;obtain⟨T,q,D0,R,g,c0,j,n0,E0,hx,G0,f0,o0,k0⟩:=(h.tb X hX).now;have HS:=Za h;have W0:=Za o0;have X0:=Za (C n0 E0);have HX:=Za hx;have p0:=Za G0;have q0:=Za f0;have Y0:=Za k0;have Z0:=Za (C hc hE);have r0:=Za (NL w T D0 R (o0 w (Fr.refl _ _)).1 ht);have x0:=bC hx 0 _ rfl;obtain⟨d,g0⟩:∃d,(TP R).length=d:=⟨_,rfl⟩;have M:=Za g0;obtain⟨n,hn⟩:∃n,R.length=n:=⟨_,rfl⟩;have HN:=Za hn
 have A1:n<=8:=by have:=n0.l8;omega
 have d1:d<=64:=by
  have:=PF R R.length;have e3:=Nat.mul_le_mul (show R.length<=8 by omega) (show R.length<=8 by omega);unfold TP at g0;omega
 rw[g0]at r0
 have s0:E ((Ud R).length=d):=by show _=_;rw[Ud,F];exact g0
 clear h hX ht hc hE n0 E0 hx G0 f0 o0 k0 g0 hn;go_enter Tryz.func47,Tryz.ntmps47;go_wp2_with fail;refine r0.o.mono ?_;rintro e f ⟨⟨lv,rfl,l⟩,v0⟩;obtain⟨oa,oc,e⟩:=oL l;subst e;have w0:=Za l;have y:=Za v0
 have H0:E (∃c1,WJ w c c1/\Cl c1 (O oa d oc) 8/\SU c1 f L v nv ov mv kv u xs es fs):=by
  have ha:WJ w c fun k=>if(z1 oa d oc).ownBlock=I k then 8 else c k:=fun k hk=>if_neg fun e=>by have:=(l.lt k e).1;omega
  exact⟨_,ha,fun k hk=>if_pos hk,HS.o.keep v0 ha⟩
 obtain⟨c1,I0⟩:=H0.o;have HC:=Za I0;clear H0 I0 l v0 r0 x0
 have J0:E (g=true->∃ta tc b,c0=O ta d tc/\∀W,F0 f W->W.ownsRow b 35 4 (O ta d tc) d (XH (Ud R))):=fun e=>by
  subst e;obtain⟨_,b,s⟩:BH c w 10 35 4 c0 (Ud R).length (XH (Ud R)):=q0.o.1;rw[s0.o]at s;obtain⟨ta,tc,e⟩:=oL s;subst e;exact⟨ta,tc,b,rfl,fun W hf=>oF s (y.o.trans hf) (by simp)⟩
 have P:E (∀W,F0 f W->W.heap[X]?=I (A #[V (I ⟨T,0,J⟩),V (I ⟨q,0,J⟩),U false,U g,c0,j] 97)/\W.ownsRow w.heap.size 44 6 (O oa d oc) d (XG (TP R))):=fun W hf=>⟨(y.o.trans hf).whole HX.o (by simp),oF w0.o hf (by simp)⟩
 go_upto_region 3 with fail
 go_cut [7] (fun bv wz=>bv=U true/\wz=f)
 case first=>
  have d0:=(P.o f (Fr.refl _ _)).1;have x3:=bC d0 3 _ rfl;have x4:=bC d0 4 _ rfl;clear d0
  cases g with
  |true=>
   obtain⟨ta,tc,b,rfl,_⟩:=J0.o rfl;go_wp2_with fail;go_meet;exact⟨rfl,rfl⟩
  |false=>
   go_wp2_with fail;go_meet;exact⟨rfl,rfl⟩
 case rest=>
 obtain⟨rfl,hw⟩:=hcut;replace hw:=hw.symm;subst hw
 go_upto_block 0 with fail
 go_cut [7] (fun bv wz=>bv=U true/\E (F0 f wz))
 case first=>
  cases g with
  |true=>
   obtain⟨ta,tc,b,rfl,s⟩:=J0.o rfl;have K0:=Za s;clear s;go_wp2_with fail
   go_loopg [7,8] d (fun m bv iv wr=>∃i,i<=d/\m=d-i/\bv=U true/\iv=Y Z (i:Nat)/\E (F0 f wr))
   case atStart=>exact⟨0,Nat.zero_le _,rfl,rfl,rfl,Fr.refl _ _⟩
   case round=>
    obtain⟨i,hi,rfl,rfl,rfl,i0⟩:=hrel;obtain⟨r3,r2⟩:=P.o wr i0.o;have r1:=K0.o wr i0.o;have x3:=bC r3 3 _ rfl;by_cases f1:i<d
    ·have y0:(i:Int)<(d:Int):=by omega
     obtain⟨x,hx⟩:∃x,(TP R)[i]?=I x:=⟨_,gE (by have:=M.o;omega)⟩;obtain⟨n1,n2,p⟩:=x;obtain⟨tg,e,_⟩:=Lt r1 s0.o (show(Ud R)[i]?=I p by rw[Ud,N,hx];rfl);subst e;obtain⟨og,e,r⟩:=Dw r2 M.o hx;subst e;have o2:=r 2 _ rfl;have o3:=r 3 _ rfl;have o4:=r 4 _ rfl;have o5:=r 5 _ rfl
     have A0:E ((Ud R)[i]?=I p):=by rw[Ud,N,hx];rfl
     clear r r1 r2 r3 hx;go_upto_region 8 with fail;clear x3 o2 o3 o4 o5;generalize hA:wr.alloc _=WA at*;have B0:E (F0 f WA):=i0.o.trans (IOq hA);have L0:=Za (F2 hA);obtain⟨PA,M0⟩:∃PA,wr.heap.size=PA:=⟨_,rfl⟩;rw[M0]at L0 ⊢;obtain⟨r3,r2⟩:=P.o WA B0.o;have r1:=K0.o WA B0.o;have x4:=bC r3 4 _ rfl;obtain⟨B1,e,t0,t1,t2,t3⟩:=Lt r1 s0.o A0.o;injection e with e;injection e with e _ _;subst e;clear hA M0 r1 r2 r3;go_upto_region 9 with fail;clear x4 t0 t1 t2 t3;generalize hB:WA.alloc _=WB at*;have g1:E (F0 f WB):=B0.o.trans (IOq hB);have hb:=F2 hB;have ha:=BF hB L0.o;have a0:=bC ha 0 _ rfl;have a1:=bC ha 1 _ rfl;have a2:=bC ha 2 _ rfl;have a3:=bC ha 3 _ rfl;have b0:=bC hb 0 _ rfl;have b1:=bC hb 1 _ rfl;have b2:=bC hb 2 _ rfl;have b3:=bC hb 3 _ rfl;clear ha hb hB;go_wp2_with fail;go_roundg (d-(i+1))
     case measure=>omega
     case rel=>exact⟨i+1,by omega,rfl,rfl,by go_num,g1⟩
    ·have y0:¬(i:Int)<(d:Int):=by omega
     clear r1 r2 r3;go_wp2_with fail;go_meet;exact⟨rfl,i0⟩
  |false=>
   have d0:=(P.o f (Fr.refl _ _)).1;have x3:=bC d0 3 _ rfl;clear d0;go_wp2_with fail
   go_loopg [7,8] 0 (fun _ bv iv wr=>bv=U true/\iv=Y Z 0/\E (wr=f))
   case atStart=>exact⟨rfl,rfl,rfl⟩
   case round=>
    obtain⟨rfl,rfl,HW⟩:=hrel;have e:=HW.o;subst e;go_wp2_with fail;go_meet;exact⟨rfl,Fr.refl _ _⟩
 case rest=>
 obtain⟨rfl,e0⟩:=hcut;generalize wc=w2 at*;have x3:=bC (P.o w2 e0.o).1 3 _ rfl
 go_upto_if 96 with fail
 go_cut [] (fun wz=>E (Fr (fun k=>k=X) f wz)/\E (Nj f c1 wz L v nv ov mv kv u xs es fs)/\E (∃a2 t2,wz.heap[X]?=I (A #[V (I ⟨T,0,J⟩),V (I ⟨q,0,J⟩),U false,U a2,t2,j] 97)))
 case first=>
  clear x3
  cases g with
  |true=>
   have z:E (Fr (fun k=>k=X) f w2/\Nj f c1 w2 L v nv ov mv kv u xs es fs):=⟨e0.o.mono (by simp),c1,WJ.refl _ _,HC.o.2.2.keep e0.o (WJ.refl _ _)⟩;go_wp2_with fail;go_meet;exact⟨z.o.1,z.o.2,_,_,(P.o w2 e0.o).1⟩
  |false=>
   obtain rfl:c0=O J 0 0:=q0.o.1;have i1:E (B5 f X T q j R 0 (O J 0 0) w2):=⟨(P.o w2 e0.o).1,oZ _ _ _ _,e0.o.mono (by simp)⟩;go_wp2_with fail
   go_loopg [11] d (fun m iv wr=>∃i tv,i<=d/\m=d-i/\iv=Y Z (i:Nat)/\E (B5 f X T q j R i tv wr))
   case atStart=>exact⟨0,_,Nat.zero_le _,rfl,rfl,i1⟩
   case round=>
    obtain⟨i,tv,hi,rfl,rfl,HM⟩:=hrel;by_cases f1:i<d
    ·have y0:(i:Int)<(d:Int):=by omega
     obtain⟨x,hx⟩:∃x,(TP R)[i]?=I x:=⟨_,gE (by have:=M.o;omega)⟩;obtain⟨n1,n2,p⟩:=x
     have A0:E ((Ud R)[i]?=I p):=by rw[Ud,N,hx];rfl
     obtain⟨m1,m2,m3⟩:=HM.o
     have l0:((Ud R).take i).length=i:=by rw[z2,Ud,F,M.o];omega
     rw[l0]at m2;obtain⟨ta,tc,e⟩:=oL m2;subst e;have m4:=oF w0.o m3 (fun k hk=>by have:=(iA.1 HX.o).1;omega);obtain⟨og,e,r⟩:=Dw m4 M.o hx;subst e;have j0:=Za (C m2 m3);have j1:=Za m1;have x4:=bC m1 4 _ rfl;have o2:=r 2 _ rfl;have o3:=r 3 _ rfl;have o4:=r 4 _ rfl;have o5:=r 5 _ rfl
     have y4:∀o,(wr.alloc o).cell? ⟨X,4,J⟩=I (O ta i tc):=fun o=>(World.cell?_alloc_some wr ⟨X,4,J⟩ o (by simp[x4])).trans x4
     clear r hx m1 m2 m3 m4 l0;go_upto_region 14 with fail;refine wp_region_held_drew (S:=fun _=>True) (by kernel_rfl) trivial (fun t=>?_);refine Zf 0 t ?_
     try go_frame
     refine Zf 1 t ?_
     try go_frame
     refine Zf 2 t ?_
     try go_frame
     refine Zf 3 t ?_
     try go_frame
     refine Zf 5 t ?_
     try go_frame
     refine Zf 6 t ?_
     try go_frame
     refine Zf 7 t ?_
     try go_frame
     refine Zf 8 t ?_
     try go_frame
     refine wpAnyH_ready (rs:=[4,9]) (by kernel_rfl) (by simp) ?_;refine Zb rfl (fun K a=>?p1) (Zb rfl (fun K a=>?p2) AllReadyH.nil)
     case' p1=>
      try rw[if_pos (by rfl)]
      go_simp;refine a.out _ _ t (fun _=>?_);clear a K
      try go_frame
      refine SX 9 (fun K a=>?_);go_simp;refine a.out _ _ t (fun _=>?_);clear a K
      try go_frame
      refine SX 10 (fun K a=>?_);go_simp;refine a.out _ _ trivial (fun t=>?_);clear a K
      try go_frame
     case' p2=>
      try rw[if_pos (by rfl)]
      go_simp;refine a.out _ _ t (fun _=>?_);clear a K
      try go_frame
      refine wpAnyH_ready (rs:=[4,10]) (by kernel_rfl) (by simp) ?_;refine Zb rfl (fun K a=>?p3) (Zb rfl (fun K a=>?p4) AllReadyH.nil)
     case' p3=>
      try rw[if_pos (by rfl)]
      go_simp;refine a.out _ _ t (fun _=>?_);clear a K
      try go_frame
      refine SX 10 (fun K a=>?_);go_simp;refine a.out _ _ trivial (fun t=>?_);clear a K
      try go_frame
     case' p4=>
      try rw[if_pos (by rfl)]
      go_simp;refine a.out _ _ trivial (fun t=>?_);clear a K
      try go_frame
      refine SX 4 (fun K a=>?_);have z4:∀o,(wr.drew.alloc o).cell? ⟨X,4,J⟩=I (O ta i tc):=y4;go_simp;refine a.out _ _ t (fun _=>?_);clear a K z4
      try go_frame
     all_goals
      refine SX 11 (fun K a=>?_);refine wp_append_lies _ (.tmp 107) (.tmp 113) 94 rfl f.heap.size 35 ij _ 4 40 Tryz.underlying94 R0 S0 T0 V0 rfl (by decide) (O ta i tc) i (XH ((Ud R).take i)) rfl ?h1 ⟨wr.drew.heap.size,0,J⟩ 1 1 [H p.pan,Y Z p.mcc,Y Z p.am,Y Z p.cur] rfl rfl ?h2 ?h3 (by decide) ?h4 ?h5 ?h6 _ rfl ?h7
      case h1=>exact(oF j0.o.1 ((Fr.refl (fun _=>False) wr).drew) (by simp)).alloc _
      case h2=>exact World.news_of_block (aN wr.drew (A #[H p.pan,Y Z p.mcc,Y Z p.am,Y Z p.cur] 35))
      case h3=>simp[Value.oneCell']
      case h4=>unfold maxLen;omega
      case h5=>omega
      case h6=>have:=j0.o.2.size;simp;exact Nat.le_succ_of_le this
      case h7=>
       intro g2 y1 w8 l h0 k1 _;obtain⟨C0,N0⟩:=B5.more j1.o j0.o.1 j0.o.2 A0.o (nL (iA.1 HX.o).1 y.o.size) h0 l;have l1:=Za N0;have e4:=bC C0 4 _ rfl;have f4:=bF C0 4;clear l h0 k1 N0 C0;refine a.out _ _ trivial (fun t=>?_);clear a K
       try go_frame
       refine Zf 12 t ?_
       try go_frame
       refine Zf 13 t ?_
       try go_frame
       refine SX 14 (fun K a=>?_);go_simp;refine a.out _ _ trivial (fun t=>?_);clear a K
       try go_frame
       refine wpAnyH_done (by kernel_rfl) ?_ _;clear e4 f4;go_wp2_with fail;go_roundg (d-(i+1))
       case measure=>omega
       case rel=>exact⟨i+1,_,by omega,rfl,by go_num,l1⟩
    ·have y0:¬(i:Int)<(d:Int):=by omega
     obtain rfl:i=d:=by omega
     obtain⟨m1,m2,m3⟩:=HM.o;have e3:=bC m1 3 _ rfl;have f3:=bF m1 3
     have z:E (Fr (fun k=>k=X) f (wr.setCell ⟨X,3,J⟩ (U true))/\Nj f c1 (wr.setCell ⟨X,3,J⟩ (U true)) L v nv ov mv kv u xs es fs):=by
      have hf:Fr (fun k=>k=X) f (wr.setCell ⟨X,3,J⟩ (U true)):=m3.trans (UY _ 3)
      have ha:WJ f c1 fun k=>if tv.ownBlock=I k then 10 else c1 k:=fun k hk=>if_neg fun e=>by have:=(m2.lt k e).1;omega
      have O0:=(iA.1 HX.o).1;refine⟨hf,_,ha,HC.o.2.2.tells ((HC.o.1 X O0).trans p0.o) hf ha ?_⟩;have e:=heap_setCell_same wr X 3 _ _ (U true) m1;refine Y0.o _ _ true tv j ((y.o.mono (by simp)).trans hf) (HC.o.1.trans ha y.o.size) (by simpa using e) ⟨⟨fun k hk=>if_pos hk,f.heap.size,?_⟩,q0.o.2.imp id fun⟨D,e1,e2⟩=>⟨D,e1,(e2.keep (y.o) HC.o.1 (by simp)).keep hf ha fun k hk=>?_⟩⟩
      ·have hl:(Ud R).length=i:=by rw[Ud,F];exact M.o
       rw[List.take_of_length_le (by omega)]at m2;exact oF m2 (UY _ 3) (fun k hk=>by have:=y.o.size;omega)
      ·rw[hk,HC.o.1 X O0,p0.o]
       decide
     have o1:E ((wr.setCell ⟨X,3,J⟩ (U true)).heap[X]?=I (A #[V (I ⟨T,0,J⟩),V (I ⟨q,0,J⟩),U false,U true,tv,j] 97)):=by
      have e:=heap_setCell_same wr X 3 _ _ (U true) m1
      show _=_
      simpa using e
     clear m1 m2 m3;go_wp2_with fail;go_meet;exact⟨z.o.1,z.o.2,_,_,o1.o⟩
 case rest=>
  clear x3;obtain⟨q1,s1,v1⟩:=hcut;generalize wc=W at*;obtain⟨a2,t2,x1⟩:=v1.o
  apply_assumption
  exact FT c c1 w f W L v nv ov mv kv u xs es fs X T q D0 R oa d oc n a2 t2 j HS.o X0.o (iA.1 HX.o).1 p0.o Z0.o (fun W hf=>(W0.o W hf).2) w0.o y.o ⟨HC.o.1,HC.o.2.1⟩ q1.o s1.o x1 M.o HN.o _ _ _ _ _ _ _ _ _ _ _ _ _ _ _ _ _ _ _ _ _ _ _ _ _ _ _ _ _ _ _ _ _ _ _ _ _ _ _ _ _ _ _ _ _ _ _ _ _ _ _ _ _ _ _ _ _ _ _ _ _ _ _ _ _ _ _ _ _ _ _ _ _ _ _ _ _ _ _ _ _ _ _ _ _ _ _ _ _ _ _ _ _ _ _ _ _ _ _ _ _ _ _ _ _ _ _ _ _ _ _ _ _ _ _ _ _ _ _ _ _ _ _ _ _ _ _ _ _ _ _ _ _ _ _ _ _ _ _ _ _ _ _ _ _ _ _ _ _ _ _ _ _ _ _ _ _ _ _ _ _ _ _ _ _ _ _ _ _ _ _ _ _ _ _ _ _ _ _ _ _ _ _ _ _ _ _ _ _ _ _ _ _ _ _ _ _ _ _ _ _ _ _ _ _ _ _ _ _ _ _ _ _ _ _ _ _ _ _ _ _ _ _ _ _ _ _ _ _ _ _ _ _ _ _ _ _ _ _ _ _ _ _ _ _ _ _ _ _ _
