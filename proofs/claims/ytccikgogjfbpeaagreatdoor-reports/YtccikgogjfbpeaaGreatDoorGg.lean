import Derived.Test.YtccikgogjfbpeaaGreatDoorGf
open Option renaming none->I,some->Y
open Go.Value renaming pointer->J,int->P,slice->Z,string->L,bool->Q,agg->z9,string->y2,slice->y8,oneCell'->q3
open Go.IntKind renaming i64->V,u64->y5
open Go.Obj renaming cells->U
open Go.RowKit renaming Hid->O
open Go.AllReadyH renaming nil->E
open Go.Proofs.Tryz renaming prog->B
open Or renaming inl->A,inr->z5
open Go renaming World->C,Value->z6,Calls->z7
open Go.Ending renaming returned->F
open Nat renaming pow_le_pow_right->z8,le_of_eq->y3,le_trans->y6,add_zero->q4,zero_le->q5
open List renaming map_append->y4,take_add_one->y7,length_map->y9
namespace Go.Proofs.YtccikgogjfbpeaaGreatDoor
set_option maxRecDepth 30000
set_option maxHeartbeats 8000000
open Go.RowKit Go.Maps
theorem VY.form {w:C}{lo:Nat}{a b:z6}:∀{t:Tr},VY w lo t (z9 #[a,b])->∃(p:Option Addr)(k:Nat),a=J p/\b=P V k
 | .leaf p,h=>by
  have e:Value.agg #[a,b]=z9 #[J I,P V p]:=h;injection e with e
  obtain⟨c,d⟩:a=J I/\b=P V p:=by simpa using e
  exact⟨I,p,c,d⟩
 | .node _,⟨K,_,e,_⟩=>by
  injection e with e
  obtain⟨c,d⟩:a=J (Y ⟨K,0,I⟩)/\b=P V 0:=by simpa using e
  exact⟨_,0,c,d⟩
def UG:Array z6:=#[J I,P V 0,J I,P V 0,J I,P V 0,J I,P V 0,J I,P V 0,J I,P V 0,J I,P V 0,J I,P V 0,J I,P V 0,J I,P V 0]
structure AT (W0:C)(q:ZK)(op:Nat)(R:List Zc)(met i a1 a2:Nat)(wr:C):Prop where
 fr:F0 W0 wr
 eq:Xb q op i (R.drop i) (a1,a2)=Xb q op 0 R (met,0)
theorem G9 {zb:Nat}(w0:C)(G M:Nat)(v0 v1:z6)(R:List Zc)(l:Nat->Nat)(hM:M<w0.heap.size)(hG:G<w0.heap.size)(P1:R.length<=8)(ho:∀k,k<R.length->l k<R.length)(hR:∀r,r∈R->r.mcc.length<=4000/\r.cur.length<=4000)(hB:∀r,r∈R->Ov r/\r.lo<=1000000)
  (n:Nat)(ih:∀(q:ZK)(met op:Nat)(D:List Nat)(L:z6)(w:C),7<=n+q.d->q.d<=6->q.x<10^q.d->met<256->op<256->TR zb w0 w G M v0 v1 R l D L->z7 B 93 #[J (Y ⟨G,0,I⟩),WN q,P .u64 met,P .u64 op] w (VZ zb w0 w G M v0 v1 R l (ZR R n q met op D) L))
  (q:ZK)(met op:Nat)(D:List Nat)(L:z6)(w:C)(h7:7<=n+1+q.d)(hq:q.d<=6)(hx:q.x<10^q.d)(hm:met<256)(Q1:op<256)(h:TR zb w0 w G M v0 v1 R l D L):
  z7 B 93 #[J (Y ⟨G,0,I⟩),WN q,P .u64 met,P .u64 op] w (VZ zb w0 w G M v0 v1 R l (ZR R (n+1) q met op D) L):=by
 have R1:O (∀(q:ZK)(met op:Nat)(D:List Nat)(L:z6)(w:C),7<=n+q.d->q.d<=6->q.x<10^q.d->met<256->op<256->TR zb w0 w G M v0 v1 R l D L->z7 B 93 #[J (Y ⟨G,0,I⟩),WN q,P .u64 met,P .u64 op] w (VZ zb w0 w G M v0 v1 R l (ZR R n q met op D) L)):=ih;have HS:O (TR zb w0 w G M v0 v1 R l D L):=h;have HO:O (∀k,k<R.length->l k<R.length):=ho;have S1:O (∀r,r∈R->r.mcc.length<=4000/\r.cur.length<=4000):=hR;have t1:O (∀r,r∈R->Ov r/\r.lo<=1000000):=hB;have HX:O (q.x<10^q.d):=hx;have H7:O (7<=n+1+q.d):=h7;obtain⟨N,hN⟩:∃N,R.length=N:=⟨_,rfl⟩;have HN:O (R.length=N):=hN;obtain⟨va,c,h0,_⟩:=h.gr.rl;rw[hN]at h0 P1
 have HQ:O (∀e w',VZ zb w0 w G M v0 v1 R l (ZR R (n+1) q met op D) L e w'↔VZ zb w0 w G M v0 v1 R l (ZR R (n+1) q met op D) L e w'):=fun _ _=>Iff.rfl
 generalize C0:VZ zb w0 w G M v0 v1 R l (ZR R (n+1) q met op D) L=w1 at*;have HP:O (VZ zb w0 w G M v0 v1 R l (ZR R (n+1) q met op D) L=w1):=C0;clear ih h ho hR hB hx h7 hN C0 HQ;obtain⟨t,u⟩:=q;unfold WN;simp only at hq;go_enter Tryz.func93,Tryz.ntmps93;have I0:O (F0 w ((w.alloc (U #[P V t,P V u] 181)).alloc (U #[J I,P V 0] 133))):=((Fr.refl _ _).alloc _).alloc _;have J0:O (((w.alloc (U #[P V t,P V u] 181)).alloc (U #[J I,P V 0] 133)).heap[w.heap.size]?=Y (U #[P V t,P V u] 181)):=((Fr.refl (fun _=>False) _).alloc _).whole (aN w _) (by simp)
 have T0:O (((w.alloc (U #[P V t,P V u] 181)).alloc (U #[J I,P V 0] 133)).heap[w.heap.size+1]?=Y (U #[J I,P V 0] 133)):=by have e:=aN (w.alloc (U #[P V t,P V u] 181)) (U #[J I,P V 0] 133);rw[show(w.alloc (U #[P V t,P V u] 181)).heap.size=w.heap.size+1 from by simp]at e;exact e
 go_upto_region 1 with fail;generalize(w.alloc (U #[P V t,P V u] 181)).alloc (U #[J I,P V 0] 133)=W0 at*;obtain⟨b,hb⟩:∃b,w.heap.size=b:=⟨_,rfl⟩;have HB:O (w.heap.size=b):=hb;rw[hb]at J0 T0 ⊢;clear hb;have V0:O (TR zb w0 W0 G M v0 v1 R l D L):=HS.o.keep I0.o;have g0:W0.cell? ⟨G,0,I⟩=Y (Z va N c):=(I0.o.cell (p:=⟨G,0,I⟩) (bL w _ h0) (by simp)).trans h0;have X0:O (W0.cell? ⟨G,0,I⟩=Y (Z va N c)):=g0;clear h0;go_wp2_with fail
 go_loopg [2,9,19] N (fun m mv sv kv wr=>∃i H T,i<=N/\m=N-i/\kv=P V (i:Nat)/\mv=P .u64 (H:Nat)/\sv=P .u64 (T:Nat)/\H<256/\T<256/\O (AT W0 ⟨t,u⟩ op R met i H T wr))
 case atStart=>exact⟨0,met,0,q5 _,rfl,rfl,rfl,rfl,hm,by omega,⟨Fr.refl _ _,rfl⟩⟩
 case round=>
  obtain⟨i,H,T,hi,rfl,rfl,rfl,rfl,f0,r0,HF⟩:=hrel;by_cases Y0:i<N
  ·have T1:(i:Int)<(N:Int):=by omega
   have A1:=(V0.o.keep HF.o.fr).gr;obtain⟨H2,c2,B1,C1⟩:=A1.rl;obtain⟨r,hr⟩:∃r,R[i]?=Y r:=⟨_,gE (by have:=HN.o;omega)⟩;have D1:O (R[i]?=Y r):=hr;obtain⟨g,ma,mc,ca,cc,pa,pc,eg,V1,f,X1,Y1,Z1⟩:=C1 i r hr;have e1:=(HF.o.fr.cell (p:=⟨G,0,I⟩) (bL W0 _ X0.o) (by simp)).trans X0.o;rw[B1]at e1;injection e1 with e1;injection e1 with e1 _ e2;rw[eg]at e1;subst e1;have E1:=f 0 _ rfl;have b2:=f 1 _ rfl;have v2:=f 2 _ rfl;have v3:=f 3 _ rfl;have v4:=f 4 _ rfl;have v5:=f 5 _ rfl;have v6:=f 6 _ rfl;have v7:=f 7 _ rfl;have v8:=f 8 _ rfl;have v9:=f 9 _ rfl;have d2:=f 10 _ rfl;have f2:=f 11 _ rfl;have g2:=f 12 _ rfl;have i2:=f 13 _ rfl;rw[q4]at E1;clear f X1 Y1 Z1 C1 A1 V1 B1 hr;have K0:O (F0 W0 (wr.alloc (Sw r.name r.rank r.digits r.lo r.hi ma r.mcc.length mc r.am.isSome (r.am.getD (0,0)).1 (r.am.getD (0,0)).2 ca r.cur.length cc r.decline r.cheapest pa r.routes.length pc r.ahead))):=HF.o.fr.alloc _;have Z0:O ((wr.alloc (Sw r.name r.rank r.digits r.lo r.hi ma r.mcc.length mc r.am.isSome (r.am.getD (0,0)).1 (r.am.getD (0,0)).2 ca r.cur.length cc r.decline r.cheapest pa r.routes.length pc r.ahead)).heap[wr.heap.size]?=Y (Sw r.name r.rank r.digits r.lo r.hi ma r.mcc.length mc r.am.isSome (r.am.getD (0,0)).1 (r.am.getD (0,0)).2 ca r.cur.length cc r.decline r.cheapest pa r.routes.length pc r.ahead)):=aN wr _;unfold Sw at K0 Z0;go_upto_region 5 with fail;generalize wr.alloc (U #[y2 r.name,P V r.rank,P V r.digits,P V r.lo,P V r.hi,Z ma r.mcc.length mc,Q r.am.isSome,P V (r.am.getD (0,0)).1,P V (r.am.getD (0,0)).2,Z ca r.cur.length cc,Q r.decline,Q r.cheapest,Z pa r.routes.length pc,P V r.ahead] 120)=W1 at*;generalize wr.heap.size=X at*;clear E1 b2 v2 v3 v4 v5 v6 v7 v8 v9 d2 f2 g2 i2
   have c0:O (Xb ⟨t,u⟩ op (i+1) (R.drop (i+1)) (Tg ⟨t,u⟩ op i r (H,T))=Xb ⟨t,u⟩ op 0 R (met,0)):=by
    have e:=HF.o.eq;rw[G8 D1.o]at e;exact e
   have L0:i<8:=by omega
   have M0:O (∀W,z7 B 145 #[P .u64 op,P V i] W fun e w'=>e=F (Q (op.testBit i))/\w'=W):=fun W=>Ha op i W Q1 L0
   have F1:O (∀s W,s<256->z7 B 147 #[P .u64 (s:Nat),P V i] W fun e w'=>e=F (P .u64 (s|||1<<<i:Nat))/\w'=W):=fun s W hs=>EO s i W hs L0
   cases hb:op.testBit i with
   |false=>
    rw[hb]at M0
    have N0:O (Tg ⟨t,u⟩ op i r (H,T)=(H,T)):=by
     show _=_
     unfold Tg;rw[hb];rfl
    rw[N0.o]at c0;go_wp2_with fail;refine(M0.o _).mono ?_;rintro e w2 ⟨rfl,hw⟩;replace hw:=hw.symm;subst hw;go_wp2_with fail;go_roundg (N-(i+1))
    case measure=>omega
    case rel=>exact⟨i+1,H,T,by omega,rfl,by go_num,rfl,rfl,f0,r0,⟨K0.o,c0.o⟩⟩
   |true=>
    rw[hb]at M0;have O0:=t1.o r (mG D1.o)
    have D0:u<=1000000:=by
     have e:u<10^t:=HX.o;have:10^t<=10^6:=z8 (by omega) hq;omega
    have b1:O (z7 B 146 #[Kh r.name r.rank r.digits r.lo r.hi ma r.mcc.length mc r.am.isSome (r.am.getD (0,0)).1 (r.am.getD (0,0)).2 ca r.cur.length cc r.decline r.cheapest pa r.routes.length pc r.ahead,WN ⟨t,u⟩] W1 fun e w'=>e=F (P V (ZO ⟨t,u⟩ (YQ r.digits r.lo r.hi)))/\Below W1.heap.size W1 w'):=G4 r.name r.rank r.digits r.lo r.hi ma r.mcc.length mc r.am.isSome (r.am.getD (0,0)).1 (r.am.getD (0,0)).2 ca r.cur.length cc r.decline r.cheapest pa r.routes.length pc r.ahead ⟨t,u⟩ W1 O0.1.1 O0.2 O0.1.2 ⟨hq,D0⟩;unfold Kh WN at b1
    have G1:Tg ⟨t,u⟩ op i r (H,T)=if ZO ⟨t,u⟩ (YQ r.digits r.lo r.hi)=2 then(H|||1<<<i,T)else if ZO ⟨t,u⟩ (YQ r.digits r.lo r.hi)=1 then(H,T|||1<<<i)else(H,T):=by
     unfold Tg;rw[hb];rfl
    rw[G1]at c0;have z:=Z0.o;have c1:=K0.o.whole J0.o (by simp);have x0:=bC z 0 _ rfl;have x1:=bC z 1 _ rfl;have x2:=bC z 2 _ rfl;have x3:=bC z 3 _ rfl;have x4:=bC z 4 _ rfl;have x5:=bC z 5 _ rfl;have x6:=bC z 6 _ rfl;have x7:=bC z 7 _ rfl;have x8:=bC z 8 _ rfl;have x9:=bC z 9 _ rfl;have j2:=bC z 10 _ rfl;have k2:=bC z 11 _ rfl;have l2:=bC z 12 _ rfl;have m2:=bC z 13 _ rfl;have p0:=bC c1 0 _ rfl;have p1:=bC c1 1 _ rfl;clear z c1 G1 O0 D0;go_wp2_with fail;refine(M0.o _).mono ?_;rintro e w2 ⟨rfl,hw⟩;replace hw:=hw.symm;subst hw;go_wp2_with fail;refine b1.o.mono ?_;rintro e w3 ⟨rfl,l0⟩;have d1:O (F0 W0 w3):=K0.o.trans (Fr.of_below l0);generalize ZO ⟨t,u⟩ (YQ r.digits r.lo r.hi)=al at*;clear l0 x0 x1 x2 x3 x4 x5 x6 x7 x8 x9 j2 k2 l2 m2 p0 p1 b1;by_cases h2:al=2
    ·subst h2
     rw[if_pos rfl]at c0;go_wp2_with fail;refine(F1.o H _ f0).mono ?_;rintro e w2 ⟨rfl,hw⟩;replace hw:=hw.symm;subst hw;go_wp2_with fail;go_roundg (N-(i+1))
     case measure=>omega
     case rel=>exact⟨i+1,_,T,by omega,rfl,by go_num,rfl,rfl,CP _ _ f0 L0,r0,⟨d1.o,c0.o⟩⟩
    ·rw[if_neg h2]at c0
     have I2:¬(al:Int)=2:=by omega
     by_cases h1:al=1
     ·subst h1
      rw[if_pos rfl]at c0;go_wp2_with fail;refine(F1.o T _ r0).mono ?_;rintro e w2 ⟨rfl,hw⟩;replace hw:=hw.symm;subst hw;go_wp2_with fail;go_roundg (N-(i+1))
      case measure=>omega
      case rel=>exact⟨i+1,H,_,by omega,rfl,by go_num,rfl,rfl,f0,CP _ _ r0 L0,⟨d1.o,c0.o⟩⟩
     ·rw[if_neg h1]at c0
      have J2:¬(al:Int)=1:=by omega
      go_wp2_with fail;go_roundg (N-(i+1))
      case measure=>omega
      case rel=>exact⟨i+1,H,T,by omega,rfl,by go_num,rfl,rfl,f0,r0,⟨d1.o,c0.o⟩⟩
  ·have n2:i=N:=by omega
   subst n2
   have T1:¬(i:Int)<(i:Int):=by omega
   have g1:O (Xb ⟨t,u⟩ op 0 R (met,0)=(H,T)):=by
    have e:=HF.o.eq;rw[<-HN.o,ET]at e;exact e.symm
   have P0:O (F0 w wr):=I0.o.trans HF.o.fr;have Q0:O (TR zb w0 wr G M v0 v1 R l D L):=V0.o.keep HF.o.fr;have m0:O (wr.heap[b+1]?=Y (U #[J I,P V 0] 133)):=HF.o.fr.whole T0.o (by simp);have S0:O (wr.heap[b]?=Y (U #[P V t,P V u] 181)):=HF.o.fr.whole J0.o (by simp);clear T0 J0 V0 I0 X0 HF;by_cases hz:T=0
   ·subst hz
    have o2:O (z7 B 148 #[J (Y ⟨G,0,I⟩),P .u64 H] wr fun e w'=>e=F (P V (WG D H:Nat))/\(∃a0,TR zb w0 w' G M v0 v1 R l (V4 D H) a0/\(a0.ownBlock=L.ownBlock\/∀k,a0.ownBlock=Y k->wr.heap.size<=k))/\Fr (fun k=>k=G\/k=M\/L.ownBlock=Y k) wr w'):=
     Lf w0 wr G M v0 v1 R l D L H Q0.o hM hG Q0.o.few (by have:=HN.o;omega) f0 HO.o S1.o
    go_wp2_with fail;refine o2.o.mono ?_;rintro e w5 ⟨rfl,⟨a0,i0,j0⟩,i1⟩
    have L2:w0.heap.size<=b:=by rw[<-HB.o];exact HS.o.fr.size
    have H1:¬(b+1=G\/b+1=M\/L.ownBlock=Y (b+1)):=by
     rintro(e|e|e)
     ·omega
     ·omega
     ·obtain⟨xs,hp,_⟩:=HS.o.pg
      have:=(hp.lt _ e).2;have:=HB.o;omega
    have z:=i1.whole m0.o H1;have Z0:O (w5.heap[b+1]?=Y (U #[J I,P V 0] 133)):=z;have y0:=bC z 0 _ rfl;have y1:=bC z 1 _ rfl;have yf:=bF z
    have d0:O (VZ zb w0 w G M v0 v1 R l (ZR R (n+1) ⟨t,u⟩ met op D) L (F (z9 #[J I,P V (WG D H:Nat)])) ((w5.setCell ⟨b+1,0,I⟩ (J I)).setCell ⟨b+1,1,I⟩ (P V (WG D H:Nat)))):=by
     have hS:Fr (fun k=>k=b+1) w5 ((w5.setCell ⟨b+1,0,I⟩ (J I)).setCell ⟨b+1,1,I⟩ (P V (WG D H:Nat))):=((Fr.refl (fun k=>k=b+1) w5).setCell (p:=⟨b+1,0,I⟩) (A rfl) _).setCell (p:=⟨b+1,1,I⟩) (A rfl) _
     have hT:ZR R (n+1) ⟨t,u⟩ met op D=(.leaf (WG D H),V4 D H):=by
      unfold ZR;rw[g1.o,if_pos rfl]
     rw[hT];refine⟨⟨_,_,rfl,rfl⟩,⟨a0,i0.wrote hS ?_,?_⟩,?_⟩
     ·rintro k rfl
      exact⟨by omega,_,_,z,A rfl⟩
     ·rcases j0 with e|e
      ·exact A e
      ·exact z5 fun k hk=>y6 P0.o.size (e k hk)
     ·have f1:Fr (fun k=>k=G\/k=M\/L.ownBlock=Y k) w w5:=(P0.o.mono (by simp)).trans i1
      exact f1.monoNew hS (fun k hk=>z5 (by have:=HB.o;omega))
    rw[HP.o]at d0;clear i0 j0 i1 z H1;go_wp2_with fail
    obtain⟨s0,s1⟩:((w5.setCell ⟨b+1,0,I⟩ (J I)).setCell ⟨b+1,1,I⟩ (P V (WG D H:Nat))).cell? ⟨b+1,0,I⟩=Y (J I)/\((w5.setCell ⟨b+1,0,I⟩ (J I)).setCell ⟨b+1,1,I⟩ (P V (WG D H:Nat))).cell? ⟨b+1,1,I⟩=Y (P V (WG D H:Nat)):=by
     constructor
     ·rw[cO _ _ _ _ (by simp)];exact cS _ _ _ y0
     ·exact cS _ _ _ (by rw[cO _ _ _ _ (by simp)];exact y1)
    refine bodyPost_ret (v:=z9 #[J I,P V (WG D H:Nat)]) (by simp[results,Tryz.results93,go_sem,s0,s1]) rfl d0.o
   ·have M2:¬(T:Int)=0:=by omega
    have N2:t<6:=Ow (q:=⟨t,u⟩) (met:=met) (op:=op) (fun r hr=>(t1.o r hr).1) (by rw[g1.o];exact hz);have t0:O (F0 wr ((wr.alloc (U UG 248)).alloc (U #[J (Y ⟨wr.heap.size,0,I⟩),P V 0] 133))):=((Fr.refl _ _).alloc _).alloc _;have R0:O (((wr.alloc (U UG 248)).alloc (U #[J (Y ⟨wr.heap.size,0,I⟩),P V 0] 133)).heap[wr.heap.size]?=Y (U UG 248)):=((Fr.refl (fun _=>False) _).alloc _).whole (aN wr _) (by simp)
    have A0:O (((wr.alloc (U UG 248)).alloc (U #[J (Y ⟨wr.heap.size,0,I⟩),P V 0] 133)).heap[wr.heap.size+1]?=Y (U #[J (Y ⟨wr.heap.size,0,I⟩),P V 0] 133)):=by have e:=aN (wr.alloc (U UG 248)) (U #[J (Y ⟨wr.heap.size,0,I⟩),P V 0] 133);rw[show(wr.alloc (U UG 248)).heap.size=wr.heap.size+1 from by simp]at e;exact e
    unfold UG at t0 R0 A0;go_upto_region 15 with fail;generalize(wr.alloc (U #[J I,P V 0,J I,P V 0,J I,P V 0,J I,P V 0,J I,P V 0,J I,P V 0,J I,P V 0,J I,P V 0,J I,P V 0,J I,P V 0] 248)).alloc (U #[J (Y ⟨wr.heap.size,0,I⟩),P V 0] 133)=W2 at*;obtain⟨K,j1⟩:∃K,wr.heap.size=K:=⟨_,rfl⟩;have O2:O (wr.heap.size=K):=j1;rw[j1]at R0 A0 ⊢
    have P2:b+1<K:=by
     have:=(iA.1 m0.o).1;omega
    have Q2:K+1<W2.heap.size:=(iA.1 A0.o).1
    have R2:w0.heap.size<=b:=by rw[<-HB.o];exact HS.o.fr.size
    have e0:O (∀k,b<=k->k≠K->¬(k=G\/k=M\/L.ownBlock=Y k\/k=K)):=by
     rintro k hk p2 (e|e|e|e)
     ·omega
     ·omega
     ·obtain⟨xs,hp,_⟩:=HS.o.pg
      have:=(hp.lt _ e).2;have:=HB.o;omega
     ·exact p2 e
    have I1:O (TR zb w0 W2 G M v0 v1 R l D L):=Q0.o.keep t0.o;have o0:O (W2.heap[b]?=Y (U #[P V t,P V u] 181)):=t0.o.whole S0.o (by simp);have J1:O (W2.heap[b+1]?=Y (U #[J I,P V 0] 133)):=t0.o.whole m0.o (by simp);have K1:O (F0 w W2):=P0.o.trans t0.o;have r2:O (Bf zb w0 W2 G M K v0 v1 R l (fun d b0=>ZR R n (ZK.longer ⟨t,u⟩ d) H T b0) D L 0 W2):=⟨⟨L,I1.o,A rfl⟩,Fr.refl _ _,⟨_,R0.o,rfl,fun j hj=>by omega⟩⟩;clear j1 t0 R0 S0 m0 P0 Q0 I1;go_wp2_with fail
    go_loopg [50] 10 (fun m kv wx=>∃d,d<=10/\m=10-d/\kv=P V (d:Nat)/\O (Bf zb w0 W2 G M K v0 v1 R l (fun d b0=>ZR R n (ZK.longer ⟨t,u⟩ d) H T b0) D L d wx))
    case atStart=>exact⟨0,by omega,rfl,rfl,r2⟩
    case round=>
     obtain⟨d,hd,rfl,rfl,HK⟩:=hrel;by_cases Y0:d<10
     ·have E2:(d:Int)<10:=by omega
      have F2:(0:Int)<=(d:Int):=by omega
      obtain⟨a0,i0,j0⟩:=HK.o.gs;have L1:O (TR zb w0 wr G M v0 v1 R l (Xu (fun d b0=>ZR R n (ZK.longer ⟨t,u⟩ d) H T b0) d D).2 a0):=i0;have s2:O (a0.ownBlock=L.ownBlock\/∀k,a0.ownBlock=Y k->W2.heap.size<=k):=j0;have q0:=bC (HK.o.fr.whole o0.o (e0.o b (by omega) (by omega))) 0 _ rfl;have q1:=bC (HK.o.fr.whole o0.o (e0.o b (by omega) (by omega))) 1 _ rfl;have q2:=bC (HK.o.fr.whole A0.o (e0.o (K+1) (by omega) (by omega))) 0 _ rfl;clear i0 j0;obtain⟨k0,E0⟩:∃x,x=t+1:=⟨_,rfl⟩;obtain⟨G0,H0⟩:∃x,x=u*10+d:=⟨_,rfl⟩
      have M1:O (ZK.longer ⟨t,u⟩ d=⟨k0,G0⟩):=by
       show _=_
       unfold ZK.longer;rw[E0,H0]
      have k1:O (G0<10^k0/\7<=n+k0/\k0<=6):=by
       refine⟨?_,?_,by omega⟩
       ·have e:u<10^t:=HX.o
        rw[E0,H0,Nat.pow_succ];omega
       ·have e:7<=n+1+t:=H7.o
        omega
      have D0:u<=1000000:=by
       have e:u<10^t:=HX.o;have:10^t<=10^6:=z8 (by omega) hq;omega
      have t2:O (∀W,F0 wr W->z7 B 149 #[z9 #[P V t,P V u],P V d] W fun e w'=>e=F (z9 #[P V k0,P V G0])/\O (F0 wr w')):=by
       intro W hW;have e:=J4 ⟨t,u⟩ d W hq D0 Y0;refine e.mono ?_;rintro e w' ⟨rfl,l0⟩;rw[M1.o];exact⟨rfl,hW.trans (Fr.of_below l0)⟩
      have z2:O (∀W,F0 wr W->z7 B 93 #[J (Y ⟨G,0,I⟩),z9 #[P V k0,P V G0],P .u64 H,P .u64 T] W (VZ zb w0 W G M v0 v1 R l (ZR R n (ZK.longer ⟨t,u⟩ d) H T (Xu (fun d b0=>ZR R n (ZK.longer ⟨t,u⟩ d) H T b0) d D).2) a0)):=by
       intro W hW;rw[M1.o];exact R1.o ⟨k0,G0⟩ H T _ a0 W k1.o.2.1 k1.o.2.2 k1.o.1 f0 r0 (L1.o.keep hW)
      have l1:O (∀W,Fr (fun k=>k=G\/k=M\/L.ownBlock=Y k\/k=K) W2 W->W.cell? ⟨b,0,I⟩=Y (P V t)/\W.cell? ⟨b,1,I⟩=Y (P V u)/\W.cell? ⟨K+1,0,I⟩=Y (J (Y ⟨K,0,I⟩))):=fun W hW=>
       ⟨bC (hW.whole o0.o (e0.o b (by omega) (by omega))) 0 _ rfl,bC (hW.whole o0.o (e0.o b (by omega) (by omega))) 1 _ rfl,bC (hW.whole A0.o (e0.o (K+1) (by omega) (by omega))) 0 _ rfl⟩
      clear E0 H0 D0;go_wp2_with fail;refine wp_region_held_drew (S:=fun W=>W.cell? ⟨b,0,I⟩=Y (P V t)/\W.cell? ⟨b,1,I⟩=Y (P V u)/\W.cell? ⟨K+1,0,I⟩=Y (J (Y ⟨K,0,I⟩))) (by kernel_rfl) ⟨q0,q1,q2⟩ (fun hH=>?_);refine Zf 0 hH ?_
      try go_frame
      refine Zf 1 hH ?_
      try go_frame
      refine Zf 2 hH ?_
      try go_frame
      refine Zf 3 hH ?_
      try go_frame
      refine Zf 4 hH ?_
      try go_frame
      refine Zf 5 hH ?_
      try go_frame
      refine Zf 7 hH ?_
      try go_frame
      refine Zf 8 hH ?_
      try go_frame
      refine Zf 10 hH ?_
      try go_frame
      refine wpAnyH_ready (rs:=[6]) (by kernel_rfl) (by simp) ?_;refine Zb rfl (fun K2 hK=>?_) E;go_simp;refine(t2.o _ (Fr.refl _ _).drew).mono ?_;rintro e wy ⟨rfl,m1⟩;refine hK.out _ _ (l1.o _ (HK.o.fr.trans (m1.o.mono (by simp)))) (fun hH=>?_);clear hK K2
      try go_frame
      refine wpAnyH_ready (rs:=[9]) (by kernel_rfl) (by simp) ?_;refine Zb rfl (fun K2 hK=>?_) E;go_simp;refine(z2.o _ m1.o).mono ?_;intro e w8 o1
      obtain⟨pp,kk,rfl⟩:∃(pp:Option Addr)(kk:Nat),e=F (z9 #[J pp,P V kk]):=by
       obtain⟨⟨a,bb,e1,ht⟩,_⟩:=o1;obtain⟨pp,kk,rfl,rfl⟩:=ht.form;exact⟨pp,kk,e1⟩
      obtain⟨N1,⟨u0,z0⟩,⟨u1,z1⟩,zf,O1⟩:=Bf.step HK.o Y0 (by omega) (by omega) L1.o s2.o m1.o o1;have N0:O (Bf zb w0 W2 G M K v0 v1 R l (fun d b0=>ZR R n (ZK.longer ⟨t,u⟩ d) H T b0) D L (d+1) ((w8.setCell ⟨K,d*2,I⟩ (J pp)).setCell ⟨K,d*2+1,I⟩ (P V kk))):=N1;have A2:=l1.o _ O1;have S2:=zf (d*2);have B2:=zf (d*2+1)
      have T2:(w8.setCell ⟨K,d*2,I⟩ (J pp)).cell? ⟨K,d*2+1,I⟩=Y u1:=by rw[cO _ _ _ _ (by simp)];exact z1
      have G2:(w8.setCell ⟨K,d*2,I⟩ (J pp)).frozen? ⟨K,d*2+1,I⟩=false:=by simpa using B2
      clear N1 o1 O1 zf;refine hK.out _ _ A2 (fun hH=>?_);clear hK K2
      try go_frame
      refine Zf 11 hH ?_
      try go_frame
      refine wpAnyH_ready (rs:=[12]) (by kernel_rfl) (by simp) ?_;refine Zb rfl (fun K2 hK=>?_) E
      try rw[if_pos (by rfl)]
      go_simp;refine hK.out _ _ (l1.o _ N0.o.fr) (fun _=>?_);clear hK K2
      try go_frame
      refine wpAnyH_done (by kernel_rfl) ?_ _;go_wp2_with fail;go_roundg (10-(d+1))
      case measure=>omega
      case rel=>exact⟨d+1,by omega,rfl,by go_num,N0⟩
     ·have C2:d=10:=by omega
      subst C2;have B0:=HK.o.fr.whole J1.o (e0.o (b+1) (by omega) (by omega));have r1:=HK.o.fr.whole A0.o (e0.o (K+1) (by omega) (by omega));have y0:=bC B0 0 _ rfl;have y1:=bC B0 1 _ rfl;have V2:=bF B0 0;have X2:=bF B0 1;have n0:=bC r1 0 _ rfl;have n1:=bC r1 1 _ rfl
      have d0:O (VZ zb w0 w G M v0 v1 R l (ZR R (n+1) ⟨t,u⟩ met op D) L (F (z9 #[J (Y ⟨K,0,I⟩),P V 0])) ((wr.setCell ⟨b+1,0,I⟩ (J (Y ⟨K,0,I⟩))).setCell ⟨b+1,1,I⟩ (P V 0))):=by
       have hS:Fr (fun k=>k=b+1) wr ((wr.setCell ⟨b+1,0,I⟩ (J (Y ⟨K,0,I⟩))).setCell ⟨b+1,1,I⟩ (P V 0)):=((Fr.refl (fun k=>k=b+1) wr).setCell (p:=⟨b+1,0,I⟩) (A rfl) _).setCell (p:=⟨b+1,1,I⟩) (A rfl) _
       have hT:ZR R (n+1) ⟨t,u⟩ met op D=(.node (Xu (fun d b0=>ZR R n (ZK.longer ⟨t,u⟩ d) H T b0) 10 D).1,(Xu (fun d b0=>ZR R n (ZK.longer ⟨t,u⟩ d) H T b0) 10 D).2):=by
        rw[ZR,g1.o,if_neg hz]
       rw[hT];obtain⟨a0,i0,j0⟩:=HK.o.gs;obtain⟨cs,hc,D2,hk⟩:=HK.o.ar;have Y2:=HB.o;refine⟨⟨_,_,rfl,⟨K,cs,rfl,by omega,hS.whole hc (by omega),D2,fun j hj=>?_⟩⟩,⟨a0,i0.wrote hS ?_,?_⟩,?_⟩
       ·obtain⟨x,y,e1,e2,e3⟩:=hk j hj
        exact⟨x,y,e1,e2,VY.low (by omega) _ _ (e3.keep' hS (fun K' hl=>by omega))⟩
       ·rintro k rfl
        exact⟨by omega,_,_,B0,A rfl⟩
       ·rcases j0 with e|e
        ·exact A e
        ·exact z5 fun k hk=>y6 K1.o.size (e k hk)
       ·have f1:Fr (fun k=>k=G\/k=M\/L.ownBlock=Y k) w wr:=by
         refine Fr.monoNew (S:=fun k=>k=G\/k=M\/L.ownBlock=Y k) (K1.o.mono (by simp)) HK.o.fr ?_;rintro k (e|e|e|e)
         ·exact A (A e)
         ·exact A (z5 (A e))
         ·exact A (z5 (z5 e))
         ·exact z5 (by omega)
        exact f1.monoNew hS (fun k hk=>z5 (by omega))
      rw[HP.o]at d0;clear B0 r1;go_wp2_with fail
      obtain⟨s0,s1⟩:((wr.setCell ⟨b+1,0,I⟩ (J (Y ⟨K,0,I⟩))).setCell ⟨b+1,1,I⟩ (P V 0)).cell? ⟨b+1,0,I⟩=Y (J (Y ⟨K,0,I⟩))/\((wr.setCell ⟨b+1,0,I⟩ (J (Y ⟨K,0,I⟩))).setCell ⟨b+1,1,I⟩ (P V 0)).cell? ⟨b+1,1,I⟩=Y (P V 0):=by
       constructor
       ·rw[cO _ _ _ _ (by simp)];exact cS _ _ _ y0
       ·exact cS _ _ _ (by rw[cO _ _ _ _ (by simp)];exact y1)
      refine bodyPost_ret (v:=z9 #[J (Y ⟨K,0,I⟩),P V 0]) (by simp[results,Tryz.results93,go_sem,s0,s1]) rfl d0.o
theorem Kr {f:Nat}(w0:C)(G M:Nat)(v0 v1:z6)(R:List Zc)(a:Nat->Nat)(g:M<w0.heap.size)(i:G<w0.heap.size)(b:R.length<=8)(j:∀k,k<R.length->a k<R.length)(l:∀r,r∈R->r.mcc.length<=4000/\r.cur.length<=4000)(m:∀r,r∈R->Ov r/\r.lo<=1000000):
  ∀(n:Nat)(q:ZK)(met op:Nat)(c:List Nat)(e:z6)(w:C),7<=n+q.d->q.d<=6->q.x<10^q.d->met<256->op<256->TR f w0 w G M v0 v1 R a c e->z7 B 93 #[J (Y ⟨G,0,I⟩),WN q,P .u64 met,P .u64 op] w (VZ f w0 w G M v0 v1 R a (ZR R n q met op c) e)
 |0,_,_,_,_,_,_,h7,hq,_,_,_,_=>by omega
 |n+1,q,met,op,c,e,w,h7,hq,hx,hm,hop,h=>G9 w0 G M v0 v1 R a g i b j l m n (Kr w0 G M v0 v1 R a g i b j l m n) q met op c e w h7 hq hx hm hop h
structure Ai (w:C)(va:Option Addr)(n c:Nat)(ord:Nat->Nat)(G M:Nat)(oa:Option Addr)(oc:Nat)(w1:C):Prop where
 fr:F0 w w1
 bx:w1.heap[G]?=Y (U #[Z va n c,Z oa n oc,Z I 0 0,.map (Y M)] 178)
 mp:w1.heap[M]?=Y (.map #[] 0)
 od:∀k,k<n->∃og,oa=Y ⟨og,0,I⟩/\og<w1.heap.size/\og≠G/\og≠M/\w1.cell? ⟨og,k,I⟩=Y (P V (ord k))
 lo:w.heap.size<=G/\w.heap.size<=M
theorem Ai.start {e:Nat}{w wc wr:C}{s:Option Addr}{c:Nat}{j:Nat->Nat}{G M:Nat}{F:Option Addr}{J:Nat}{R:List Zc}(h:Ai w s R.length c j G M F J wc)(l:F0 wc wr)(T:e<=w.heap.size)
    (K:∀i r,R[i]?=Y r->∃g t u x y z A,s=Y ⟨g,0,I⟩/\g<w.heap.size/\
      (∀o v,[L r.name,.int .i64 r.rank,.int .i64 r.digits,.int .i64 r.lo,.int .i64 r.hi,.slice t r.mcc.length u,.bool r.am.isSome,.int .i64 (r.am.getD (0,0)).1,.int .i64 (r.am.getD (0,0)).2,.slice x r.cur.length y,.bool r.decline,.bool r.cheapest,.slice z r.routes.length A,.int .i64 r.ahead][o]?=Y v->w.cell? ⟨g,i*14+o,I⟩=Y v)/\
      w.ownsRow e 3 1 (.slice t r.mcc.length u) r.mcc.length (Zg r.mcc)/\w.ownsRow e 3 1 (.slice x r.cur.length y) r.cur.length (Zg r.cur)/\w.ownsRow e 3 1 (.slice z r.routes.length A) r.routes.length (Zg r.routes)):
    TR e wr wr G M (.slice s R.length c) (.slice F R.length J) R j [] (.slice I 0 0)/\G<wr.heap.size/\M<wr.heap.size:=by
  have f:=h.fr.trans l;have U:=h.lo;have n:=l.whole h.bx (by simp);have q:=l.whole h.mp (by simp);refine⟨⟨⟨y6 T f.size,⟨s,c,rfl,fun i r V=>?_⟩,⟨F,J,rfl,fun k b=>?_⟩⟩,Fr.refl _ _,n,⟨.map [],?_,⟨isMap_empty,fun m _=>⟨by simp[Maps.has_eq],by simp⟩⟩⟩,⟨[],World.ownsRow_nil _ _ _ _,by simp⟩,by simp,by simp⟩,(Array.getElem?_eq_some_iff.1 n).1,(Array.getElem?_eq_some_iff.1 q).1⟩
  · obtain⟨g,t,u,x,y,z,A,N,d,P,O,D,Q⟩:=K i r V
    have a:∀k,k<w.heap.size->¬(k=G\/k=M):=fun k b=>by omega
    exact⟨g,t,u,x,y,z,A,N,nL d f.size,a g d,fun o v W=>(f.cell (p:=⟨g,i*14+o,I⟩) d (by simp)).trans (P o v W),⟨oF O f (by simp),fun k b=>a k (O.lt k b).2⟩,⟨oF D f (by simp),fun k b=>a k (D.lt k b).2⟩,⟨oF Q f (by simp),fun k b=>a k (Q.lt k b).2⟩⟩
  · obtain⟨S,N,d,P,O,D⟩:=h.od k b
    exact⟨S,N,nL d l.size,by omega,(l.cell (p:=⟨S,k,I⟩) d (by simp)).trans D⟩
  · obtain⟨es,ck,E,X,Z,h4⟩:=World.ownsMap_made (H:=Unit) wr B 183 (plainElem B 3)
    rw[aN]at E;injection E with E;injection E with a1 a2;subst a1 a2;exact⟨#[],0,q,X,Z,h4⟩
structure XV (zb:Nat)(w:C)(T:Nat)(vr:z6)(R:List Zc)(ord:Nat->Nat):Prop where
 tz:zb<=T
 bx:∃vn vp a b,w.heap[T]?=Y (U #[vr,vn,vp,a,b] 135)/\w.ownsRow zb 9 1 vn R.length ((R.map Zc.name).map L)/\(∃xs,w.ownsRow zb 129 1 vp (ZR R 7 ⟨0,0⟩ 0 (2^R.length-1) []).2.length xs/\∀(j m:Nat),(ZR R 7 ⟨0,0⟩ 0 (2^R.length-1) []).2[j]?=Y m->∃vj,xs[j]?=Y vj/\YW zb w zb vj (Z2 R m (WY R.length ord)))/\VY w zb (ZR R 7 ⟨0,0⟩ 0 (2^R.length-1) []).1 (z9 #[a,b])
theorem Fb {a:Nat}{w w':C}{S:Nat->Prop}{base:Nat}{v:z6}{l:List Zn}(h:YW a w base v l)(d:a<=base)(b:Fr S w w')(c:∀k,S k->k<a):YW a w' base v l:=by
 obtain⟨e,f,g⟩:=h;exact⟨e,oF f b (fun k i=>nL (c k i) d),g.keep (fun v n m j=>oF j b c)⟩
theorem XV.fr {g:Nat}{w w':C}{S:Nat->Prop}{T:Nat}{i:z6}{R:List Zc}{c:Nat->Nat}(h:XV g w T i R c)(d:Fr S w w')(f:∀k,S k->k<g):XV g w' T i R c:=by
 have l:=h.tz;obtain⟨n,o,a,b,p,q,⟨r,s,t⟩,u⟩:=h.bx;refine⟨l,n,o,a,b,d.whole p (fun e=>by have:=f T e;omega),oF q d f,⟨r,oF s d f,fun j m v=>?_⟩,u.keep' d (fun K A e=>by have:=f K e;omega)⟩;obtain⟨x,y,z⟩:=t j m v;exact⟨x,y,Fb z (Nat.le_refl _) d f⟩
theorem EU {g:Nat}{w wc wr a:C}{T G M:Nat}{u O v0 v1 x h:z6}{R:List Zc}{b:Nat->Nat}{l:List ByteArray}{i:Option Addr}{o:Nat}
  (hz:g<=w.heap.size)(q:F0 w wc)(hT:wc.heap.size=T)(hG:w.heap.size<=G)(hM:w.heap.size<=M)(X:R.map Zc.name=l)(y:F0 wc wr)(Q:wr.heap[T]?=Y (U #[O,x,Z I 0 0,J I,P V 0] 135))(z:wr.ownsRow (T+1) 9 1 x l.length (l.map L))
  (S:TR g wr wr G M v0 v1 R b [] u)(c:u.ownBlock=I)(B:T≠G)(E:T≠M)
  (ht:VY a wr.heap.size (ZR R 7 ⟨0,0⟩ 0 (2^R.length-1) []).1 (z9 #[J i,P V o]))(hg:TR g wr a G M v0 v1 R b (ZR R 7 ⟨0,0⟩ 0 (2^R.length-1) []).2 h)(d:Fr (fun k=>k=G\/k=M\/u.ownBlock=Y k) wr a):
  w.heap.size<=T/\XV g (((a.setCell ⟨T,3,I⟩ (J i)).setCell ⟨T,4,I⟩ (P V o)).setCell ⟨T,2,I⟩ h) T O R b/\F0 w (((a.setCell ⟨T,3,I⟩ (J i)).setCell ⟨T,4,I⟩ (P V o)).setCell ⟨T,2,I⟩ h):=by
 have a0:T<wr.heap.size:=(iA.1 Q).1
 have F:w.heap.size<=T:=by have:=q.size;omega
 have r:=d.whole Q (by rintro(e|e|e)<;>first|exact B e|exact E e|(rw[c]at e;cases e));have t:Fr (fun k=>k=T) a (((a.setCell ⟨T,3,I⟩ (J i)).setCell ⟨T,4,I⟩ (P V o)).setCell ⟨T,2,I⟩ h):=(((Fr.refl (fun k=>k=T) a).setCell (p:=⟨T,3,I⟩) (A rfl) _).setCell (p:=⟨T,4,I⟩) (A rfl) _).setCell (p:=⟨T,2,I⟩) (A rfl) _;have e1:=heap_setCell_same a T 3 _ _ (J i) r;have e2:=heap_setCell_same _ T 4 _ _ (P V o) e1;have e3:=heap_setCell_same _ T 2 _ _ h e2;obtain⟨D,⟨es,ck,hm,_⟩,_⟩:=S.mp;obtain⟨xs,H,N⟩:=hg.pg;refine⟨F,⟨by omega,x,h,J i,P V o,?_,?_,⟨xs,?_,fun j m hj=>?_⟩,?_⟩,?_⟩
 ·simpa using e3
 ·have n8:=oA z d (by
   rintro k f (e|e|e)
   ·subst e
    exact oN z S.bx (by decide) f
   ·subst e
    exact OE z hm f
   ·rw[c]at e
    cases e)
  have W:=oS (base:=T+1) (oF n8 t (fun k f=>by omega)) (show g<=T+1 by omega);rw[<-X,y9]at W;exact W
 ·exact oS (base:=wr.heap.size) (oF H t (fun k f=>by omega)) (by omega)
 ·obtain⟨vj,a1,a2⟩:=N j m hj
  refine⟨vj,a1,Tt a2 t ?_⟩;rintro e s v n ys he hr k f rfl;exact oN hr r (by rcases he with rfl|rfl<;>decide) f
 ·exact VY.low (show g<=wr.heap.size by omega) _ _ (ht.keep' t (fun K hK=>by omega))
 ·exact(((q.trans y).monoNew d (by
   rintro k (e|e|e)
   ·exact z5 (by omega)
   ·exact z5 (by omega)
   ·rw[c]at e
    cases e))).monoNew t (fun k f=>z5 (by omega))
theorem SJ:(B.info? 9).map (fun i=>(i.zero,i.size,i.bytes))=Y (Y (y2 ByteArray.empty),1,16):=by kernel_rfl
def ZA (R:List Zc)(i:Nat):Nat:=(R[i]?.map Zc.rank).getD 0
structure BT (wc:C)(T:Nat)(vr:z6)(l:List ByteArray)(vn:z6)(wx:C):Prop where
 fr:F0 wc wx
 bx:wx.heap[T]?=Y (U #[vr,vn,Z I 0 0,J I,P V 0] 135)
 nm:wx.ownsRow (T+1) 9 1 vn l.length (l.map L)
theorem BT.more {wc r wr s b:C}{T:Nat}{w:z6}{l:List ByteArray}{f:Option Addr}{i g cap:Nat}{x:ByteArray}(h:BT wc T w l (Z f l.length i) r)(z:wc.heap.size<=T)(t:F0 r wr)(u:F0 wr s)
  (j:b.ownsRow (T+1) 9 1 (Z (Y ⟨g,0,I⟩) (l.length+1) cap) (l.length+1) (l.map L++[y2 x]))(a:s.grownBy b (y8 f l.length i).ownBlock):
  BT wc T w (l++[x]) (Z (Y ⟨g,0,I⟩) (l.length+1) cap) (b.setCell ⟨T,1,I⟩ (Z (Y ⟨g,0,I⟩) (l.length+1) cap))/\b.cell? ⟨T,1,I⟩=Y (Z f l.length i)/\b.frozen? ⟨T,1,I⟩=false/\(∀X o v,X<wr.heap.size->r.heap.size<=X->wr.cell? ⟨X,o,I⟩=Y v->b.cell? ⟨X,o,I⟩=Y v):=by
 have m:=t.trans u
 have c:∀k,(y8 f l.length i).ownBlock=Y k->T+1<=k/\k<r.heap.size:=fun k n=>h.nm.lt k n
 have q:Fr (fun k=>(y8 f l.length i).ownBlock=Y k) s b:=(Fr.refl _ s).grown a (fun k n=>A n);have d:=q.whole (m.whole h.bx (by simp)) (fun e=>by have:=c T e;omega);refine⟨⟨?_,?_,?_⟩,bC d 1 _ rfl,bF d 1,fun X o v y B D=>?_⟩
 ·exact((h.fr.trans m).grown a (fun k n=>z5 (by have:=c k n;omega))).setCell (p:=⟨T,1,I⟩) (z5 z) _
 ·have e:=heap_setCell_same b T 1 _ _ (Z (Y ⟨g,0,I⟩) (l.length+1) cap) d
  simpa using e
 ·rw[lA,y4]
  exact oB j (by simp) _
 ·exact(q.cell (p:=⟨X,o,I⟩) (nL y u.size) (fun e=>by have:=c X e;omega)).trans ((u.cell (p:=⟨X,o,I⟩) y (by simp)).trans D)
theorem EV (i:Nat)(h:i<=8):y5.wrap (y5.wrap (2^i)-1)=((2^i-1:Nat):Int):=by
 have:i=0\/i=1\/i=2\/i=3\/i=4\/i=5\/i=6\/i=7\/i=8:=by omega
 rcases this with rfl|rfl|rfl|rfl|rfl|rfl|rfl|rfl|rfl<;>decide
theorem EW {zb:Nat}(w:C)(Bk:Nat)(ra:Option Addr)(rn rc:Nat)(x:Option Addr)(n c:Nat)(R:List Zc)(hN:R.length=n)(hn:n<=8)(s0:∀k,k<n->ZE (ZA R) n k<n)(Q0:∀r,r∈R->r.mcc.length<=4000/\r.cur.length<=4000)(t0:∀r,r∈R->Ov r/\r.lo<=1000000)(hz:zb<=w.heap.size)(g0:w.cell? ⟨Bk,0,I⟩=Y (Z ra rn rc))(A:w.cell? ⟨Bk,1,I⟩=Y (Z x n c))
    (m0:∀i r,R[i]?=Y r->∃g ma mc ca cc pa pc,x=Y ⟨g,0,I⟩/\g<w.heap.size/\
      (∀o v,[L r.name,P V r.rank,P V r.digits,P V r.lo,P V r.hi,Z ma r.mcc.length mc,Q r.am.isSome,P V (r.am.getD (0,0)).1,P V (r.am.getD (0,0)).2,Z ca r.cur.length cc,Q r.decline,Q r.cheapest,Z pa r.routes.length pc,P V r.ahead][o]?=Y v->w.cell? ⟨g,i*14+o,I⟩=Y v)/\
      w.ownsRow zb 3 1 (Z ma r.mcc.length mc) r.mcc.length (Zg r.mcc)/\w.ownsRow zb 3 1 (Z ca r.cur.length cc) r.cur.length (Zg r.cur)/\w.ownsRow zb 3 1 (Z pa r.routes.length pc) r.routes.length (Zg r.routes)):
    z7 B 51 #[J (Y ⟨Bk,0,I⟩)] w fun e w'=>(∃T,e=F (J (Y ⟨T,0,I⟩))/\w.heap.size<=T/\XV zb w' T (Z ra rn rc) R (ZE (ZA R) n))/\F0 w w':=by
  have v0:O (∀i r,R[i]?=Y r->∃g ma mc ca cc pa pc,x=Y ⟨g,0,I⟩/\g<w.heap.size/\
      (∀o v,[L r.name,P V r.rank,P V r.digits,P V r.lo,P V r.hi,Z ma r.mcc.length mc,Q r.am.isSome,P V (r.am.getD (0,0)).1,P V (r.am.getD (0,0)).2,Z ca r.cur.length cc,Q r.decline,Q r.cheapest,Z pa r.routes.length pc,P V r.ahead][o]?=Y v->w.cell? ⟨g,i*14+o,I⟩=Y v)/\
      w.ownsRow zb 3 1 (Z ma r.mcc.length mc) r.mcc.length (Zg r.mcc)/\w.ownsRow zb 3 1 (Z ca r.cur.length cc) r.cur.length (Zg r.cur)/\w.ownsRow zb 3 1 (Z pa r.routes.length pc) r.routes.length (Zg r.routes)):=m0
  have HN:=Za hN;obtain⟨rk,h0⟩:∃rk:Nat->Nat,rk=ZA R:=⟨_,rfl⟩;have R0:=Za h0;rw[<-h0]at s0
  have hr:∀i,i<n->∃g,x=Y ⟨g,0,I⟩/\g<w.heap.size/\w.cell? ⟨g,i*14+1,I⟩=Y (P V (rk i)):=by
    intro i hi;have e:R[i]?=Y R[i]:=gE (by omega);obtain⟨g,ma,mc,ca,cc,pa,pc,h,e2,e3,_⟩:=m0 i _ e;refine⟨g,h,e2,?_⟩;rw[h0,ZA,e];exact e3 1 _ rfl
  have w0:O (∀W,F0 w W->z7 B 92 #[Z x n c] W fun e w'=>(∃oa oc,e=F (Z oa n oc)/\O (Hd w' W.heap.size oa n (ZE rk n)))/\O (F0 W w')):=by
    intro W hW;refine J7 W x n c rk hn (fun i hi=>?_);obtain⟨g,h,e2,e3⟩:=hr i hi;exact⟨g,h,nL e2 hW.size,(hW.cell (p:=⟨g,i*14+1,I⟩) e2 (by simp)).trans e3⟩
  have j1:=@run_makeMap B;obtain⟨ii,y0,z0,A0,B0⟩:=info_parts SJ;have HZ:=Za hz;clear hr m0 hN h0 hz;go_enter Tryz.func51,Tryz.ntmps51;go_upto_region 1 with fail
  go_cut [3] (fun v w1=>∃G M oa oc,v=J (Y ⟨G,0,I⟩)/\O (Ai w x n c (ZE rk n) G M oa oc w1))
  case first=>
    refine wp_region_held_drew (S:=fun W=>W.cell? ⟨Bk,1,I⟩=Y (Z x n c)) (by kernel_rfl) A (fun f=>?_)
    have H:O (∀W,F0 w W->W.cell? ⟨Bk,1,I⟩=Y (Z x n c)):=fun W hW=>(hW.cell (p:=⟨Bk,1,I⟩) (bL w _ A) (by simp)).trans A
    clear g0;refine Zf 0 f ?_
    try go_frame
    refine Zf 1 f ?_
    try go_frame
    refine Zf 2 f ?_
    try go_frame
    refine Zf 3 f ?_
    try go_frame
    refine Zf 4 f ?_
    try go_frame
    refine Zf 5 f ?_
    try go_frame
    refine Zf 6 f ?_
    try go_frame
    refine Zf 7 f ?_
    try go_frame
    refine wpAnyH_ready (rs:=[8,9]) (by kernel_rfl) (by simp) ?_;refine Zb rfl (fun j d=>?_) ?_
    · go_simp
      refine(w0.o _ (Fr.refl _ _).drew).mono ?_;rintro e K ⟨⟨oa,oc,rfl,n0⟩,i0⟩;have s:=Za (((Fr.refl _ _).drew).trans i0.o);refine d.out _ _ (H.o _ s.o) (fun f=>?_);clear d j
      try go_frame
      refine wpAnyH_ready (rs:=[9]) (by kernel_rfl) (by simp) ?_;refine Zb rfl (fun j d=>?_) E
      try rw[if_pos (by rfl)]
      go_simp;refine d.out _ _ (H.o _ (s.o.alloc _)) (fun f=>?_);clear d j
      try go_frame
      refine Zf 10 f ?_
      try go_frame
      refine wpAnyH_ready (rs:=[11]) (by kernel_rfl) (by simp) ?_;refine Zb rfl (fun j d=>?_) E
      try rw[if_pos (by rfl)]
      go_simp;refine d.out _ _ (H.o _ ((s.o.alloc _).alloc _)) (fun f=>?_);clear d j
      try go_frame
      refine Zf 12 f ?_
      try go_frame
      refine wpAnyH_done (by kernel_rfl) ?_ _;go_wp2_with fail;go_meet;refine⟨K.heap.size+1,K.heap.size,oa,oc,by simp,⟨(s.o.alloc _).alloc _,?_,?_,fun k hk=>?_,?_⟩⟩
      · have e:=aN (K.alloc (.map #[] 0)) (U #[Z x n c,Z oa n oc,Z I 0 0,.map (Y K.heap.size)] 178)
        rw[show(K.alloc (.map #[] 0)).heap.size=K.heap.size+1 from by simp]at e;exact e
      · exact((Fr.refl (fun _=>False) _).alloc _).whole (aN K _) (by simp)
      · obtain⟨og,h,e2,e3,e4⟩:=n0.o (by omega)
        refine⟨og,h,by simp;omega,by omega,by omega,?_⟩;exact((((Fr.refl (fun _=>False) K).alloc _).alloc _).cell (p:=⟨og,k,I⟩) e3 (by simp)).trans (e4.1 k hk)
      · have:=s.o.size
        omega
    · refine Zb rfl (fun j d=>?_) E
      try rw[if_pos (by rfl)]
      go_simp;refine d.out _ _ (H.o _ (((Fr.refl _ _).drew).alloc _)) (fun f=>?_);clear d j
      try go_frame
      refine wpAnyH_ready (rs:=[8]) (by kernel_rfl) (by simp) ?_;refine Zb rfl (fun j d=>?_) E;go_simp;refine(w0.o _ (((Fr.refl _ _).drew).alloc _)).mono ?_;rintro e K ⟨⟨oa,oc,rfl,n0⟩,i0⟩;have s:=Za ((((Fr.refl (fun _=>False) w).drew).alloc (.map #[] 0)).trans i0.o);refine d.out _ _ (H.o _ s.o) (fun f=>?_);clear d j
      try go_frame
      refine Zf 10 f ?_
      try go_frame
      refine wpAnyH_ready (rs:=[11]) (by kernel_rfl) (by simp) ?_;refine Zb rfl (fun j d=>?_) E
      try rw[if_pos (by rfl)]
      go_simp;refine d.out _ _ (H.o _ (s.o.alloc _)) (fun f=>?_);clear d j
      try go_frame
      refine Zf 12 f ?_
      try go_frame
      refine wpAnyH_done (by kernel_rfl) ?_ _;go_wp2_with fail;go_meet;have C0:K.heap[w.heap.size]?=Y (.map #[] 0):=i0.o.whole (aN w.drew (.map #[] 0)) (by simp);have k1:=(iA.1 C0).1;refine⟨K.heap.size,w.heap.size,oa,oc,rfl,⟨s.o.alloc _,aN K _,((Fr.refl (fun _=>False) _).alloc _).whole C0 (by simp),fun k hk=>?_,?_⟩⟩
      · obtain⟨og,h,e2,e3,e4⟩:=n0.o (by omega)
        have e5:w.heap.size+1<=og:=by simpa using e2
        refine⟨og,h,by simp;omega,by omega,by omega,?_⟩;exact(((Fr.refl (fun _=>False) K).alloc _).cell (p:=⟨og,k,I⟩) e3 (by simp)).trans (e4.1 k hk)
      · omega
  case rest=>
    obtain⟨G,M,oa,oc,rfl,u⟩:=hcut;have b0:wc.cell? ⟨Bk,0,I⟩=Y (Z ra rn rc):=(u.o.fr.cell (p:=⟨Bk,0,I⟩) (bL w _ g0) (by simp)).trans g0;have b1:wc.cell? ⟨Bk,1,I⟩=Y (Z x n c):=(u.o.fr.cell (p:=⟨Bk,1,I⟩) (bL w _ A) (by simp)).trans A;have o0:O (BT wc wc.heap.size _ [] _ (wc.alloc (U #[Z ra rn rc,Z I 0 0,Z I 0 0,J I,P V 0] 135))):=⟨(Fr.refl _ _).alloc _,aN wc _,oZ _ _ _ _⟩;clear g0 A;go_upto_region 3 with fail;generalize wc.alloc (U #[Z ra rn rc,Z I 0 0,Z I 0 0,J I,P V 0] 135)=W1 at*;obtain⟨T,hT⟩:∃T,wc.heap.size=T:=⟨_,rfl⟩;have HT:=Za hT;rw[hT]at o0 ⊢;clear hT;have l1:W1.cell? ⟨Bk,1,I⟩=Y (Z x n c):=(o0.o.fr.cell (p:=⟨Bk,1,I⟩) (bL wc _ b1) (by simp)).trans b1;have D0:=Za b1;clear b0 b1;go_wp2_with fail
    go_loopg [30] n (fun m kv wx=>∃i vn,i<=n/\m=n-i/\kv=P V (i:Nat)/\O (BT wc T (Z ra rn rc) ((R.take i).map Zc.name) vn wx))
    case atStart=>exact⟨0,_,q5 _,rfl,rfl,o0⟩
    case round=>
      obtain⟨i,vn,hi,rfl,rfl,y⟩:=hrel;by_cases m1:i<n
      · have S0:(i:Int)<(n:Int):=by omega
        obtain⟨r,hr⟩:∃r,R[i]?=Y r:=⟨_,gE (by have:=HN.o;omega)⟩;have E0:=Za hr;obtain⟨g,ma,mc,ca,cc,pa,pc,eg,T0,z,_⟩:=v0.o i r hr;subst eg
        have b:∀o v,[L r.name,P V r.rank,P V r.digits,P V r.lo,P V r.hi,Z ma r.mcc.length mc,Q r.am.isSome,P V (r.am.getD (0,0)).1,P V (r.am.getD (0,0)).2,Z ca r.cur.length cc,Q r.decline,Q r.cheapest,Z pa r.routes.length pc,P V r.ahead][o]?=Y v->wr.cell? ⟨g,i*14+o,I⟩=Y v:=fun o v ho=>((u.o.fr.trans y.o.fr).cell (p:=⟨g,i*14+o,I⟩) T0 (by simp)).trans (z o v ho)
        have G0:=b 0 _ rfl;have V0:=b 1 _ rfl;have v2:=b 2 _ rfl;have v3:=b 3 _ rfl;have v4:=b 4 _ rfl;have v5:=b 5 _ rfl;have v6:=b 6 _ rfl;have v7:=b 7 _ rfl;have v8:=b 8 _ rfl;have v9:=b 9 _ rfl;have W0:=b 10 _ rfl;have X0:=b 11 _ rfl;have Y0:=b 12 _ rfl;have Z0:=b 13 _ rfl;rw[q4]at G0;clear b z hr;have N:O (F0 wr (wr.alloc (Sw r.name r.rank r.digits r.lo r.hi ma r.mcc.length mc r.am.isSome (r.am.getD (0,0)).1 (r.am.getD (0,0)).2 ca r.cur.length cc r.decline r.cheapest pa r.routes.length pc r.ahead))):=(Fr.refl _ _).alloc _;have j0:O ((wr.alloc (Sw r.name r.rank r.digits r.lo r.hi ma r.mcc.length mc r.am.isSome (r.am.getD (0,0)).1 (r.am.getD (0,0)).2 ca r.cur.length cc r.decline r.cheapest pa r.routes.length pc r.ahead)).heap[wr.heap.size]?=Y (Sw r.name r.rank r.digits r.lo r.hi ma r.mcc.length mc r.am.isSome (r.am.getD (0,0)).1 (r.am.getD (0,0)).2 ca r.cur.length cc r.decline r.cheapest pa r.routes.length pc r.ahead)):=aN wr _;unfold Sw at N j0;go_upto_region 6 with fail;generalize wr.alloc (U #[y2 r.name,P V r.rank,P V r.digits,P V r.lo,P V r.hi,Z ma r.mcc.length mc,Q r.am.isSome,P V (r.am.getD (0,0)).1,P V (r.am.getD (0,0)).2,Z ca r.cur.length cc,Q r.decline,Q r.cheapest,Z pa r.routes.length pc,P V r.ahead] 120)=W5 at*;obtain⟨X,hX⟩:∃X,wr.heap.size=X:=⟨_,rfl⟩;have HX:=Za hX;rw[hX]at j0 ⊢;clear G0 V0 v2 v3 v4 v5 v6 v7 v8 v9 W0 X0 Y0 Z0 hX;obtain⟨l,hl⟩:∃l,(R.take i).map Zc.name=l:=⟨_,rfl⟩;have HL:=Za hl
        have n1:l.length<=8:=by rw[<-hl,y9,List.length_take];omega
        rw[hl]at y;obtain⟨la,lc,e3⟩:=oL y.o.nm;subst e3;have x0:=bC j0.o 0 _ rfl;have k0:=(iA.1 j0.o).1;have t1:W5.cell? ⟨T,1,I⟩=Y (Z la l.length lc):=bC (N.o.whole y.o.bx (by simp)) 1 _ rfl;have H0:=Za (oF y.o.nm N.o (by simp))
        have o1:T+1<=W5.heap.size:=by have:=(iA.1 (N.o.whole y.o.bx (by simp))).1;omega
        clear hl;refine wp_region_held_drew (S:=fun W=>W.cell? ⟨X,0,I⟩=Y (y2 r.name)) (by kernel_rfl) x0 (fun f=>?_);refine Zf 0 f ?_
        try go_frame
        refine Zf 1 f ?_
        try go_frame
        refine Zf 2 f ?_
        try go_frame
        refine Zf 3 f ?_
        try go_frame
        refine Zf 5 f ?_
        try go_frame
        refine Zf 6 f ?_
        try go_frame
        refine wpAnyH_ready (rs:=[4,7]) (by kernel_rfl) (by simp) ?_;refine Zb rfl (fun j d=>?_) ?_
        · try rw[if_pos (by rfl)]
          go_simp;refine d.out _ _ f (fun _=>?_);clear d j
          try go_frame
          refine wpAnyH_ready (rs:=[7]) (by kernel_rfl) (by simp) ?_;refine Zb rfl (fun j d=>?_) E
          try rw[if_pos (by rfl)]
          go_simp;refine d.out _ _ ((((Fr.refl (fun _=>False) W5).alloc _).cell (p:=⟨X,0,I⟩) k0 (by simp)).trans x0) (fun f=>?_);clear d j
          try go_frame
          refine wpAnyH_ready (rs:=[8]) (by kernel_rfl) (by simp) ?_;refine Zb rfl (fun j d=>?_) E;refine step_append_lies _ rfl (.tmp 38) (.tmp 41) 28 rfl (T+1) 9 ii _ 1 16 Tryz.underlying28 y0 z0 A0 B0 rfl (by decide) (Z la l.length lc) l.length (l.map L) rfl ?h1C ⟨W5.heap.size,0,I⟩ 1 1 [y2 r.name] rfl rfl ?h2C ?h3C (by decide) ?h4C ?h5C ?h6C _ rfl ?h7C
          case h1C=>exact(H0.o.alloc _).drew
          case h2C=>exact World.news_of_block (aN W5 _)
          case h3C=>simp[q3]
          case h4C=>unfold maxLen;omega
          case h5C=>omega
          case h6C=>simp;omega
          case h7C=>
            intro g2 c0 w8 t q p0 _;obtain⟨d0,d2,df,e0⟩:=y.o.more (y3 HT.o) N.o (((Fr.refl (fun _=>False) W5).alloc _).drew) t q;have q0:=Za d0;have x8:=e0 X 0 _ k0 (y3 HX.o) x0;clear d0 e0 t q p0;refine d.out _ _ x8 (fun f=>?_);clear d j
            try go_frame
            refine Zf 9 f ?_
            try go_frame
            refine Zf 10 f ?_
            try go_frame
            refine wpAnyH_ready (rs:=[11]) (by kernel_rfl) (by simp) ?_;refine Zb rfl (fun j d=>?_) E
            try rw[if_pos (by rfl)]
            go_simp;refine d.out _ _ ?_ (fun _=>?_)
            · rw[cO _ _ _ _ (by intro e;injection e with h e2;omega)]
              exact x8
            clear d j
            try go_frame
            refine wpAnyH_done (by kernel_rfl) ?_ _;go_wp2_with fail;go_roundg (n-(i+1))
            case measure=>omega
            case rel=>
              refine⟨i+1,Z (Y ⟨g2,0,I⟩) (l.length+1) c0,by omega,rfl,by go_num,?_⟩
              have e:(R.take (i+1)).map Zc.name=l++[r.name]:=by rw[y7,E0.o,y4,HL.o];rfl
              rw[e];exact q0
        · refine Zb rfl (fun j d=>?_) E
          try rw[if_pos (by rfl)]
          go_simp;refine d.out _ _ ((((Fr.refl (fun _=>False) W5).alloc _).cell (p:=⟨X,0,I⟩) k0 (by simp)).trans x0) (fun f=>?_);clear d j
          try go_frame
          refine wpAnyH_ready (rs:=[4]) (by kernel_rfl) (by simp) ?_;refine Zb rfl (fun j d=>?_) E
          try rw[if_pos (by rfl)]
          have a1:(W5.alloc (U #[y2 r.name] 9)).cell? ⟨T,1,I⟩=Y (Z la l.length lc):=by rw[World.cell?_alloc_lt _ _ _ (bL W5 _ t1)];exact t1
          go_simp;refine d.out _ _ f (fun _=>?_);clear d j a1
          try go_frame
          refine wpAnyH_ready (rs:=[8]) (by kernel_rfl) (by simp) ?_;refine Zb rfl (fun j d=>?_) E;refine step_append_lies _ rfl (.tmp 38) (.tmp 41) 28 rfl (T+1) 9 ii _ 1 16 Tryz.underlying28 y0 z0 A0 B0 rfl (by decide) (Z la l.length lc) l.length (l.map L) rfl ?h1D ⟨W5.heap.size,0,I⟩ 1 1 [y2 r.name] rfl rfl ?h2D ?h3D (by decide) ?h4D ?h5D ?h6D _ rfl ?h7D
          case h1D=>exact(H0.o.alloc _).drew
          case h2D=>exact World.news_of_block (aN W5 _)
          case h3D=>simp[q3]
          case h4D=>unfold maxLen;omega
          case h5D=>omega
          case h6D=>simp;omega
          case h7D=>
            intro g2 c0 w8 t q p0 _;obtain⟨d0,d2,df,e0⟩:=y.o.more (y3 HT.o) N.o (((Fr.refl (fun _=>False) W5).alloc _).drew) t q;have q0:=Za d0;have x8:=e0 X 0 _ k0 (y3 HX.o) x0;clear d0 e0 t q p0;refine d.out _ _ x8 (fun f=>?_);clear d j
            try go_frame
            refine Zf 9 f ?_
            try go_frame
            refine Zf 10 f ?_
            try go_frame
            refine wpAnyH_ready (rs:=[11]) (by kernel_rfl) (by simp) ?_;refine Zb rfl (fun j d=>?_) E
            try rw[if_pos (by rfl)]
            go_simp;refine d.out _ _ ?_ (fun _=>?_)
            · rw[cO _ _ _ _ (by intro e;injection e with h e2;omega)]
              exact x8
            clear d j
            try go_frame
            refine wpAnyH_done (by kernel_rfl) ?_ _;go_wp2_with fail;go_roundg (n-(i+1))
            case measure=>omega
            case rel=>
              refine⟨i+1,Z (Y ⟨g2,0,I⟩) (l.length+1) c0,by omega,rfl,by go_num,?_⟩
              have e:(R.take (i+1)).map Zc.name=l++[r.name]:=by rw[y7,E0.o,y4,HL.o];rfl
              rw[e];exact q0
      · have c1:i=n:=by omega
        subst c1
        have S0:¬(i:Int)<(i:Int):=by omega
        have d1:=Za ((y.o.fr.cell (p:=⟨Bk,1,I⟩) (bL wc _ D0.o) (by simp)).trans D0.o);have p1:=d1.o;have q1:y5.wrap (y5.wrap (2^i)-1)=((2^i-1:Nat):Int):=EV i hn
        have I0:2^i-1<256:=by
          have:2^i<=2^8:=z8 (by omega) hn;omega
        have a0:O (TR zb wr wr G M (Z x i c) (Z oa i oc) R (ZE rk i) [] (Z I 0 0)/\G<wr.heap.size/\M<wr.heap.size):=by
          have e:=HN.o;subst e;exact u.o.start y.o.fr HZ.o v0.o
        have f1:O (z7 B 93 #[J (Y ⟨G,0,I⟩),z9 #[P V 0,P V 0],P .u64 0,P .u64 ((2^i-1:Nat):Int)] wr (VZ zb wr wr G M (Z x i c) (Z oa i oc) R (ZE rk i) (ZR R 7 ⟨0,0⟩ 0 (2^i-1) []) (Z I 0 0))):=by
          have e:=HN.o;exact Kr wr G M _ _ R (ZE rk i) a0.o.2.2 a0.o.2.1 (by omega) (by rw[e];exact s0) Q0 t0 7 ⟨0,0⟩ 0 (2^i-1) [] (Z I 0 0) wr (by simp) (by simp) (by simp) (by omega) I0 a0.o.1
        go_wp2_with fail;refine f1.o.mono ?_;intro e w8 f0
        obtain⟨pp,kk,rfl⟩:∃(pp:Option Addr)(kk:Nat),e=F (z9 #[J pp,P V kk]):=by
          obtain⟨⟨a,bb,h,ht⟩,_⟩:=f0;obtain⟨pp,kk,rfl,rfl⟩:=ht.form;exact⟨pp,kk,h⟩
        have g1:=Za f0
        have l0:T≠G:=by
          rintro rfl;have h:=a0.o.1.bx;rw[y.o.bx]at h;injection h with h;injection h with _ h _;exact absurd h (by decide)
        have J0:T≠M:=by
          rintro rfl;obtain⟨D,⟨es,ck,h,_⟩,_⟩:=a0.o.1.mp;rw[y.o.bx]at h
          cases h
        have bT:=f0.2.2.whole y.o.bx (by rintro(e|e|e)<;>first|exact l0 e|exact J0 e|simp[Value.ownBlock]at e);obtain⟨K0,r0,_⟩:=f0.2.1;obtain⟨s1,L0,_⟩:=r0.pg;obtain⟨M0,N0,e8⟩:=oL L0;subst e8;have c2:=bC r0.bx 2 _ rfl;have z2:=bC bT 2 _ rfl;have z3:=bC bT 3 _ rfl;have z4:=bC bT 4 _ rfl;have v1:=bF bT 2;have x1:=bF bT 3;have y1:=bF bT 4;have z1:=Za bT
        have A1:((w8.setCell ⟨T,3,I⟩ (J pp)).setCell ⟨T,4,I⟩ (P V kk)).cell? ⟨G,2,I⟩=Y (Z M0 (ZR R 7 ⟨0,0⟩ 0 (2^i-1) []).2.length N0):=by
          rw[cO _ _ _ _ (by intro e;injection e with h;exact l0 h),cO _ _ _ _ (by intro e;injection e with h;exact l0 h)];exact c2
        clear f0 bT r0 L0;go_wp2_with fail;go_ret;have O0:=HN.o;subst O0;have hm:=y.o;rw[List.take_length]at hm;obtain⟨⟨a,bb,h,ht⟩,⟨K0,P0,_⟩,h1⟩:=g1.o;injection h with h;injection h with h
        obtain⟨ea,eb⟩:Value.pointer pp=a/\Value.int V kk=bb:=by simpa using h
        subst ea eb
        have i1:K0=Z M0 (ZR R 7 ⟨0,0⟩ 0 (2^R.length-1) []).2.length N0:=by
          have:=bC P0.bx 2 _ rfl;rw[c2]at this;injection this with this;exact this.symm
        subst i1;obtain⟨r1,r2,r3⟩:=EU HZ.o u.o.fr HT.o u.o.lo.1 u.o.lo.2 rfl hm.fr hm.bx hm.nm a0.o.1 rfl l0 J0 ht P0 h1;rw[R0.o]at r2;exact⟨⟨T,rfl,r1,r2⟩,r3⟩
