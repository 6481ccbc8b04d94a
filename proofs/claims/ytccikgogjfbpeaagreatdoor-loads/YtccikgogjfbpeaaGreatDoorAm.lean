import Derived.Test.YtccikgogjfbpeaaGreatDoorAl
import Derived.Laws.IdiomStrings
import Derived.Laws.OwnMore
open Go.Value renaming int->I,string->Z,slice->D,slice->C,bool->q9,oneCell'->j1,int->k7,pointer->g9,agg->p0,ownBlock->b9
open Option renaming some->J,none->Y
open Go.IntKind renaming i64->V,u8->f8
open Or renaming inr->U,inl->B
open Go.RowKit renaming Hid->O
open Nat renaming le_refl->G,le_trans->q0,max_eq_left->j5,min_eq_left->j6,mul_le_mul_right->k3,zero_le->g8,max_eq_right->p8,min_eq_right->p9,pow_succ->f1,mul_comm->f2,zero_add->f5,add_mul->f6,pow_pos->f7
open Go.Obj renaming cells->L
open Go.Proofs.Tryz renaming prog->z3
open List renaming take_of_length_le->z4,mem_cons_self->z5,append_assoc->z9,mem_cons->j3,take_add_one->j4,length_filter_le->j8,mem_cons_of_mem->k0,flatMap_append->k6,pairwise_cons->k9,size_toArray->g7,getElem_mem->b0,mem_flatMap->b4,take_length->b5,mem_map->f4
open _root_.ByteArray renaming empty->z6
open Bool renaming and_eq_true->z7,eq_iff_iff->j7,true_and->k4,false_eq_true->k8,or_eq_true->b6,false_and->b7,false_or->f0,true_or->f3
open Go.Ending renaming returned->z8
open Go.World renaming news_of_block->q8
open Go renaming Calls->j0,World->j2,Value->j9
namespace Go.Proofs.YtccikgogjfbpeaaGreatDoor
set_option maxRecDepth 30000
set_option maxHeartbeats 8000000
open Go.RowKit
def Na (rts:List Zf)(a:Int):Option Nat->Int
 |none=>0
 |some y=>XR rts a y
theorem Hk (w q rts R a c l p)(h:Sm w q rts R)(hb:Yy rts R)(hs:p.pan.size<=maxLen)(b1:Yf w a l)(hl:l.length<=maxLen):
  j0 z3 56 #[g9 (J ⟨q,0,Y⟩),UL p,D a l.length c] w fun e w'=>e=z8 (OU (TV rts R p (Vk rts l)))/\F0 w w':=by
 have HH:O (Sm w q rts R):=h;have E0:O (Yy rts R):=hb;have E1:O (Yf w a l):=b1;have F1:O (l.length<=maxLen):=hl
 have G1:O (∀W,j0 z3 86 #[p0 #[Z p.pan,I V p.mcc,I V p.am,I V p.cur]] W fun e w'=>e=z8 (q9 (Y6 p))/\F0 W w'):=fun W=>Pd W p hs
 obtain⟨d1,F,h0⟩:=SE w (Rz p) (L #[I V 0,Z ⟨#[]⟩,Z ⟨#[]⟩] 38);unfold UL;unfold Rz at d1 F h0;obtain⟨ln,G0⟩:∃ln,l.length=ln:=⟨_,rfl⟩;have H1:O (l.length=ln):=G0;rw[G0];clear h hs hb b1 hl G0;go_enter Tryz.func56,Tryz.ntmps56;go_upto_region 1 with fail;generalize(w.alloc _).alloc _=W0 at*;obtain⟨P,hP⟩:∃P,w.heap.size=P:=⟨_,rfl⟩;have I1:O (w.heap.size=P):=hP;rw[hP]at F h0;rw[hP];clear hP;have x0:=Zc F.o 0;have x1:=Zc F.o 1;have x2:=Zc F.o 2;have x3:=Zc F.o 3;go_wp2_with fail;refine(G1.o _).mono ?_;rintro e w1 ⟨rfl,i0⟩;have H0:O (F0 w w1):=d1.o.trans i0;have T:O (w1.heap[P]?=J (L #[Z p.pan,I V p.mcc,I V p.am,I V p.cur] 35)):=i0.whole F.o;have z:O (w1.heap[P+1]?=J (L #[I V 0,Z ⟨#[]⟩,Z ⟨#[]⟩] 38)):=i0.whole h0.o
 have n:w.heap.size<=P+1:=by have:=I1.o;omega
 clear i0 x0 x1 x2 x3 F h0
 cases I0:Y6 p with
 |false=>
  have HD:O (TV rts R p (Vk rts l)=(1,z6,z6)):=by show _=_;unfold TV;rw[if_neg (by rw[I0];simp)]
  have o0:=Zc z.o 0;have o1:=Zc z.o 1;have o2:=Zc z.o 2;have J0:=bF z.o 0;have K0:=bF z.o 1;have L0:=bF z.o 2;go_wp2_with fail;have B:=JK (v0:=I V 1) (v1:=Z ⟨#[]⟩) (v2:=Z ⟨#[]⟩) z.o;have s0:=Zc B 0;have s1:=Zc B 1;have s2:=Zc B 2;refine bodyPost_ret (v:=p0 #[I V 1,Z ⟨#[]⟩,Z ⟨#[]⟩]) (by simp[results,Tryz.results56,go_sem,s0,s1,s2]) rfl ⟨by rw[HD.o];rfl,?_⟩;exact((H0.o.setCell (p:=⟨P+1,0,Y⟩) (U n) _).setCell (p:=⟨P+1,1,Y⟩) (U n) _).setCell (p:=⟨P+1,2,Y⟩) (U n) _
 |true=>
  have k0:O (Y6 p=true):=I0
  have C0:XT p.pan=true:=by have e:=k0.o;rw[Xw,z7]at e;exact e.1
  have M0:O (0<=p.am/\p.am<=1000000000):=by
   have e:=k0.o;rw[Xw]at e;simp only[z7,V1,decide_eq_true_eq]at e;exact e.2.2.1
  obtain⟨G,M⟩:∃G,YG (Zv R) (YY R p (Zy p.pan)) R.length=G:=⟨_,rfl⟩;have l0:O (YG (Zv R) (YY R p (Zy p.pan)) R.length=G):=M
  have f1:O (j0 z3 100 #[g9 (J ⟨q,0,Y⟩),p0 #[Z p.pan,I V p.mcc,I V p.am,I V p.cur]] w1 fun e w'=>e=z8 (I V (V0 G))/\F0 w1 w'):=by
   rw[<-M];exact Pe w1 q rts R p (HH.o.fr H0.o) E0.o C0
  have x0:=Zc T.o 0;have x1:=Zc T.o 1;have x2:=Zc T.o 2;have x3:=Zc T.o 3;clear I0 C0 M;go_wp2_with fail;refine f1.o.mono ?_;rintro e w2 ⟨rfl,m0⟩;have n0:O (F0 w w2):=H0.o.trans m0;have g1:O (w2.heap[P]?=J (L #[Z p.pan,I V p.mcc,I V p.am,I V p.cur] 35)):=m0.whole T.o;have C:O (w2.heap[P+1]?=J (L #[I V 0,Z ⟨#[]⟩,Z ⟨#[]⟩] 38)):=m0.whole z.o;clear m0 x0 x1 x2 x3 T z f1
  cases G with
  |none=>
   have HD:O (TV rts R p (Vk rts l)=(2,z6,z6)):=by show _=_;unfold TV;rw[if_pos k0.o,l0.o]
   unfold V0;have o0:=Zc C.o 0;have o1:=Zc C.o 1;have o2:=Zc C.o 2;have J0:=bF C.o 0;have K0:=bF C.o 1;have L0:=bF C.o 2;go_wp2_with fail;have B:=JK (v0:=I V 2) (v1:=Z ⟨#[]⟩) (v2:=Z ⟨#[]⟩) C.o;have s0:=Zc B 0;have s1:=Zc B 1;have s2:=Zc B 2;refine bodyPost_ret (v:=p0 #[I V 2,Z ⟨#[]⟩,Z ⟨#[]⟩]) (by simp[results,Tryz.results56,go_sem,s0,s1,s2]) rfl ⟨by rw[HD.o];rfl,?_⟩;exact((n0.o.setCell (p:=⟨P+1,0,Y⟩) (U n) _).setCell (p:=⟨P+1,1,Y⟩) (U n) _).setCell (p:=⟨P+1,2,Y⟩) (U n) _
  |some k=>
   have q0:=Uu (Zv R) (YY R p (Zy p.pan)) R.length;rw[l0.o]at q0;obtain⟨r,hr⟩:∃r,R[k]?=J r:=⟨_,gE q0.1⟩
   have i1:O (TV rts R p (Vk rts l)=zg rts r (Vk rts l) p.am):=by
    show _=_
    unfold TV;rw[if_pos k0.o,l0.o];simp only[hr]
   have j1:O (Tf rts.length r):=E0.o.rl r (mG hr);obtain⟨la,lc,h2,h3⟩:=(HH.o.fr n0.o).c2;obtain⟨g,ma,mc,ca,cc,pa,pc,rfl,f,_,_,k1⟩:=h3 k r hr
   have Z1:(k:Int)<(R.length:Int):=by have:=q0.1;omega
   have a2:¬(k:Int)<0:=by omega
   have v0:=f 0 _ rfl;have v1:=f 1 _ rfl;have v2:=f 2 _ rfl;have v3:=f 3 _ rfl;have v4:=f 4 _ rfl;have v5:=f 5 _ rfl;have v6:=f 6 _ rfl;have v7:=f 7 _ rfl;have v8:=f 8 _ rfl;have v9:=f 9 _ rfl;have J1:=f 10 _ rfl;have K1:=f 11 _ rfl;have L1:=f 12 _ rfl;rw[Nat.add_zero]at v0;obtain⟨b0,c0⟩:=VA w2 (L #[Z r.name,I V (r.rank:Nat),I V (r.digits:Nat),I V (r.lo:Nat),I V (r.hi:Nat),D ma r.mcc.length mc,D ca r.cur.length cc,q9 r.am.isSome,I V ((r.am.getD (0,0)).1:Nat),I V ((r.am.getD (0,0)).2:Nat),D pa r.routes.length pc,q9 r.decline,q9 r.cheapest] 170);have M1:O (Zu (w2.alloc (L #[Z r.name,I V (r.rank:Nat),I V (r.digits:Nat),I V (r.lo:Nat),I V (r.hi:Nat),D ma r.mcc.length mc,D ca r.cur.length cc,q9 r.am.isSome,I V ((r.am.getD (0,0)).1:Nat),I V ((r.am.getD (0,0)).2:Nat),D pa r.routes.length pc,q9 r.decline,q9 r.cheapest] 170)) pa r.routes):=k1.fr b0.o;unfold V0;clear q0 h3 f k1 hr;go_upto_region 8 with fail;generalize w2.alloc _=W3 at*;obtain⟨X,hX⟩:∃X,w2.heap.size=X:=⟨_,rfl⟩;rw[hX]at c0;rw[hX];have H:O (W3.heap[P+1]?=J (L #[I V 0,Z ⟨#[]⟩,Z ⟨#[]⟩] 38)):=b0.o.whole C.o;have N1:O (W3.heap[P]?=J (L #[Z p.pan,I V p.mcc,I V p.am,I V p.cur] 35)):=b0.o.whole g1.o;have m1:O (F0 w W3):=n0.o.trans b0.o;have y0:=Zc c0.o 0;have N0:=Zc c0.o 11;clear v0 v1 v2 v3 v4 v5 v6 v7 v8 v9 J1 K1 L1 hX h2 b0 n0 C g1 l0
   cases d0:r.decline with
   |true=>
    have HD:O (TV rts R p (Vk rts l)=(3,r.name,z6)):=by show _=_;rw[i1.o];unfold zg;rw[if_pos d0]
    rw[d0]at N0;have o0:=Zc H.o 0;have o1:=Zc H.o 1;have o2:=Zc H.o 2;have J0:=bF H.o 0;have K0:=bF H.o 1;have L0:=bF H.o 2;go_wp2_with fail;have B:=JK (v0:=I V 3) (v1:=Z r.name) (v2:=Z ⟨#[]⟩) H.o;have s0:=Zc B 0;have s1:=Zc B 1;have s2:=Zc B 2;refine bodyPost_ret (v:=p0 #[I V 3,Z r.name,Z ⟨#[]⟩]) (by simp[results,Tryz.results56,go_sem,s0,s1,s2]) rfl ⟨by rw[HD.o];rfl,?_⟩;exact((m1.o.setCell (p:=⟨P+1,0,Y⟩) (U n) _).setCell (p:=⟨P+1,1,Y⟩) (U n) _).setCell (p:=⟨P+1,2,Y⟩) (U n) _
   |false=>
    obtain⟨s,e0⟩:∃s,YL r.cheapest (XR rts p.am) (Vk rts l) r.routes Y=s:=⟨_,rfl⟩;have n1:O (YL r.cheapest (XR rts p.am) (Vk rts l) r.routes Y=s):=e0
    have D0:O (TV rts R p (Vk rts l)=Mt rts r.name s):=by
     show _=_
     rw[i1.o];unfold zg;rw[if_neg (by rw[d0];simp),e0]
     cases s<;>rfl
    rw[d0]at N0;obtain⟨N,O0⟩:∃N,r.routes.length=N:=⟨_,rfl⟩;have p1:O (r.routes.length=N):=O0;rw[O0]at c0
    have b2:N<=4000:=by have:=j1.o.pl.1;omega
    clear e0 O0 d0;go_wp2_with fail;clear y0 N0
    go_loopg [10,11,12,13,14,15] N (fun m bb ff i _ _ _ wr=>∃j b,j<=N/\m=N-j/\bb=I V (V0 b)/\ff=I V (Na rts p.am b)/\i=I V (j:Nat)/\O (YL r.cheapest (XR rts p.am) (Vk rts l) (r.routes.drop j) b=s)/\O (F0 W3 wr)/\O (∀y,b=J y->y<rts.length))
    case atStart=>exact⟨0,Y,g8 _,rfl,rfl,rfl,rfl,n1,Zt,fun y h=>by cases h⟩
    obtain⟨j,b,hj,rfl,rfl,rfl,rfl,HB,a0,r0⟩:=hrel;have P0:=a0.o.whole c0.o;have y0:=Zc P0 0;have Q0:=Zc P0 10;have R0:=Zc P0 12;have S:O (F0 w wr):=m1.o.trans a0.o;obtain⟨ra,rc,c1,w0⟩:=(HH.o.fr S.o).c1;by_cases d2:j<N
    ·have O1:(j:Int)<(N:Int):=by omega
     obtain⟨x,hx⟩:∃x,r.routes[j]?=J x:=⟨_,gE (by have:=p1.o;omega)⟩;have S0:=j1.o.pl.2 x (mG hx);obtain⟨t,ht⟩:∃t,rts[x]?=J t:=⟨_,gE S0⟩;obtain⟨rg,rfl,t0,t1,t2⟩:=w0 x t ht;obtain⟨ga,rfl,hc⟩:=(M1.o.fr a0.o) j x hx
     have hd:r.routes.drop j=x::r.routes.drop (j+1):=by
      obtain⟨h1,h2⟩:=iG.1 hx;rw[dC h1,h2]
     rw[hd]at HB
     have P1:(x:Int)<(rts.length:Int):=by omega
     have q1:O (x<rts.length):=S0
     have Q1:O (Vk rts l x=JH l t.name):=by show _=_;unfold Vk;rw[ht]
     have A0:O (XR rts p.am x=(t.base:Int)+(t.rate:Int)*p.am):=by show _=_;unfold XR;rw[ht]
     have T0:=E0.o.rt t (mG ht)
     have R1:(t.base:Int)<1000000000:=by have:=T0.2.1;omega
     have S1:(0:Int)<=(t.rate:Int)*p.am:=Int.mul_nonneg (by omega) M0.o.1
     have T1:(t.rate:Int)*p.am<=1000000000000000000:=by
      have:=Int.mul_le_mul (a:=(t.rate:Int)) (b:=p.am) (c:=1000000000) (d:=1000000000) (by have:=T0.2.2;omega) M0.o.2 M0.o.1 (by omega);omega
     obtain⟨r1,y1⟩:=VA wr (L #[Z t.name,I V (t.base:Nat),I V (t.rate:Nat)] 189)
     have W1:O (∀W',F0 wr W'->j0 z3 101 #[D a ln c,Z t.name] W' fun e w'=>e=z8 (q9 (Vk rts l x))/\w'=W'):=fun W' hf=>by
      rw[Q1.o,<-H1.o];exact Hj W' a c l t.name (E1.o.fr (S.o.trans hf)) F1.o
     clear w0 hx S0 ht hd T0;obtain⟨bi,X0⟩:∃bi,V0 b=bi:=⟨_,rfl⟩;have f0:O (V0 b=bi):=X0;obtain⟨bf,Y0⟩:∃bf,Na rts p.am b=bf:=⟨_,rfl⟩;have B0:O (Na rts p.am b=bf):=Y0;rw[X0,Y0];clear X0 Y0;have l1:q<wr.heap.size:=bL wr _ c1;have l2:X<wr.heap.size:=bL wr _ Q0;have l3:rg<wr.heap.size:=bL wr _ t0;have l4:ga<wr.heap.size:=bL wr _ hc;go_upto_region 15 with fail
     go_region
     go_upto_region 16 with fail;have Z0:O (F0 wr (wr.alloc (L #[Z t.name,I V (t.base:Nat),I V (t.rate:Nat)] 189)).drew):=r1.o.drew;have a1:O ((wr.alloc (L #[Z t.name,I V (t.base:Nat),I V (t.rate:Nat)] 189)).drew.heap[wr.heap.size]?=J (L #[Z t.name,I V (t.base:Nat),I V (t.rate:Nat)] 189)):=y1.o;clear r1 y1 l1 l2 l3 l4;generalize(wr.alloc _).drew=W5 at*;generalize wr.heap.size=Xo at*
     have k5:∀{A o:Nat}{v:j9},wr.cell? ⟨A,o,Y⟩=J v->W5.cell? ⟨A,o,Y⟩=J v:=fun{A o v} hv=>(Z0.o.cell (p:=⟨A,o,Y⟩) (bL wr _ hv)).trans hv
     have f2:=k5 Q0;have A1:=k5 R0;have zc:=k5 hc;have p2:wr.cell? ⟨P,2,Y⟩=J (I V p.am):=bC (a0.o.whole N1.o) 2 _ rfl;have zp:=k5 p2;have z0:=Zc a1.o 0;have z1:=Zc a1.o 1;have z2:=Zc a1.o 2;have g0:O (F0 W3 W5):=a0.o.trans Z0.o;clear y0 Q0 R0 hc c1 t0 t1 t2 p2 k5;go_wp2_with fail;refine(W1.o _ Z0.o).mono ?_;rintro e w6 ⟨rfl,hw⟩;replace hw:=hw.symm;subst hw
     cases hq:Vk rts l x with
     |true=>
      have Q:O (YL r.cheapest (XR rts p.am) (Vk rts l) (r.routes.drop (j+1)) b=s):=by have e:=HB.o;unfold YL at e;rw[hq,if_pos rfl]at e;exact e
      go_wp2_with fail;go_roundg (N-(j+1))
      case measure=>omega
      exact⟨j+1,b,by omega,rfl,by rw[f0.o],by rw[B0.o],by go_num,Q,g0,r0⟩
     |false=>
      have HQ:O (Vk rts l x=false):=hq;clear hq;go_upto_region 19 with fail;obtain⟨fx,B1⟩:∃fx,(t.base:Int)+(t.rate:Int)*p.am=fx:=⟨_,rfl⟩;rw[B1]at A0 ⊢;clear R1 S1 T1 z0 z1 z2 zp B1 P1
      cases b with
      |none=>
       have e1:bi= -1:=f0.o.symm;subst e1
       have K:O (YL r.cheapest (XR rts p.am) (Vk rts l) (r.routes.drop (j+1)) (J x)=s):=by have e:=HB.o;unfold YL at e;rw[HQ.o,if_neg (by simp)]at e;exact e
       clear HB;go_wp2_with fail;go_roundg (N-(j+1))
       case measure=>omega
       exact⟨j+1,J x,by omega,rfl,rfl,by show k7 _ _=k7 _ (XR rts p.am x);rw[A0.o],by go_num,K,g0,fun y h=>by injection h with h;subst h;exact q1.o⟩
      |some y=>
       have K:O (YL r.cheapest (XR rts p.am) (Vk rts l) (r.routes.drop (j+1)) (if(r.cheapest&&decide (fx<bf))=true then J x else J y)=s):=by
        have e:=HB.o;unfold YL at e;rw[HQ.o,if_neg (by simp)]at e;have e2:bf=XR rts p.am y:=B0.o.symm;rw[e2,<-A0.o];exact e
       have X1:¬bi<0:=by have:bi=(y:Int):=f0.o.symm;omega
       clear HB;rcases Bool.eq_false_or_eq_true r.cheapest with u|u
       rotate_left
       ·rw[u]at A1
        have Q:O (YL r.cheapest (XR rts p.am) (Vk rts l) (r.routes.drop (j+1)) (J y)=s):=by have e:=K.o;simp only[u,b7,k8,if_false]at e;rw[u];exact e
        clear u K;go_wp2_with fail;go_roundg (N-(j+1))
        case measure=>omega
        exact⟨j+1,J y,by omega,rfl,by rw[f0.o],by rw[B0.o],by go_num,Q,g0,r0⟩
       rw[u]at A1
       by_cases C1:fx<bf
       ·have Q:O (YL r.cheapest (XR rts p.am) (Vk rts l) (r.routes.drop (j+1)) (J x)=s):=by have e:=K.o;simp only[u,k4,C1,decide_true,if_true]at e;rw[u];exact e
        clear u K;go_wp2_with fail;go_roundg (N-(j+1))
        case measure=>omega
        exact⟨j+1,J x,by omega,rfl,rfl,by show k7 _ _=k7 _ (XR rts p.am x);rw[A0.o],by go_num,Q,g0,fun y h=>by injection h with h;subst h;exact q1.o⟩
       have Q:O (YL r.cheapest (XR rts p.am) (Vk rts l) (r.routes.drop (j+1)) (J y)=s):=by have e:=K.o;simp only[u,k4,C1,decide_false,k8,if_false]at e;rw[u];exact e
       clear u K;go_wp2_with fail;go_roundg (N-(j+1))
       case measure=>omega
       exact⟨j+1,J y,by omega,rfl,by rw[f0.o],by rw[B0.o],by go_num,Q,g0,r0⟩
    have O1:¬(j:Int)<(N:Int):=by omega
    have Y1:b=s:=by
     have e:=HB.o;rw[dL (by have:=p1.o;omega)]at e;exact e
    subst Y1;have E:=a0.o.whole H.o;have g2:P+1<wr.heap.size:=(iA.1 E).1;have o0:=Zc E 0;have o1:=Zc E 1;have o2:=Zc E 2;have J0:=bF E 0;have K0:=bF E 1;have L0:=bF E 2;generalize Na rts p.am b=bf at*
    cases b with
    |none=>
     have HD:O (TV rts R p (Vk rts l)=(4,r.name,z6)):=D0.o;unfold V0;go_wp2_with fail;have B:=JK (v0:=I V 4) (v1:=Z r.name) (v2:=Z ⟨#[]⟩) E;have s0:=Zc B 0;have s1:=Zc B 1;have s2:=Zc B 2;refine bodyPost_ret (v:=p0 #[I V 4,Z r.name,Z ⟨#[]⟩]) (by simp[results,Tryz.results56,go_sem,s0,s1,s2]) rfl ⟨by rw[HD.o];rfl,?_⟩;exact((S.o.setCell (p:=⟨P+1,0,Y⟩) (U n) _).setCell (p:=⟨P+1,1,Y⟩) (U n) _).setCell (p:=⟨P+1,2,Y⟩) (U n) _
    |some y=>
     have D1:=r0.o y rfl;obtain⟨t,ht⟩:∃t,rts[y]?=J t:=⟨_,gE D1⟩;obtain⟨rg,rfl,t0,_,_⟩:=w0 y t ht
     have HD:O (TV rts R p (Vk rts l)=(0,r.name,t.name)):=by show _=_;rw[D0.o];simp only[Mt,Mp,ht]
     have i2:(y:Int)<(rts.length:Int):=by omega
     have X1:¬(y:Int)<0:=by omega
     unfold V0;clear w0 ht D1 R0;go_upto_region 24 with fail
     go_region
     go_wp2_with fail;have B:=JK (v0:=I V 0) (v1:=Z r.name) (v2:=Z t.name) E;have s0:=Zc B 0;have s1:=Zc B 1;have s2:=Zc B 2;refine bodyPost_ret (v:=p0 #[I V 0,Z r.name,Z t.name]) (by simp[results,Tryz.results56,go_sem,s0,s1,s2]) rfl ⟨by rw[HD.o];rfl,?_⟩;exact(((S.o.setCell (p:=⟨P+1,0,Y⟩) (U n) _).setCell (p:=⟨P+1,1,Y⟩) (U n) _).setCell (p:=⟨P+1,2,Y⟩) (U n) _).drew
theorem Hl (m:Nat)(h:m<16):f8.wrap (97+(m:Int))=(97+(m:Int)):=by
 have:m=0\/m=1\/m=2\/m=3\/m=4\/m=5\/m=6\/m=7\/m=8\/m=9\/m=10\/m=11\/m=12\/m=13\/m=14\/m=15:=by omega
 rcases this with rfl|rfl|rfl|rfl|rfl|rfl|rfl|rfl|rfl|rfl|rfl|rfl|rfl|rfl|rfl|rfl<;>decide
theorem Ts {P w F v o a Q}(M:o.guard=Y)(s x t)(V:o.op=.call {callee:=.builtin .append,args:=#[s,x],argTypes:=#[t,t]})(base e i z f p)(T:P.underlying t=J (.slice e))(hi:P.info? e=J i)(W:i.zero=J z)(A:i.size=f)(DZ:i.bytes=p)(N:z.cells.size=f)(g0 n b E)(X:a.eval s=.slice (J ⟨g0,0,Y⟩) n b)(l:w.ownsRow base e f (.slice (J ⟨g0,0,Y⟩) n b) n E)(G m c d)(Z:a.eval x=.slice (J G) m c)(L:d.length=m*f)(q:∀j u,d[j]?=J u->w.cell? (G.add j)=J u)(h1:∀u∈d,u.oneCell'=true)(I:n+m<=maxLen)(r:(n+m)*p<=140737488355328)(C:base<=w.heap.size)(H)(hH:w.heap.size=H)(h:∀g cap w',w'.ownsRow base e f (.slice (J ⟨g,0,Y⟩) (n+m) cap) (n+m) (E++d)->((g=g0/\w.grownBy w' (J g0))\/(g=H/\w.grownBy w' Y))->wpList P F Q v (a.put o.dst (.slice (J ⟨g,0,Y⟩) (n+m) cap)) w'):wpList P F Q (o::v) a w:=by
 subst A DZ hH
 have O:∃g cap w',(Builtin.append_ #[t,t] o.type #[.slice (J ⟨g0,0,Y⟩) n b,.slice (J G) m c]).run P w=.ok (.slice (J ⟨g,0,Y⟩) (n+m) cap) w'/\w'.ownsRow base e i.size (.slice (J ⟨g,0,Y⟩) (n+m) cap) (n+m) (E++d)/\((g=g0/\w.grownBy w' (J g0))\/(g=w.heap.size/\w.grownBy w' Y)):=by
  by_cases D:n+m<=b
  ·obtain⟨w',r1,r2,r3⟩:=run_append_fits w base t o.type e i i.size T hi rfl g0 n b E l G m c d L q h1 D
   exact⟨g0,b,w',r1,r2,B ⟨rfl,r3⟩⟩
  have y:(E++d).length=(n+m)*i.size:=by rw[lA,l.1,L,f6]
  have R:=run_append_grow (P:=P) w t o.type e i z T hi W ⟨g0,0,Y⟩ n b E l.1 (l.cells (g:=g0) rfl) G m c d L q (by omega) (by simp only[maxLen]at I;omega) (growslice_fits (by omega) r);have S:=grownCap_ge w (n+m) b e;refine⟨_,_,_,R,⟨y,.inr ⟨w.heap.size,_,_,rfl,C,aN w.drew _,S,grownCap_le_maxLen w (n+m) b e I,?_,?_⟩⟩,U ⟨rfl,⟨rfl,rfl,rfl,by simp,fun k hk _=>heap_alloc_old w.drew _ hk⟩⟩⟩
  ·simp only[Array.size_append,g7,size_zeroCells,N,l.1,L,<-f6]
   congr 1
   omega
  simp only[Array.toList_append,z9]
  rw[<-z9,<-y];exact List.take_left
 obtain⟨g,cap,w',R,h2,h3⟩:=O
 refine wpList_plain M fun K hK=>?_
 unfold Oper.wp execOp;simp only[V,resolve,invoke,builtin,Sem.run_bind,Sem.run_pure,Result.andThen_ok,List.map_toArray,List.map_cons,List.map_nil,X,Z,R];exact hK _ _ (h g cap w' h2 h3)
structure Ie where
 a:Option Addr
 n:Nat
 c:Nat
 m:ByteArray
def Ie.val (e:Ie):j9:=D e.a e.n e.c

theorem Dt {P f a w E Q}(h:j0 P f a w fun e w'=>e=E/\w'=w)(k:Q E w):j0 P f a w Q:=cf h fun _ e=>e▸k
theorem Rr (n d R w)(c:d<=6)(f:n*10^(6-d)=R)(h:R<=1000000):
  j0 z3 137 #[I V (n:Nat),I V (d:Nat)] w fun e w'=>e=z8 (I V (R:Nat))/\w'=w:=by
 have g:=Za f;have i:=Za h;go_enter Tryz.func137,Tryz.ntmps137;go_wp2_with fail
 go_loopg [0,1] (6-d) (fun m j l wr=>∃x k:Nat,k<=6/\m=6-k/\j=I V (x:Nat)/\l=I V (k:Nat)/\wr=w/\O (x*10^(6-k)=R))
 case atStart=>exact⟨n,d,c,rfl,rfl,rfl,rfl,g⟩
 obtain⟨x,k,r,rfl,rfl,rfl,rfl,a⟩:=hrel;have s:x<=1000000:=q0 (Nat.le_mul_of_pos_right _ (f7 (by decide))) (a.o▸i.o);by_cases p:k<6
 ·have b:(k:Int)<6:=by omega
  have q:O ((10*x)*10^(6-(k+1))=R):=by
   show _=_;rw[<-a.o,show 6-k=(6-(k+1))+1 from by omega,f1]
   rw[f2 10 x,Nat.mul_assoc,f2 10]
  go_wp2_with fail;go_roundg (6-(k+1))
  case measure=>omega
  exact⟨10*x,k+1,by omega,rfl,by go_num,by go_num,rfl,q⟩
 have b:¬(k:Int)<6:=by omega
 have e:x=R:=by have:=a.o;rw[show 6-k=0 from by omega]at this;simpa using this
 subst e;go_wp2_with fail;go_ret;exact⟨rfl,rfl⟩
def Rs (w:j2)(b:Nat)(l:List (j9×List Nat)):Prop:=
 (∀p,p∈l->w.ownsRow b 3 1 p.1 p.2.length (Zg p.2))/\l.Pairwise fun p q=>∀k,p.1.ownBlock=J k->q.1.ownBlock≠J k
theorem Rs.turn {w w' b v v' l l' r}(h:Rs w b ((v,l)::r))(i:Fr (fun k=>v.ownBlock=J k) w w')(j:w'.ownsRow b 3 1 v' l'.length (Zg l'))(m:∀k,v'.ownBlock=J k->v.ownBlock=J k\/w.heap.size<=k):Rs w' b ((v',l')::r):=by
 obtain⟨f,a⟩:=h;rw[k9]at a;refine⟨fun p c=>?_,k9.2 ⟨fun q g k d e=>?_,a.2⟩⟩
 ·rcases j3.1 c with rfl|c
  ·exact j
  exact oA (f p (k0 _ c)) i (fun k d e=>a.1 p c k e d)
 rcases m k d with h|h
 ·exact a.1 q g k h e
 have:=((f q (k0 _ g)).lt k e).2
 omega
theorem Rs.rot {w b p r}(h:Rs w b (p::r)):Rs w b (r++[p]):=
 have e:=List.perm_append_singleton p r
 ⟨fun q a=>h.1 q (e.mem_iff.1 a),(e.symm.pairwise_iff (fun h k c e=>h k e c)).1 h.2⟩
theorem Rs.fr {w w' b l S}(h:Rs w b l)(a:Fr S w w')(c:∀k,S k->k<b:=by simp):Rs w' b l:=⟨fun p d=>oF (h.1 p d) a c,h.2⟩
theorem Rs.grow {w e w2 b g n c v l l' r}(h:Rs w b ((v,l)::r))(i:Fr (fun k=>v.ownBlock=J k) w e)(j:e.grownBy w2 v.ownBlock)(m:w2.ownsRow b 3 1 (D (J ⟨g,0,Y⟩) n c) l'.length (Zg l'))(a:v.ownBlock=J g\/w.heap.size<=g):
  Rs w2 b ((D (J ⟨g,0,Y⟩) n c,l')::r)/\Fr (fun k=>v.ownBlock=J k) w w2:=by
 have f:=i.grown j (fun k d=>B d);refine⟨h.turn f m (fun k d=>?_),f⟩
 obtain rfl:k=g:=by simpa[b9]using d.symm
 exact a
theorem V3 (l)(n:Nat):Uo l (n:Int)=true↔n∈l:=by
 induction l with
 |nil=>simp[Uo]
 |cons x r a=>rw[Hi,b6,a,beq_iff_eq,j3];exact or_congr_left ⟨fun h=>by omega,fun h=>by omega⟩
theorem C6 (w b v l r n m)(M:Int)(F:M=(m:Nat))(h:Rs w b ((v,l)::r))(z:l.length<=4000)(P:n<=10000000000)(Q:b<=w.heap.size):
  j0 z3 182 #[v,I V (n:Nat),I V M] w fun e w'=>∃v' l',e=z8 v'/\Rs w' b ((v',l')::r)/\(l'=l/\(n<=m->n∈l)\/l'=l++[n]/\n<=m)/\Fr (fun k=>v.ownBlock=J k) w w':=by
 obtain⟨G,hi,s,t,u⟩:=info_parts Y3;have d:=Za (h.1 _ (z5 ..));obtain⟨A,c,e⟩:=oL d.o
 dsimp only at e d
 subst e F;have C:=Za (Rq w A c l n (Zu.of d.o) z);have q:=Za h;obtain⟨N,E⟩:∃N,l.length=N:=⟨_,rfl⟩;have H:=Za E;rw[E]at z C d q ⊢;go_enter Tryz.func182,Tryz.ntmps182;go_wp2_with fail;refine Dt C.o ?_
 have K:¬(n:Int)<0:=by omega
 cases x:Uo l (n:Int)with
 |true=>
  have O:=Za ((V3 l n).1 x);go_wp2_with fail;go_ret;exact⟨_,l,rfl,q.o,B ⟨rfl,fun _=>O.o⟩,Zt⟩
 |false=>
  by_cases f:n<=m
  ·have i:¬(m:Int)<(n:Int):=by omega
   go_wp2_with (at_builtin;refine wpList_append_lies _ rfl (.tmp 22) (.tmp 24) 25 rfl b 3 G _ 1 8 Tryz.underlying25 hi s t u rfl (by decide) (D A N c) N (Zg l) rfl ?a1 ⟨w.heap.size,0,Y⟩ 1 1 [I V (n:Nat)] rfl rfl ?a2 ?a3 (by decide) ?a4 ?a5 ?a6 _ rfl ?a7)
   case a1=>exact d.o.alloc _
   case a2=>exact q8 (aN w (L #[I V (n:Nat)] 3))
   case a3=>simp[j1]
   case a4=>unfold maxLen;omega
   case a5=>omega
   case a6=>simp;omega
   intro g cap w2 j a y _;have p:=Za (q.o.grow (Zt.alloc _) a (l':=l++[n]) (by rw[XZ,lA,H.o];exact j) (y.imp id (by omega)));go_wp2_with fail;go_ret;exact⟨_,_,rfl,p.o.1,U ⟨rfl,f⟩,p.o.2⟩
  have i:(m:Int)<(n:Int):=by omega
  go_wp2_with fail;go_ret;exact⟨_,l,rfl,q.o,B ⟨rfl,fun h=>absurd h f⟩,Zt⟩
def Qq (a b:List Nat):Bool:=a.any (fun x=>Uo b (x:Int))||(a.isEmpty||b.isEmpty)
theorem Du (a b):Qq a b=true↔a=[]\/b=[]\/∃x,x∈a/\x∈b:=by
 simp only[Qq,b6,List.any_eq_true,V3,List.isEmpty_iff]
 constructor
 ·rintro(h|h|h)
  ·exact U (U h)
  ·exact B h
  exact U (B h)
 rintro(h|h|h)
 ·exact U (B h)
 ·exact U (U h)
 exact B h
theorem Oy (w a n c v l b)(h:Zu w a l)(p:Zu w n b)(G:l.length<=4000)(d:b.length<=4000):
  j0 z3 138 #[D a l.length c,D n b.length v] w fun e w'=>e=z8 (q9 (Qq l b))/\w'=w:=by
 have H:=Za h;have y:=Za (fun x:Nat=>Rq w n v b x p d);obtain⟨m,z⟩:∃m,l.length=m:=⟨_,rfl⟩;have r:=Za z;obtain⟨s,f⟩:∃m,b.length=m:=⟨_,rfl⟩;have t:=Za f;rw[z]at G ⊢;rw[f]at d y ⊢;go_enter Tryz.func138,Tryz.ntmps138;go_wp2_with fail
 go_loopg [5] m (fun q i wr=>∃k:Nat,k<=m/\q=m-k/\i=I V k/\wr=w/\O (l.any (fun x=>Uo b (x:Int))=(l.drop k).any fun x=>Uo b (x:Int)))
 case atStart=>exact⟨0,g8 _,rfl,rfl,rfl,rfl⟩
 obtain⟨k,N,rfl,rfl,rfl,A⟩:=hrel;by_cases K:k<m
 ·have u:(k:Int)<(m:Int):=by omega
  obtain⟨x,B⟩:∃x,l[k]?=J x:=⟨_,gE (by have:=r.o;omega)⟩;obtain⟨g,rfl,P⟩:=H.o k x B
  have j:O (l.any (fun x=>Uo b (x:Int))=(Uo b (x:Int)||(l.drop (k+1)).any fun x=>Uo b (x:Int))):=by
   obtain⟨L,p⟩:=iG.1 B
   show _=_;rw[A.o,dC L,p,List.any_cons]
  go_wp2_with fail;refine Dt (y.o x) ?_
  cases C:Uo b (x:Int)with
  |true=>
   rw[C,f3]at j;go_wp2_with fail;go_ret;exact⟨by rw[Qq,j.o,f3];rfl,rfl⟩
  |false=>
   rw[C,f0]at j;go_wp2_with fail;go_roundg (m-(k+1))
   case measure=>omega
   exact⟨k+1,by omega,rfl,by go_num,rfl,j⟩
 have u:¬(k:Int)<(m:Int):=by omega
 have E:O (Qq l b=(decide (m=0)||decide (s=0))):=by
  show _=_;rw[Qq,A.o,dL (by have:=r.o;omega),<-r.o,<-t.o]
  cases l<;>cases b<;>rfl
 by_cases F:m=0
 ·subst F
  have M:=E.o;go_wp2_with fail;go_ret;exact⟨rfl,rfl⟩
 have M:((m:Int)==0)=false:=by simp;omega
 have Q:Qq l b=((s:Int)==0):=by
  rw[E.o,decide_eq_false F,f0];by_cases h:s=0
  ·subst h;rfl
  rw[decide_eq_false h];symm;simp;omega
 go_wp2_with fail;go_ret;exact⟨rfl,rfl⟩
theorem F2 {S w W o}(h:w.alloc o=W):Fr S w W:=h▸Zt.alloc _
theorem B1 {w W:j2}{o}(h:w.alloc o=W):W.heap[w.heap.size]?=J o:=h▸aN w _
theorem vC {w:j2}{g o r a b c d e f}(h:∀j v,(uP r a d b e c f)[j]?=J v->w.cell? ⟨g,o+j,Y⟩=J v):
  w.cell? ⟨g,o,Y⟩=J (Z r.name)/\w.cell? ⟨g,o+1,Y⟩=J (I V (r.rank:Nat))/\w.cell? ⟨g,o+2,Y⟩=J (I V (r.digits:Nat))/\w.cell? ⟨g,o+3,Y⟩=J (I V (r.lo:Nat))/\w.cell? ⟨g,o+4,Y⟩=J (I V (r.hi:Nat))/\w.cell? ⟨g,o+5,Y⟩=J (D a r.mcc.length d)/\w.cell? ⟨g,o+6,Y⟩=J (D b r.cur.length e)/\w.cell? ⟨g,o+7,Y⟩=J (q9 r.am.isSome)/\w.cell? ⟨g,o+8,Y⟩=J (I V ((r.am.getD (0,0)).1:Nat))/\w.cell? ⟨g,o+9,Y⟩=J (I V ((r.am.getD (0,0)).2:Nat))/\w.cell? ⟨g,o+10,Y⟩=J (D c r.routes.length f)/\w.cell? ⟨g,o+11,Y⟩=J (q9 r.decline)/\w.cell? ⟨g,o+12,Y⟩=J (q9 r.cheapest):=
 ⟨h 0 _ rfl,h 1 _ rfl,h 2 _ rfl,h 3 _ rfl,h 4 _ rfl,h 5 _ rfl,h 6 _ rfl,h 7 _ rfl,h 8 _ rfl,h 9 _ rfl,h 10 _ rfl,h 11 _ rfl,h 12 _ rfl⟩
def sL (r:Ze):Nat:=r.lo*10^(6-r.digits)
def sH (r:Ze):Nat:=(r.hi+1)*10^(6-r.digits)
def aL (r:Ze):Nat:=(r.am.getD (0,1000000000)).1
def aH (r:Ze):Nat:=(r.am.getD (0,1000000000)).2
theorem My {n r}(h:Tf n r):sL r<=1000000/\sH r<=1000000:=by
 obtain⟨a,b,c⟩:=h.bn
 have e:10^r.digits*10^(6-r.digits)=1000000:=by rw[<-Nat.pow_add,show r.digits+(6-r.digits)=6 from by omega]
 exact⟨e▸k3 _ (by omega),e▸k3 _ (by omega)⟩
def vD (r s:Ze):Bool:=decide (max (sL r) (sL s)<min (sH r) (sH s))&&(Qq r.mcc s.mcc&&(Qq r.cur s.cur&&decide (max (aL r) (aL s)<=min (aH r) (aH s))))
theorem JM (w q rts R i k r s)(h:Sm w q rts R)(H:Yy rts R)(hi:R[i]?=J r)(hk:R[k]?=J s):
  j0 z3 85 #[g9 (J ⟨q,0,Y⟩),I V (i:Nat),I V (k:Nat)] w fun e w'=>e=z8 (q9 (vD r s))/\F0 w w':=by
 obtain⟨la,lc,K,h3⟩:=h.c2;obtain⟨g,ma,mc,ca,cc,pa,pc,rfl,hc,hm,hu,_⟩:=h3 i r hi;obtain⟨g',L,a0,M,b0,l0,m0,e,c0,d0,e0,_⟩:=h3 k s hk;injection e with e;injection e with e _ _;subst e
 have n0:(i:Int)<(R.length:Int):=by have:=(iG.1 hi).1;omega
 have o0:(k:Int)<(R.length:Int):=by have:=(iG.1 hk).1;omega
 have f:=Za (H.rl r (mG hi));have y:=Za (H.rl s (mG hk));obtain⟨v0,v1,v2,v3,v4,v5,v6,v7,v8,v9,f0,g0,h0⟩:=vC hc;have HC:=Za c0;have HM:=Za (And.intro hm (And.intro hu (And.intro d0 e0)));have H2:=Za K;go_enter Tryz.func85,Tryz.ntmps85;go_upto_region 2 with fail;generalize N:w.alloc _=W1 at*;have P:O (F0 w W1):=F2 N;have i0:=Za (B1 N)
 have kk:∀{X o:Nat}{v:j9},w.cell? ⟨X,o,Y⟩=J v->W1.cell? ⟨X,o,Y⟩=J v:=fun{X o v} hv=>(P.o.cell (p:=⟨X,o,Y⟩) (bL w _ hv)).trans hv
 have p0:=kk H2.o
 obtain⟨v0,v1,v2,v3,v4,v5,v6,v7,v8,v9,f0,g0,h0⟩:=vC fun j v e=>kk (HC.o j v e)
 go_upto_region 3 with fail;generalize N:W1.alloc _=x at*;have Q:O (F0 W1 x):=F2 N;have l:=Za (B1 N);have m:=Za (Q.o.whole i0.o);have C:=Za (P.o.trans Q.o);have z:O (Zu x ma r.mcc/\Zu x ca r.cur/\Zu x L s.mcc/\Zu x M s.cur):=⟨HM.o.1.fr C.o,HM.o.2.1.fr C.o,HM.o.2.2.1.fr C.o,HM.o.2.2.2.fr C.o⟩;have x2:=Zc m.o 2;have x3:=Zc m.o 3;have x4:=Zc m.o 4;have x5:=Zc m.o 5;have x6:=Zc m.o 6;have x7:=Zc m.o 7;have x8:=Zc m.o 8;have x9:=Zc m.o 9;have y2:=Zc l.o 2;have y3:=Zc l.o 3;have y4:=Zc l.o 4;have y5:=Zc l.o 5;have y6:=Zc l.o 6;have y7:=Zc l.o 7;have y8:=Zc l.o 8;have y9:=Zc l.o 9;have dr:=f.o.bn.1;have ds:=y.o.bn.1;have br:r.lo<=1000000000/\r.hi<=1000000000:=⟨by have:=f.o.lo.1;omega,by have:=f.o.hi.1;omega⟩;have bs:s.lo<=1000000000/\s.hi<=1000000000:=⟨by have:=y.o.lo.1;omega,by have:=y.o.hi.1;omega⟩;obtain⟨q0,r0⟩:=br;obtain⟨s0,t0⟩:=bs;have S1:=Za (Rr r.lo r.digits _ x dr rfl (My f.o).1);have S2:=Za (Rr (r.hi+1) r.digits _ x dr rfl (My f.o).2);have S3:=Za (Rr s.lo s.digits _ x ds rfl (My y.o).1);have S4:=Za (Rr (s.hi+1) s.digits _ x ds rfl (My y.o).2);have S5:=Za (Oy x ma L mc a0 _ _ z.o.1 z.o.2.2.1 f.o.mc.1 y.o.mc.1);have S6:=Za (Oy x ca M cc b0 _ _ z.o.2.1 z.o.2.2.2 f.o.cu.1 y.o.cu.1);obtain⟨a,ha⟩:∃a,r.lo*10^(6-r.digits)=a:=⟨_,rfl⟩;obtain⟨b,H⟩:∃a,(r.hi+1)*10^(6-r.digits)=a:=⟨_,rfl⟩;obtain⟨c,hc⟩:∃a,s.lo*10^(6-s.digits)=a:=⟨_,rfl⟩;obtain⟨d,hd⟩:∃a,(s.hi+1)*10^(6-s.digits)=a:=⟨_,rfl⟩;rw[ha]at S1;rw[H]at S2;rw[hc]at S3;rw[hd]at S4
 have t:O (vD r s=(decide (max a c<min b d)&&(Qq r.mcc s.mcc&&(Qq r.cur s.cur&&decide (max (aL r) (aL s)<=min (aH r) (aH s)))))):=by show _=_;rw[vD,sL,sL,sH,sH,ha,H,hc,hd]
 have HA:O (r.am.isSome=true->aL r=(r.am.getD (0,0)).1/\aH r=(r.am.getD (0,0)).2):=by show _->_;unfold aL aH;cases r.am<;>simp
 have S:O (r.am.isSome=false->aL r=0/\aH r=1000000000):=by show _->_;unfold aL aH;cases r.am<;>simp
 have HB:O (s.am.isSome=true->aL s=(s.am.getD (0,0)).1/\aH s=(s.am.getD (0,0)).2):=by show _->_;unfold aL aH;cases s.am<;>simp
 have U:O (s.am.isSome=false->aL s=0/\aH s=1000000000):=by show _->_;unfold aL aH;cases s.am<;>simp
 have HH:O (aH r<=1000000000):=by
  show _<=_
  unfold aH
  cases e:r.am with
  |none=>simp
  |some ab=>have:=f.o.am ab e;simp;omega
 generalize(s.am.getD (0,0)).1=W at*;generalize(s.am.getD (0,0)).2=Z at*;generalize(r.am.getD (0,0)).1=rl at*;generalize(r.am.getD (0,0)).2=rh at*;generalize r.am.isSome=ra at*;generalize s.am.isSome=sa at*
 have e1:∀n:Nat,((n+1:Nat):Int)=(n:Int)+1:=fun n=>by omega
 rw[e1]at S2 S4;go_wp2_with fail;refine Dt S1.o ?_;go_wp2_with fail;refine Dt S2.o ?_;go_wp2_with fail;refine Dt S3.o ?_
 go_upto_if 46 with fail
 go_cut [9] (fun u A=>u=I V ((max a c:Nat):Int)/\x=A)
 case first=>
  by_cases D:a<c
  ·have E:(a:Int)<(c:Int):=by omega
   go_wp2_with fail;refine Dt S3.o ?_;go_wp2_with fail;go_meet;exact⟨by rw[p8 (by omega)],rfl⟩
  have E:¬(a:Int)<(c:Int):=by omega
  go_wp2_with fail;go_meet;exact⟨by rw[j5 (by omega)],rfl⟩
 obtain⟨rfl,rfl⟩:=hcut;generalize max a c=F at*;go_wp2_with fail;refine Dt S4.o ?_
 go_upto_if 59 with fail
 go_cut [10] (fun u A=>u=I V ((min b d:Nat):Int)/\x=A)
 case first=>
  by_cases D:d<b
  ·have E:(d:Int)<(b:Int):=by omega
   go_wp2_with fail;refine Dt S4.o ?_;go_wp2_with fail;go_meet;exact⟨by rw[p9 (by omega)],rfl⟩
  have E:¬(d:Int)<(b:Int):=by omega
  go_wp2_with fail;go_meet;exact⟨by rw[j6 (by omega)],rfl⟩
 obtain⟨rfl,rfl⟩:=hcut;generalize min b d=T at*;go_wp2_with fail;refine Dt S5.o ?_;go_wp2_with fail;refine Dt S6.o ?_
 go_upto_if 77 with fail
 go_cut [13,14] (fun u v A=>u=I V ((aL r:Nat):Int)/\v=I V ((aH r:Nat):Int)/\x=A)
 case first=>
  cases ra with
  |true=>
   go_wp2_with fail;go_meet;exact⟨by rw[(HA.o (by simp)).1],by rw[(HA.o (by simp)).2],rfl⟩
  |false=>
   go_wp2_with fail;go_meet;exact⟨by rw[(S.o (by simp)).1];rfl,by rw[(S.o (by simp)).2];rfl,rfl⟩
 obtain⟨rfl,rfl,rfl⟩:=hcut;generalize aL r=G at*;generalize aH r=B at*
 cases sa
 case' false=>
  rw[(U.o rfl).1,(U.o rfl).2,j5 (g8 _),j6 HH.o]at t;go_upto_region 20 with fail;obtain⟨l2,rfl⟩:∃l2,l2=G:=⟨_,rfl⟩;obtain⟨K,rfl⟩:∃K,K=B:=⟨_,rfl⟩
 case' true=>
  rw[(HB.o rfl).1,(HB.o rfl).2]at t
  go_upto_if 89 with fail
  go_cut [13] (fun u A=>u=I V ((max G W:Nat):Int)/\x=A)
  case first=>
   by_cases D:G<W
   ·have E:(G:Int)<(W:Int):=by omega
    go_wp2_with fail;go_meet;exact⟨by rw[p8 (by omega)],rfl⟩
   have E:¬(G:Int)<(W:Int):=by omega
   go_wp2_with fail;go_meet;exact⟨by rw[j5 (by omega)],rfl⟩
  case' rest=>
   obtain⟨rfl,rfl⟩:=hcut;generalize max G W=l2 at*
   go_upto_if 99 with fail
   go_cut [14] (fun u A=>u=I V ((min B Z:Nat):Int)/\x=A)
   case first=>
    by_cases D:Z<B
    ·have E:(Z:Int)<(B:Int):=by omega
     go_wp2_with fail;go_meet;exact⟨by rw[p9 (by omega)],rfl⟩
    have E:¬(Z:Int)<(B:Int):=by omega
    go_wp2_with fail;go_meet;exact⟨by rw[j6 (by omega)],rfl⟩
   case' rest=>
    obtain⟨rfl,rfl⟩:=hcut;generalize min B Z=K at*
 all_goals
  by_cases B:F<T
  ·have k0:(F:Int)<(T:Int):=by omega
   rw[decide_eq_true B,k4]at t;generalize Qq r.mcc s.mcc=c1 at*;generalize Qq r.cur s.cur=c2 at*
   cases c1 with
   |false=>
    go_wp2_with fail;go_ret;exact⟨by rw[t.o];rfl,C.o⟩
   |true=>
    cases c2 with
    |false=>
     go_wp2_with fail;go_ret;exact⟨by rw[t.o];rfl,C.o⟩
    |true=>
     go_wp2_with fail;go_ret;exact⟨by rw[t.o];rfl,C.o⟩
  have k0:¬(F:Int)<(T:Int):=by omega
  rw[decide_eq_false B,b7]at t;go_wp2_with fail;go_ret;exact⟨by rw[t.o];rfl,C.o⟩
theorem F3 {l:List Nat}(a:0∈l):∀c,∃b,b∈l/\b<=c/\∀x,x∈l->x<=c->x<=b
 |0=>⟨0,a,G _,fun _ _ h=>h⟩
 |c+1=>by
  by_cases h:c+1∈l
  ·exact⟨c+1,h,G _,fun _ _ h=>h⟩
  obtain⟨b,f,i,g⟩:=F3 a c
  exact⟨b,f,by omega,fun x d j=>g x d (by have:x≠c+1:=fun e=>h (e▸d);omega)⟩
def Nd (l:List Nat)(m n:Nat)(Q:Nat->Prop):Prop:=(∀x,x∈l->x<=m)/\l.length<=n/\∀x,Q x->x<=m->x∈l
theorem Nd.more {l l' m n x Q}(h:Nd l m n Q)(g:l'=l/\(x<=m->x∈l)\/l'=l++[x]/\x<=m):Nd l' m (n+1) fun y=>Q y\/y=x:=by
 obtain⟨c,i,d⟩:=h;rcases g with⟨rfl,f⟩|⟨rfl,f⟩
 ·exact⟨c,by omega,fun y a b=>a.elim (fun h=>d y h b) fun e=>e▸f (e▸b)⟩
 refine⟨fun y a=>?_,by simp;omega,fun y a b=>?_⟩
 ·rcases List.mem_append.1 a with h|h
  ·exact c y h
  simp at h;omega
 rcases a with h|h
 ·exact List.mem_append_left _ (d y h b)
 simp[h]
theorem Nd.weak {l m n a Q Q'}(h:Nd l m n Q)(b:n<=a)(c:∀x,Q' x->Q x):Nd l m a Q':=⟨h.1,q0 h.2.1 b,fun x d=>h.2.2 x (c x d)⟩
theorem xw {r c}:(decide (r.lo<=c/10^(6-r.digits))&&decide (c/10^(6-r.digits)<=r.hi))=(decide (sL r<=c)&&decide (c<sH r)):=by
 have a:0<10^(6-r.digits):=f7 (by decide);rw[sL,sH,decide_eq_decide.2 (Nat.le_div_iff_mul_le a),decide_eq_decide.2 (show c/10^(6-r.digits)<=r.hi↔_ from Nat.lt_succ_iff.symm.trans (Nat.div_lt_iff_lt_mul a))]
theorem Uv (r p):V2 r p=((decide (sL r<=Zy p.pan)&&decide (Zy p.pan<sH r))&&Uc r p):=by rw[V2,<-Bool.and_assoc,xw]
structure zq (R:List Ze)(bs ms am cs:List Nat):Prop where
 b:∃n,Nd bs 999999 n fun x=>x=0\/∃r,r∈R/\(x=sL r\/x=sH r)
 a:∃n,Nd am 1000000000 n fun x=>x=0\/∃r,r∈R/\∃ab,r.am=J ab/\(x=ab.1\/x=ab.2+1)
 m:(∃o,o∈ms/\∀r,r∈R->o∉r.mcc)/\∃n,Nd ms 9999 n fun x=>∃r,r∈R/\x∈r.mcc
 c:(∃o,o∈cs/\∀r,r∈R->o∉r.cur)/\∃n,Nd cs 999 n fun x=>∃r,r∈R/\x∈r.cur
theorem wE {R:List Ze}{f:Ze->List Nat}{l M}(h:(∃o,o∈l/\∀r,r∈R->o∉f r)/\∃n,Nd l M n fun x=>∃r,r∈R/\x∈f r){n:Int}(c:0<=n)(i:n<=M):∃x,x∈l/\∀r,r∈R->Uo (f r) (x:Int)=Uo (f r) n:=by
 obtain⟨⟨o,d,e⟩,k,j,m,g⟩:=h;obtain⟨y,rfl⟩:=Int.eq_ofNat_of_zero_le c;by_cases a:∃r,r∈R/\y∈f r
 ·exact⟨y,g y a (by omega),fun _ _=>rfl⟩
 refine⟨o,d,fun r b=>?_⟩
 rw[j7,V3,V3];exact⟨fun h=>absurd h (e r b),fun h=>absurd ⟨r,b,h⟩ a⟩
theorem zq.cover {R bs w y z}(h:zq R bs w y z){p}(n:Y6 p=true):
  ∃b m a c,b∈bs/\m∈w/\a∈y/\c∈z/\∀d:WF,Zy d.pan=b->d.mcc=(m:Int)->d.am=(a:Int)->d.cur=(c:Int)->∀r,r∈R->V2 r d=V2 r p:=by
 rw[Xw]at n;simp only[z7,V1,decide_eq_true_eq]at n;obtain⟨A,⟨C,D⟩,⟨E,W⟩,F,G⟩:=n;obtain⟨_,X,_,o⟩:=h.b;obtain⟨_,Y,_,q⟩:=h.a;obtain⟨x,s⟩:=Int.eq_ofNat_of_zero_le E;have Z:=JJ A;obtain⟨b,H,I,k⟩:=F3 (o 0 (B rfl) (by decide)) (Zy p.pan);obtain⟨a,J,K,l⟩:=F3 (q 0 (B rfl) (by decide)) x;obtain⟨m,L,t⟩:=wE (f:=Ze.mcc) h.m C D;obtain⟨c,u,v⟩:=wE (f:=Ze.cur) h.c F G;refine⟨b,m,a,c,H,L,J,u,fun d M N O P r i=>?_⟩;rw[Uv,Uv,Uc,Uc,M,N,P,t r i,v r i]
 have Q:(decide (sL r<=b)&&decide (b<sH r))=(decide (sL r<=Zy p.pan)&&decide (Zy p.pan<sH r)):=by
  have S:sL r<=Zy p.pan->sL r<=b:=fun g=>k _ (o _ (U ⟨r,i,B rfl⟩) (by omega)) g
  have T:sH r<=Zy p.pan->sH r<=b:=fun g=>k _ (o _ (U ⟨r,i,U rfl⟩) (by omega)) g
  rw[j7];simp only[z7,decide_eq_true_eq];omega
 have V:Mk r d=Mk r p:=by
  unfold Mk
  cases e:r.am with
  |none=>rfl
  |some j=>
   have S:j.1<=x->j.1<=a:=fun g=>l _ (q _ (U ⟨r,i,j,e,B rfl⟩) (by omega)) g
   have T:j.2+1<=x->j.2+1<=a:=fun g=>l _ (q _ (U ⟨r,i,j,e,U rfl⟩) (by omega)) g
   dsimp only
   rw[O,s,j7];simp only[z7,decide_eq_true_eq];omega
 rw[Q,V]
def xx (R:List Ze)(S:List WF):Prop:=S.length<=400000/\(∀p,p∈S->Y6 p=true)/\∀p,Y6 p=true->∃a,a∈S/\∀r,r∈R->V2 r a=V2 r p
def XU (S:List WF):List j9:=S.flatMap fun p=>[Z p.pan,I V p.mcc,I V p.am,I V p.cur]
def Qr (R:List Ze)(p:WF):Option Nat:=YG (Zv R) (YY R p (Zy p.pan)) R.length
theorem Oz {rk:Nat->Nat}{f g:Nat->Bool}:∀n,(∀i,i<n->f i=g i)->YG rk f n=YG rk g n
 |0,_=>rfl
 |n+1,h=>by
  unfold YG;rw[Oz n fun i hi=>h i (by omega),h n (by omega)]
theorem xx.best {R S}(h:xx R S)(k):(∃p,p∈S/\Qr R p=J k)↔∃p,Y6 p=true/\Qr R p=J k:=by
 refine⟨fun⟨p,a,e⟩=>⟨p,h.2.1 p a,e⟩,fun⟨p,a,e⟩=>?_⟩;obtain⟨b,c,d⟩:=h.2.2 p a;refine⟨b,c,?_⟩;rw[<-e];unfold Qr
 refine Oz _ fun i hi=>?_
 rw[Tq R b i _ (gE hi),Tq R p i _ (gE hi)];exact d _ (b0 hi)
theorem zr {w:j2}{b g x}(a:b<=g)(h:w.heap[g]?=J (L #[I V (x:Nat)] 3)):w.ownsRow b 3 1 (D (J ⟨g,0,Y⟩) 1 1) 1 (Zg [x]):=
 ⟨rfl,.inr ⟨g,1,_,rfl,a,h,G _,by unfold maxLen;simp,by simp,by simp[Zg]⟩⟩
theorem zt {w:j2}{b g}(a:b<=g)(h:w.heap[g]?=J (L #[] 3)):w.ownsRow b 3 1 (D (J ⟨g,0,Y⟩) 0 0) 0 (Zg []):=
 ⟨rfl,.inr ⟨g,0,_,rfl,a,h,G _,by unfold maxLen;simp,by simp,by simp[Zg]⟩⟩
theorem Pf {α}{R:List α}{i r x}(h:R[i]?=J r)(a:x∈R.take (i+1)):x∈R.take i\/x=r:=by
 rw[j4,h]at a
 simpa using a
theorem F4 {w W:j2}{o a}{g:Nat}(h:w.alloc o=W)(b:w.heap[g]?=J a):W.heap[g]?=J a:=(F2 (S:=fun _=>False) h).whole b
theorem uQ {w W:j2}{o}(h:w.alloc o=W):W.heap.size=w.heap.size+1:=by rw[<-h];simp
def se (R:List Ze)(b c d e:List Nat)(n:Nat):Prop:=
 Nd b 999999 (1+2*n) (fun x=>x=0\/∃r,r∈R/\(x=sL r\/x=sH r))/\Nd c 9999 (4*n) (fun x=>∃r,r∈R/\x∈r.mcc)/\Nd d 999 (4*n) (fun x=>∃r,r∈R/\x∈r.cur)/\Nd e 1000000000 (1+2*n) fun x=>x=0\/∃r,r∈R/\∃a,r.am=J a/\(x=a.1\/x=a.2+1)
structure zu (w:j2)(X:Nat)(r:Ze)(ma:Option Addr)(mc:Nat)(ca:Option Addr)(cc:Nat)(pa:Option Addr)(pc:Nat)(W:j2)(ps:List (j9×List Nat)):Prop where
 rs:Rs W w.heap.size ps
 bx:W.heap[X]?=J (L (uP r ma mc ca cc pa pc).toArray 170)
 fr:F0 w W
theorem zu.rot {w W X r a b c d e f p g}(h:zu w X r a b c d e f W (p::g)):zu w X r a b c d e f W (g++[p]):=⟨h.rs.rot,h.bx,h.fr⟩
theorem zu.with {w W X r b c d f g i v l a}(h:zu w X r b c d f g i W ((v,l)::a)){n m N Q}(j:Nd l m N Q)(q:N<=4000)(s:n<=10000000000)(M:Int)(t:M=(m:Nat)):
  j0 z3 182 #[v,I V (n:Nat),I V M] W fun e w'=>∃v' l',e=z8 v'/\zu w X r b c d f g i w' ((v',l')::a)/\Nd l' m (N+1) fun y=>Q y\/y=n:=by
 refine(C6 W _ v l a n m M t h.rs (q0 j.2.1 q) s h.fr.size).mono ?_;rintro _ w' ⟨v',l',rfl,u,x,o⟩;have p:=h.rs.1 _ (z5 ..);exact⟨v',l',rfl,⟨u,o.whole h.bx (oN p h.bx (by decide)),h.fr.monoNew o fun k z=>U (p.lt k z).1⟩,j.more x⟩
theorem zu.cells {w W X r a b c d e f g}(h:zu w X r a b c d e f W g):W.cell? ⟨X,2,Y⟩=J (I V (r.digits:Nat))/\W.cell? ⟨X,3,Y⟩=J (I V (r.lo:Nat))/\W.cell? ⟨X,4,Y⟩=J (I V (r.hi:Nat))/\W.cell? ⟨X,5,Y⟩=J (D a r.mcc.length b)/\W.cell? ⟨X,6,Y⟩=J (D c r.cur.length d)/\W.cell? ⟨X,7,Y⟩=J (q9 r.am.isSome)/\W.cell? ⟨X,8,Y⟩=J (I V ((r.am.getD (0,0)).1:Nat))/\W.cell? ⟨X,9,Y⟩=J (I V ((r.am.getD (0,0)).2:Nat)):=
 ⟨Zc h.bx 2,Zc h.bx 3,Zc h.bx 4,Zc h.bx 5,Zc h.bx 6,Zc h.bx 7,Zc h.bx 8,Zc h.bx 9⟩
def ur (x k:Nat):UInt8:=UInt8.ofNat (48+x/10^k % 10)
def C7 (x:Nat):Nat->List UInt8
 |0=>[]
 |k+1=>ur x k::C7 x k
theorem Nb (x:Nat):∀j,(C7 x j).length=j
 |0=>rfl
 |j+1=>by rw[C7,List.length_cons,Nb x j]
def LM (x:Nat):ByteArray:=⟨(C7 x 6).toArray⟩
theorem JN (x k):(ur x k).toNat=48+x/10^k % 10:=by
 have:x/10^k % 10<10:=Nat.mod_lt _ (by decide);rw[ur,UInt8.toNat_ofNat'];omega
theorem Mz {x}(h:x<=999999):XT (LM x)=true/\Zy (LM x)=x:=by
 refine⟨?_,?_⟩
 ·simp only[XT,LM,C7,List.all_cons,List.all_nil,JN,ByteArray.size,z7,decide_eq_true_eq]
  simp;omega
 simp only[Zy,LM,C7,Yv,List.take_succ_cons,List.take_nil,List.foldl_cons,List.foldl_nil,JN]
 simp;omega
def SI (x y z u:Nat):WF:=⟨LM x,(y:Nat),(z:Nat),(u:Nat)⟩
structure Kx (w:j2)(ps:List (j9×List Nat))(v:j9)(S:List WF)(n:Nat)(W:j2):Prop where
 rs:Rs W w.heap.size ps
 ou:W.ownsRow w.heap.size 35 4 v S.length (XU S)
 fr:F0 w W
 le:S.length<=n
theorem Kx.keep {w W b c v S n}(h:Kx w c v S n W)(a:F0 W b):Kx w c v S n b:=⟨h.rs.fr a,oF h.ou a,h.fr.trans a,h.le⟩
theorem Kx.re {w W a v S S' n b}(h:Kx w a v S n W)(e:S=S')(c:n<=b):Kx w a v S' b W:=by subst e;exact⟨h.rs,h.ou,h.fr,q0 h.le c⟩
theorem Kx.at {w W b v S n}(h:Kx w b v S n W){a c l}(d:(C a l.length c,l)∈b){k x}(e:l[k]?=J x):∃g,a=J ⟨g,0,Y⟩/\W.cell? ⟨g,k,Y⟩=J (I V (x:Nat)):=Zu.of (h.rs.1 _ d) k x e
theorem Kx.get {w W a v S n}(h:Kx w a v S n W){g c l}(b:(C (J ⟨g,0,Y⟩) l.length c,l)∈a){k x}(d:l[k]?=J x):W.cell? ⟨g,k,Y⟩=J (I V (x:Nat)):=by
 obtain⟨f,e,h⟩:=h.at b d;injection e with e;injection e with e;subst e;exact h
theorem Kx.more {w W w2 d v S n g m c p o}(h:Kx w d v S n W)(j:(W.alloc o).grownBy w2 v.ownBlock)(l:w2.ownsRow w.heap.size 35 4 (D (J ⟨g,0,Y⟩) m c) (S.length+1) (XU S++[Z p.pan,I V p.mcc,I V p.am,I V p.cur])):Kx w d (D (J ⟨g,0,Y⟩) m c) (S++[p]) (n+1) w2:=by
 have f:=((Fr.refl (fun k=>v.ownBlock=J k) W).alloc o).grown j (fun k a=>B a);refine⟨⟨fun q i=>oA (h.rs.1 q i) f (fun k a e=>?_),h.rs.2⟩,?_,h.fr.monoNew f fun k a=>U (h.ou.lt k a).1,by have:=h.le;simp;omega⟩
 ·rcases WL (h.rs.1 q i) h.ou (by decide)with b|b
  ·rw[b]at a;cases a
  exact b (a.trans e.symm)
 rw[lA,XU,k6]
 simpa[XU]using l
theorem PV {α β}{l:List α}{k x}(h:l[k]?=J x)(f:α->List β):(l.take (k+1)).flatMap f=(l.take k).flatMap f++f x:=by
 rw[j4,h,k6];simp
theorem zq.st {R f g i j}(h:zq R f g i j)(n:(f.flatMap fun x=>g.flatMap fun y=>i.flatMap fun z=>j.map (SI x y z)).length<=400000):xx R (f.flatMap fun x=>g.flatMap fun y=>i.flatMap fun z=>j.map (SI x y z)):=by
 obtain⟨_,k,_⟩:=h.b;obtain⟨_,o,_⟩:=h.a;obtain⟨_,_,q,_⟩:=h.m;obtain⟨_,_,r,_⟩:=h.c;refine⟨n,fun p e=>?_,fun p e=>?_⟩
 ·simp only[b4,f4]at e
  obtain⟨x,s,y,t,z,v,u,w,rfl⟩:=e;have:=q y t;have:=o z v;have:=r u w;rw[Xw,SI,(Mz (k x s)).1];simp[V1];omega
 obtain⟨b,m,a,c,l,A,B,C,d⟩:=h.cover e
 exact⟨SI b m a c,by simp only[b4,f4];exact⟨b,l,m,A,a,B,c,C,rfl⟩,d _ (Mz (k b l)).2 rfl rfl rfl⟩
theorem C8 (m:Nat)(h:m<10):f8.wrap (48+(m:Int))=(48+(m:Int)):=by
 have:m=0\/m=1\/m=2\/m=3\/m=4\/m=5\/m=6\/m=7\/m=8\/m=9:=by omega
 rcases this with rfl|rfl|rfl|rfl|rfl|rfl|rfl|rfl|rfl|rfl<;>decide
theorem RT:(z3.info? 35).map (fun i=>(i.zero,i.size,i.bytes))=J (J (p0 #[Z z6,I V 0,I V 0,I V 0]),4,40):=by kernel_rfl
def Hm (l:List Nat)(o:Nat):Nat:=(l.filter fun x=>decide (o<=x)).length
theorem Hn (x r o):Hm (x::r) o=(if o<=x then 1 else 0)+Hm r o:=by
 unfold Hm;rw[List.filter_cons]
 split<;>simp_all<;>omega
theorem zw (l o):Hm l (o+1)<=Hm l o/\(o∈l->Hm l (o+1)<Hm l o):=by
 induction l with
 |nil=>exact⟨G _,fun h=>by cases h⟩
 |cons x r a=>
  obtain⟨c,b⟩:=a;rw[Hn,Hn];refine⟨by split<;>split<;>omega,fun h=>?_⟩;rcases j3.1 h with rfl|h
  ·rw[if_pos (G _),if_neg (by omega)];omega
  have:=b h;split<;>split<;>omega
theorem Ho (w q rts R)(h:Sm w q rts R)(hb:Yy rts R)(ha:∀r,r∈R->r.mcc.length<=4/\r.cur.length<=4):
  j0 z3 141 #[g9 (J ⟨q,0,Y⟩)] w fun e w'=>(∃v S,e=z8 v/\w'.ownsRow w.heap.size 35 4 v S.length (XU S)/\xx R S)/\F0 w w':=by
 have D1:=Za hb;have HA:=Za ha;have E1:=hb.l8;obtain⟨ii,I0,J0,K0,L0⟩:=info_parts Y3;obtain⟨ij,F1,G1,H1,I1⟩:=info_parts RT;obtain⟨la,lc,M0,h3⟩:=h.c2;have H3:=Za h3;obtain⟨N,hN⟩:∃N,R.length=N:=⟨_,rfl⟩;have HN:=Za hN;rw[hN]at E1 M0;have H2:=Za M0;go_enter Tryz.func141,Tryz.ntmps141;go_wp2_with fail;generalize hA:w.alloc _=A1;generalize hB:A1.alloc _=A2;generalize hC:A2.alloc _=A3;generalize hD:A3.alloc _=A4;have s1:=uQ hA;have s2:=uQ hB;have s3:=uQ hC
 have J1:O (Rs A4 w.heap.size [(D (J ⟨w.heap.size,0,Y⟩) 1 1,[0]),(D (J ⟨w.heap.size+1,0,Y⟩) 0 0,[]),(D (J ⟨w.heap.size+1+1,0,Y⟩) 0 0,[]),(D (J ⟨w.heap.size+1+1+1,0,Y⟩) 1 1,[0])]):=by
  have e2:=B1 hB;have e3:=B1 hC;have e4:=B1 hD;rw[s1]at e2;rw[s2,s1]at e3;rw[s3,s2,s1]at e4;refine⟨fun p hp=>?_,by simp[b9];omega⟩;simp only[j3,List.not_mem_nil,or_false]at hp;rcases hp with rfl|rfl|rfl|rfl
  ·exact zr (G _) (F4 hD (F4 hC (F4 hB (B1 hA))))
  ·exact zt (by omega) (F4 hD (F4 hC e2))
  ·exact zt (by omega) (F4 hD e3)
  exact zr (by omega) e4
 have K1:O (F0 w A4):=(((F2 hA).trans (F2 hB)).trans (F2 hC)).trans (F2 hD)
 go_loopg [3,4,5,6,7] N (fun m b1 m1 c1 a1 iv wr=>∃i Q l2 T s,i<=N/\m=N-i/\iv=I V (i:Nat)/\O (Rs wr w.heap.size [(b1,Q),(m1,l2),(c1,T),(a1,s)])/\O (se (R.take i) Q l2 T s i)/\O (F0 w wr))
 case atStart=>exact⟨0,[0],[],[],[0],by omega,rfl,rfl,J1,by simp[se,Nd,Za],K1⟩
 obtain⟨i,Q,l2,T,s,hi,rfl,rfl,HR,HS,E⟩:=hrel;have F:=E.o.get H2.o;by_cases k3:i<N
 ·have L1:(i:Int)<(N:Int):=by omega
  obtain⟨r,hr⟩:∃r,R[i]?=J r:=⟨_,gE (by have:=HN.o;omega)⟩;obtain⟨g,ma,mc,ca,cc,pa,pc,rfl,hc,hm,hu,_⟩:=H3.o i r hr;have a0:=Za (D1.o.rl r (mG hr));have N0:=Za (HA.o r (mG hr));have m0:=Za (fun x=>@Pf _ R i r x hr);have dr:=a0.o.bn.1
  have r3:r.lo<=1000000000:=by have:=a0.o.lo.1;omega
  have t3:r.hi<=1000000000:=by have:=a0.o.hi.1;omega
  obtain⟨v0,v1,v2,v3,v4,v5,v6,v7,v8,v9,x3,B3,C3⟩:=vC fun j v e=>E.o.get (hc j v e)
  have O0:=Za (And.intro hm hu);go_upto_region 9 with fail;generalize hW:wr.alloc _=W1 at*;obtain⟨X,hX⟩:∃X,wr.heap.size=X:=⟨_,rfl⟩;have P0:O (zu w X r ma mc ca cc pa pc W1 [(u3,Q),(u4,l2),(u5,T),(u6,s)]):=⟨HR.o.fr (F2 (S:=fun _=>False) hW),hX▸B1 hW,E.o.trans (F2 hW)⟩;rw[hX];obtain⟨y2,y3,y4,y5,y6,y7,y8,y9⟩:=P0.o.cells;obtain⟨n1,n2,n3,n4⟩:=HS.o;have Q0:=My a0.o;go_wp2_with fail;refine Dt (Rr r.lo r.digits (sL r) W1 dr rfl Q0.1) ?_;go_wp2_with fail;refine(P0.o.with n1 (by omega) (n:=sL r) (by omega) _ rfl).mono ?_;rintro _ w2 ⟨b2,D3,rfl,M1,O1⟩;have R0:=Za M1;obtain⟨y2,y3,y4,y5,y6,y7,y8,y9⟩:=R0.o.cells;go_wp2_with fail;refine Dt (Rr (r.hi+1) r.digits (sH r) w2 dr rfl Q0.2) ?_;go_wp2_with fail;refine(R0.o.with O1 (by omega) (n:=sH r) (by omega) _ rfl).mono ?_;rintro _ w3 ⟨b3,l5,rfl,P1,Q1⟩;have S0:=Za P1.rot
  have HB:=Za (Q1.weak (show 1+2*i+1+1<=1+2*(i+1) by omega) (Q':=fun x=>x=0\/∃r,r∈R.take (i+1)/\(x=sL r\/x=sH r)) fun x hx=>by
   rcases hx with h|⟨r',h1,F⟩
   ·exact B (B (B h))
   rcases m0.o r' h1 with h|rfl
   ·exact B (B (U ⟨r',h,F⟩))
   exact F.elim (fun h=>B (U h)) U)
  have N4:=Za n2;have N5:=Za n3;have N6:=Za n4;obtain⟨y2,y3,y4,y5,y6,y7,y8,y9⟩:=S0.o.cells;obtain⟨K,hK⟩:∃K,r.mcc.length=K:=⟨_,rfl⟩;have c0:=Za hK
  have R1:K<=4:=by have:=N0.o;omega
  rw[hK]at y5;go_wp2_with fail
  go_loopg [4,9] K (fun m mv kv wx=>∃k l',k<=K/\m=K-k/\kv=I V (k:Nat)/\O (zu w X r ma mc ca cc pa pc wx ((mv,l')::[(u5,T),(u6,s),(b3,l5)]))/\O (Nd l' 9999 (4*i+k) fun x=>(∃r,r∈R.take i/\x∈r.mcc)\/x∈r.mcc.take k))
  case atStart=>exact⟨0,_,by omega,rfl,rfl,S0,N4.o.weak (by omega) (by simp)⟩
  obtain⟨k,l',hk,rfl,rfl,HK,HD⟩:=hrel;generalize wr=W at*;obtain⟨y2,y3,y4,y5,y6,y7,y8,y9⟩:=HK.o.cells;rw[c0.o]at y5;by_cases T0:k<K
  ·have n0:(k:Int)<(K:Int):=by omega
   obtain⟨x,hx⟩:∃x,r.mcc[k]?=J x:=⟨_,gE (by have:=c0.o;omega)⟩;obtain⟨gm,em,S1⟩:=(O0.o.1.fr HK.o.fr) k x hx;subst em;have T1:=a0.o.mc.2 x (mG hx);go_wp2_with fail;refine(HK.o.with HD.o (by omega) (n:=x) (by omega) _ rfl).mono ?_;rintro _ w3 ⟨v',V1,rfl,h1,F⟩;have y0:=Za h1
   have z0:=Za (F.weak (G _) (Q':=fun y=>(∃r,r∈R.take i/\y∈r.mcc)\/y∈r.mcc.take (k+1)) fun y hy=>by
    rcases hy with h|h
    ·exact B (B h)
    rcases Pf hx h with h|h
    ·exact B (U h)
    exact U h)
   go_wp2_with fail;go_roundg (K-(k+1))
   case measure=>omega
   exact⟨k+1,_,by omega,rfl,by go_num,y0,z0⟩
  have n0:¬(k:Int)<(K:Int):=by omega
  obtain rfl:k=K:=by omega
  have HM:=Za (HD.o.weak (show 4*i+k<=4*(i+1) by omega) (Q':=fun x=>∃r,r∈R.take (i+1)/\x∈r.mcc) fun x ⟨r',h1,F⟩=>by
   rcases m0.o r' h1 with h|rfl
   ·exact B ⟨r',h,F⟩
   exact U (by rw[<-c0.o,b5];exact F))
  have X1:=Za HK.o.rot;obtain⟨lm,rfl⟩:∃lm,lm=l':=⟨_,rfl⟩;obtain⟨K,hK⟩:∃K,r.cur.length=K:=⟨_,rfl⟩;have c0:=Za hK
  have R1:K<=4:=by have:=N0.o;omega
  rw[hK]at y6;go_wp2_with fail
  go_loopg [5,10] K (fun m mv kv wx=>∃k l',k<=K/\m=K-k/\kv=I V (k:Nat)/\O (zu w X r ma mc ca cc pa pc wx ((mv,l')::[(u6,s),(b3,l5),(u4,lm)]))/\O (Nd l' 999 (4*i+k) fun x=>(∃r,r∈R.take i/\x∈r.cur)\/x∈r.cur.take k))
  case atStart=>exact⟨0,_,by omega,rfl,rfl,X1,N5.o.weak (by omega) (by simp)⟩
  obtain⟨k,l',hk,rfl,rfl,HK,HD⟩:=hrel;generalize wr=W at*;obtain⟨y2,y3,y4,y5,y6,y7,y8,y9⟩:=HK.o.cells;rw[c0.o]at y6;by_cases T0:k<K
  ·have n0:(k:Int)<(K:Int):=by omega
   obtain⟨x,hx⟩:∃x,r.cur[k]?=J x:=⟨_,gE (by have:=c0.o;omega)⟩;obtain⟨gm,em,S1⟩:=(O0.o.2.fr HK.o.fr) k x hx;subst em;have T1:=a0.o.cu.2 x (mG hx);go_wp2_with fail;refine(HK.o.with HD.o (by omega) (n:=x) (by omega) _ rfl).mono ?_;rintro _ w3 ⟨v',V1,rfl,h1,F⟩;have y0:=Za h1
   have z0:=Za (F.weak (G _) (Q':=fun y=>(∃r,r∈R.take i/\y∈r.cur)\/y∈r.cur.take (k+1)) fun y hy=>by
    rcases hy with h|h
    ·exact B (B h)
    rcases Pf hx h with h|h
    ·exact B (U h)
    exact U h)
   go_wp2_with fail;go_roundg (K-(k+1))
   case measure=>omega
   exact⟨k+1,_,by omega,rfl,by go_num,y0,z0⟩
  have n0:¬(k:Int)<(K:Int):=by omega
  obtain rfl:k=K:=by omega
  have HC:=Za (HD.o.weak (show 4*i+k<=4*(i+1) by omega) (Q':=fun x=>∃r,r∈R.take (i+1)/\x∈r.cur) fun x ⟨r',h1,F⟩=>by
   rcases m0.o r' h1 with h|rfl
   ·exact B ⟨r',h,F⟩
   exact U (by rw[<-c0.o,b5];exact F))
  have V0:=Za HK.o.rot
  cases ha:r.am with
  |none=>
   rw[ha]at y7
   have A0:=Za (N6.o.weak (show 1+2*i<=1+2*(i+1) by omega) (Q':=fun x=>x=0\/∃r,r∈R.take (i+1)/\∃ab,r.am=J ab/\(x=ab.1\/x=ab.2+1)) fun x hx=>by
    rcases hx with h|⟨r',h1,ab,F,h3⟩
    ·exact B h
    rcases m0.o r' h1 with h|rfl
    ·exact U ⟨r',h,ab,F,h3⟩
    rw[ha]at F;cases F)
   have d0:=Za V0.o.rot;go_wp2_with fail;go_roundg (N-(i+1))
   case measure=>omega
   exact⟨i+1,_,_,_,_,by omega,rfl,by go_num,d0.o.rs,⟨HB.o,HM.o,HC.o,A0.o⟩,d0.o.fr⟩
  |some ab=>
   rw[ha]at y7 y8 y9;have E3:=a0.o.am ab ha;simp only[Option.getD_some]at y8 y9;go_wp2_with fail;refine(V0.o.with N6.o (by omega) (n:=ab.1) (by omega) _ rfl).mono ?_;rintro _ w5 ⟨a5,l6,rfl,Y1,Z1⟩;have d0:=Za Y1;obtain⟨y2,y3,y4,y5,y6,y7,y8,y9⟩:=d0.o.cells;rw[ha]at y9;simp only[Option.getD_some]at y9;go_wp2_with fail;refine(d0.o.with Z1 (by omega) (n:=ab.2+1) (by omega) _ rfl).mono ?_;rintro _ w6 ⟨a6,l7,rfl,a2,d2⟩;have W0:=Za a2.rot
   have A0:=Za (d2.weak (show 1+2*i+1+1<=1+2*(i+1) by omega) (Q':=fun x=>x=0\/∃r,r∈R.take (i+1)/\∃ab,r.am=J ab/\(x=ab.1\/x=ab.2+1)) fun x hx=>by
    rcases hx with h|⟨r',h1,f2,F,h3⟩
    ·exact B (B (B h))
    rcases m0.o r' h1 with h|rfl
    ·exact B (B (U ⟨r',h,f2,F,h3⟩))
    rw[ha]at F
    injection F with F;subst F
    exact h3.elim (fun h=>B (U h)) U)
   go_wp2_with fail;go_roundg (N-(i+1))
   case measure=>omega
   exact⟨i+1,_,_,_,_,by omega,rfl,by go_num,W0.o.rs,⟨HB.o,HM.o,HC.o,A0.o⟩,W0.o.fr⟩
 have L1:¬(i:Int)<(N:Int):=by omega
 obtain rfl:i=N:=by omega
 obtain⟨n1,n2,n3,n4⟩:=HS.o;rw[z4 (Nat.le_of_eq HN.o)]at n1 n2 n3 n4;have N1:=Za n1;have N2:=Za n2;have N3:=Za n3;have N4:=Za n4;have F3:=n2.2.1;have G3:=n3.2.1;have o0:=Za HR.o.rot;obtain⟨va,vc,ev⟩:=oL (o0.o.1 _ (z5 ..))
 dsimp only at ev
 subst ev;have HO:=Za (o0.o.1 _ (z5 ..))
 dsimp only at HO
 have e0:=Za (fun o:Nat=>Rq _ va vc l2 o (Zu.of HO.o) (by omega));obtain⟨n,hn⟩:∃n,l2.length=n:=⟨_,rfl⟩;have f0:=Za hn;rw[hn]at e0 HO o0 ⊢
 have p0:n<=32:=by omega
 go_wp2_with fail
 go_loopg [11] (Hm l2 0) (fun m ov wx=>∃o:Nat,ov=I V (o:Nat)/\m=Hm l2 o/\wr=wx/\O (o+Hm l2 o<=n))
 case atStart=>exact⟨0,rfl,rfl,rfl,by show _<=_;rw[<-f0.o];unfold Hm;rw[f5];exact j8 ..⟩
 obtain⟨o,rfl,rfl,rfl,HG⟩:=hrel;have ho:=HG.o
 have r0:o<=32:=by omega
 go_wp2_with fail;refine Dt (e0.o o) ?_
 cases g0:Uo l2 (o:Int)with
 |true=>
  have h1:=(zw l2 o).2 ((V3 _ _).1 g0);go_wp2_with fail;go_roundg (Hm l2 (o+1))
  case measure=>exact h1
  exact⟨o+1,by go_num,rfl,rfl,by have:=HG.o;show _<=_;omega⟩
 |false=>
  have s0:O (o∉l2):=fun h=>by rw[(V3 _ _).2 h]at g0;cases g0
  go_wp2_with (at_builtin;refine wpList_append_lies _ rfl (.tmp 99) (.tmp 101) 25 rfl w.heap.size 3 ii _ 1 8 Tryz.underlying25 I0 J0 K0 L0 rfl (by decide) (D va n vc) n (Zg l2) rfl ?p1 ⟨wr.heap.size,0,Y⟩ 1 1 [I V (o:Nat)] rfl rfl ?p2 ?p3 (by decide) ?p4 ?p5 ?p6 _ rfl ?p7)
  case p1=>exact HO.o.alloc _
  case p2=>exact q8 (aN wr (L #[I V (o:Nat)] 3))
  case p3=>simp[j1]
  case p4=>unfold maxLen;omega
  case p5=>omega
  case p6=>have:=E.o.size;simp;omega
  intro gp X0 wp H A i0 _;have h0:=Za (o0.o.grow (Zt.alloc _) A (l':=l2++[o]) (by rw[XZ,lA,f0.o];exact H) (i0.imp id (by omega)));have B0:=Za (E.o.monoNew h0.o.2 fun k hk=>U (HO.o.lt k hk).1);have k0:=Za h0.o.1.rot;have Y0:O (∃m,m∈l2++[o]/\m∉l2):=⟨o,by simp,s0.o⟩;have w0:=Za (N2.o.more (U ⟨rfl,q0 r0 (by decide)⟩));obtain⟨M,Z0⟩:∃l,l2++[o]=l:=⟨_,rfl⟩;rw[Z0]at k0 Y0 w0;generalize C (J ⟨gp,0,Y⟩) (n+1) X0=vp at*;clear H A i0 HO h0 s0 o0 e0 HG Z0 E f0 p0;have E:=B0;obtain⟨va,vc,ev⟩:=oL (k0.o.1 _ (z5 ..))
  dsimp only at ev
  subst ev;have HO:=Za (k0.o.1 _ (z5 ..))
  dsimp only at HO
  have e0:=Za (fun o:Nat=>Rq _ va vc T o (Zu.of HO.o) (by omega));obtain⟨n,hn⟩:∃n,T.length=n:=⟨_,rfl⟩;have f0:=Za hn;rw[hn]at e0 HO k0 ⊢
  have p0:n<=32:=by omega
  go_wp2_with fail
  go_loopg [11] (Hm T 0) (fun m ov wx=>∃o:Nat,ov=I V (o:Nat)/\m=Hm T o/\wp=wx/\O (o+Hm T o<=n))
  case atStart=>exact⟨0,rfl,rfl,rfl,by show _<=_;rw[<-f0.o];unfold Hm;rw[f5];exact j8 ..⟩
  obtain⟨o,rfl,rfl,rfl,HG⟩:=hrel;have ho:=HG.o
  have r0:o<=32:=by omega
  go_wp2_with fail;refine Dt (e0.o o) ?_
  cases g0:Uo T (o:Int)with
  |true=>
   have h1:=(zw T o).2 ((V3 _ _).1 g0);go_wp2_with fail;go_roundg (Hm T (o+1))
   case measure=>exact h1
   exact⟨o+1,by go_num,rfl,rfl,by have:=HG.o;show _<=_;omega⟩
  |false=>
   have s0:O (o∉T):=fun h=>by rw[(V3 _ _).2 h]at g0;cases g0
   go_wp2_with (at_builtin;refine wpList_append_lies _ rfl (.tmp 108) (.tmp 110) 25 rfl w.heap.size 3 ii _ 1 8 Tryz.underlying25 I0 J0 K0 L0 rfl (by decide) (D va n vc) n (Zg T) rfl ?q1 ⟨wp.heap.size,0,Y⟩ 1 1 [I V (o:Nat)] rfl rfl ?q2 ?q3 (by decide) ?q4 ?q5 ?q6 _ rfl ?q7)
   case q1=>exact HO.o.alloc _
   case q2=>exact q8 (aN wp (L #[I V (o:Nat)] 3))
   case q3=>simp[j1]
   case q4=>unfold maxLen;omega
   case q5=>omega
   case q6=>have:=E.o.size;simp;omega
   intro gq d1 wq H A i0 _;have h0:=Za (k0.o.grow (Zt.alloc _) A (l':=T++[o]) (by rw[XZ,lA,f0.o];exact H) (i0.imp id (by omega)));have B0:=Za (E.o.monoNew h0.o.2 fun k hk=>U (HO.o.lt k hk).1);have l0:=Za h0.o.1.rot;have e1:O (∃m,m∈T++[o]/\m∉T):=⟨o,by simp,s0.o⟩;have x0:=Za (N3.o.more (U ⟨rfl,q0 r0 (by decide)⟩));obtain⟨t,g1⟩:∃l,T++[o]=l:=⟨_,rfl⟩;rw[g1]at l0 e1 x0;generalize C (J ⟨gq,0,Y⟩) (n+1) d1=vq at*;clear H A i0 HO h0 s0 k0 e0 HG g1 E f0 p0;have E:=B0;have I3:=N1.o.2.1;have J3:=N4.o.2.1;have K3:=w0.o.2.1;have L3:=x0.o.2.1;obtain⟨a3,c3,e3⟩:=oL (l0.o.1 (u3,Q) (by simp));obtain⟨a4,c4,e4⟩:=oL (l0.o.1 (vp,M) (by simp));obtain⟨a5,c5,e5⟩:=oL (l0.o.1 (vq,t) (by simp));obtain⟨a6,c6,e6⟩:=oL (l0.o.1 (u6,s) (by simp))
   dsimp only at e3 e4 e5 e6
   subst e3 e4 e5 e6;obtain⟨ps,t0⟩:∃ps,[(C a6 s.length c6,s),(C a3 Q.length c3,Q),(C a4 M.length c4,M),(C a5 t.length c5,t)]=ps:=⟨_,rfl⟩;have i2:O (Kx w ps (D Y 0 0) [] 0 wq):=⟨t0▸l0.o,oZ _ _ _ _,E.o,G _⟩;have j2:=Za N1.o.1
   have m1:O ((C a3 Q.length c3,Q)∈ps):=by show _∈_;rw[<-t0];simp
   have m2:O ((C a4 M.length c4,M)∈ps):=by show _∈_;rw[<-t0];simp
   have m3:O ((C a6 s.length c6,s)∈ps):=by show _∈_;rw[<-t0];simp
   have m4:O ((C a5 t.length c5,t)∈ps):=by show _∈_;rw[<-t0];simp
   have k2:O (zq R Q M s t):=by
    obtain⟨x,x1,x2⟩:=Y0.o;obtain⟨y,y1,y2⟩:=e1.o;exact⟨⟨_,N1.o⟩,⟨_,N4.o⟩,⟨⟨x,x1,fun r hr h=>x2 (N2.o.2.2 x ⟨r,hr,h⟩ (w0.o.1 x x1))⟩,_,w0.o.weak (G _) fun _ h=>B h⟩,⟨y,y1,fun r hr h=>y2 (N3.o.2.2 y ⟨r,hr,h⟩ (x0.o.1 y y1))⟩,_,x0.o.weak (G _) fun _ h=>B h⟩
   go_wp2_with fail
   go_loopg [12,13] Q.length (fun m ov av wx=>∃a,a<=Q.length/\m=Q.length-a/\av=I V (a:Nat)/\O (Kx w ps ov ((Q.take a).flatMap fun x=>M.flatMap fun y=>s.flatMap fun z=>t.map (SI x y z)) (((a*33+0)*17+0)*33+0) wx))
   case atStart=>exact⟨0,by omega,rfl,rfl,i2⟩
   obtain⟨a,ha,rfl,rfl,HU⟩:=hrel;generalize wr=W at*;by_cases i1:a<Q.length
   ·have r2:(a:Int)<(Q.length:Int):=by omega
    have hx:=gE i1;have t2:=Za (fun f=>@PV _ WF _ _ _ hx f);obtain⟨g,eg,hc⟩:=HU.o.at m1.o hx;subst eg;have z2:=j2.o _ (b0 i1);generalize Q[a]=x at*;generalize B2:(Q.take a).flatMap (fun x=>M.flatMap fun y=>s.flatMap fun z=>t.map (SI x y z))=S6 at*;have d0:=Za B2;go_wp2_with fail
    go_loopg [14,15,16] 6 (fun m pv nv kv wx=>∃k,k<=6/\m=6-k/\pv=Z ⟨(C7 x k).toArray⟩/\nv=I V ((x/10^k:Nat):Int)/\kv=I V (k:Nat)/\O (Kx w ps u12 S6 (((a*33+0)*17+0)*33+0) wx))
    case atStart=>exact⟨0,by omega,rfl,rfl,by simp,rfl,HU⟩
    obtain⟨k,hk,rfl,rfl,rfl,rfl,HK⟩:=hrel;by_cases T0:k<6
    ·have n0:(k:Int)<6:=by omega
     have M3:x/10^k<=999999:=q0 (Nat.div_le_self _ _) z2
     have C2:x/10^k/10=x/10^(k+1):=by rw[Nat.div_div_eq_div_mul,f1]
     have O3:=JN x k;have D2:O ((⟨#[ur x k]⟩:ByteArray)++⟨(C7 x k).toArray⟩=⟨(C7 x (k+1)).toArray⟩):=ByteArray.ext (by simp[C7])
     have P3:(⟨(C7 x k).toArray⟩:ByteArray).size<=6:=by
      show(C7 x k).toArray.size<=6
      rw[g7,Nb];omega
     have C0:=Za C2;generalize(⟨(C7 x k).toArray⟩:ByteArray)=P at*;generalize ur x k=b8 at*;generalize x/10^k=c at*;obtain⟨m,hm⟩:∃m,c % 10=m:=⟨_,rfl⟩
     have k1:m<10:=by omega
     have Q3:(c:Int).tmod 10=(m:Int):=by rw[Int.tmod_eq_emod_of_nonneg (by omega)];omega
     have E2:(b8.toNat:Int)=48+(m:Int):=by omega
     have R3:=C8 m k1;have G2:=Za (HK.o.keep (Zt.alloc (L #[I .u8 (48+(m:Int))] 5)))
     have S3:(convert 50 9 (D (J ⟨wr.heap.size,0,Y⟩) 1 1)).run z3 (wr.alloc (L #[I .u8 (48+(m:Int))] 5))=.ok (Z ⟨#[b8]⟩) (wr.alloc (L #[I .u8 (48+(m:Int))] 5)):=by
      have e:=run_convert_bytes_back (P:=z3) (wr.alloc (L #[I .u8 (48+(m:Int))] 5)) 50 9 5 ⟨wr.heap.size,0,Y⟩ 1 [b8] Tryz.underlying50 Tryz.underlying5 Tryz.underlying9 (by
       intro j hj
       have:j=0:=by simpa using hj
       subst this;rw[Yd]
       exact bC (heap_alloc_new wr _) 0 _ (by simp[E2]))
      simpa using e
     go_wp2_with fail;go_roundg (6-(k+1))
     case measure=>omega
     exact⟨k+1,by omega,rfl,by rw[<-D2.o],by rw[<-C0.o];congr 1,by go_num,G2⟩
    have n0:¬(k:Int)<6:=by omega
    obtain rfl:k=6:=by omega
    have I2:=Za (HK.o.re (S':=S6++(M.take 0).flatMap fun y=>s.flatMap fun z=>t.map (SI x y z)) (by simp) (G _));go_wp2_with fail
    go_loopg [12,17] M.length (fun m ov av wx=>∃b,b<=M.length/\m=M.length-b/\av=I V (b:Nat)/\O (Kx w ps ov (S6++(M.take b).flatMap fun y=>s.flatMap fun z=>t.map (SI x y z)) (((a*33+b)*17+0)*33+0) wx))
    case atStart=>exact⟨0,by omega,rfl,rfl,I2⟩
    obtain⟨b,hb,rfl,rfl,HB⟩:=hrel;by_cases J2:b<M.length
    ·have K2:(b:Int)<(M.length:Int):=by omega
     have hy:=gE J2;have L2:=Za (fun f=>@PV _ WF _ _ _ hy f);generalize M[b]=y at*;have HY:=Za hy;have M2:=Za (HB.o.re (S':=S6++(M.take b).flatMap (fun y=>s.flatMap fun z=>t.map (SI x y z))++(s.take 0).flatMap fun z=>t.map (SI x y z)) (by simp) (G _));generalize O2:S6++(M.take b).flatMap (fun y=>s.flatMap fun z=>t.map (SI x y z))=S8 at*;have P2:=Za O2;go_wp2_with fail
     go_loopg [12,18] s.length (fun m ov av wx=>∃c,c<=s.length/\m=s.length-c/\av=I V (c:Nat)/\O (Kx w ps ov (S8++(s.take c).flatMap fun z=>t.map (SI x y z)) (((a*33+b)*17+c)*33+0) wx))
     case atStart=>exact⟨0,by omega,rfl,rfl,M2⟩
     obtain⟨c,hc,rfl,rfl,HC⟩:=hrel;by_cases Q2:c<s.length
     ·have R2:(c:Int)<(s.length:Int):=by omega
      have hz:=gE Q2;have S2:=Za (fun f=>@PV _ WF _ _ _ hz f);generalize s[c]=z at*;have HZ:=Za hz;have T2:=Za (HC.o.re (S':=S8++(s.take c).flatMap (fun z=>t.map (SI x y z))++(t.take 0).map (SI x y z)) (by simp) (G _));generalize V2:S8++(s.take c).flatMap (fun z=>t.map (SI x y z))=S9 at*;have W2:=Za V2;go_wp2_with fail
      go_loopg [12,19] t.length (fun m ov av wx=>∃d,d<=t.length/\m=t.length-d/\av=I V (d:Nat)/\O (Kx w ps ov (S9++(t.take d).map (SI x y z)) (((a*33+b)*17+c)*33+d) wx))
      case atStart=>exact⟨0,by omega,rfl,rfl,T2⟩
      obtain⟨d,hd,rfl,rfl,HD⟩:=hrel;by_cases X2:d<t.length
      ·have Y2:(d:Int)<(t.length:Int):=by omega
       obtain⟨u,hu⟩:∃u,t[d]?=J u:=⟨_,gE X2⟩
       have Z2:O ((t.take (d+1)).map (SI x y z)=(t.take d).map (SI x y z)++[SI x y z u]):=by show _=_;rw[j4,hu];simp
       obtain⟨g4,e4,_⟩:=HD.o.at m2.o HY.o;obtain⟨g6,e6,_⟩:=HD.o.at m3.o HZ.o;obtain⟨g5,e5,_⟩:=HD.o.at m4.o hu;obtain⟨oa,oc,eo⟩:=oL HD.o.ou;subst e4 e5 e6 eo
       have D0:O (∀W v S n,Kx w ps v S n W->W.cell? ⟨g4,b,Y⟩=J (I V (y:Nat))/\W.cell? ⟨g6,c,Y⟩=J (I V (z:Nat))/\W.cell? ⟨g5,d,Y⟩=J (I V (u:Nat))):=fun W v S n h=>⟨h.get m2.o HY.o,h.get m3.o HZ.o,h.get m4.o hu⟩
       have T3:=HD.o.le;have E0:=Za (HD.o.keep Zt.drew);generalize r1:S9++(t.take d).map (SI x y z)=t1 at*;have w1:=Za r1;generalize d3:t1.length=nn at*;have z1:=Za d3;go_upto_region 50 with fail;refine wp_region_held_drew (S:=fun W=>W.cell? ⟨g4,b,Y⟩=J (I V (y:Nat))/\W.cell? ⟨g6,c,Y⟩=J (I V (z:Nat))/\W.cell? ⟨g5,d,Y⟩=J (I V (u:Nat))) (by kernel_rfl) (D0.o _ _ _ _ E0.o) (fun hH=>?_)
       iterate 15 (refine YP 0 hH ?_;try go_frame)
       have G0:=Za (E0.o.keep (Zt.alloc (L #[Z (LM x),I V (y:Nat),I V (z:Nat),I V (u:Nat)] 35)));refine Vy 15 (fun K hK=>?_);go_simp;refine hK.out _ _ (D0.o _ _ _ _ G0.o) (fun hH=>?_)
       try go_frame
       refine Vy 16 (fun K hK=>?_);refine wp_append_lies _ (.tmp 154) (.tmp 169) 94 rfl w.heap.size 35 ij _ 4 40 Tryz.underlying94 F1 G1 H1 I1 rfl (by decide) (D oa nn oc) nn (XU t1) rfl ?o1 ⟨wr.drew.heap.size,0,Y⟩ 1 1 [Z (LM x),I V (y:Nat),I V (z:Nat),I V (u:Nat)] rfl rfl ?o2 ?o3 (by decide) ?o4 ?o5 ?o6 _ rfl ?o7
       case o1=>have e:=G0.o.ou;rw[z1.o]at e;exact e
       case o2=>exact q8 (aN wr.drew (L #[Z (LM x),I V (y:Nat),I V (z:Nat),I V (u:Nat)] 35))
       case o3=>simp[j1]
       case o4=>unfold maxLen;omega
       case o5=>omega
       case o6=>exact G0.o.fr.size
       intro g2 i3 w8 H A i0 _;have C1:=Za (E0.o.more A (p:=SI x y z u) (by rw[z1.o];exact H));refine hK.out _ _ (D0.o _ _ _ _ C1.o) (fun hH=>?_)
       try go_frame
       refine ZY 17 hH ?_
       try go_frame
       refine wpAnyH_done (by kernel_rfl) ?_ _;go_wp2_with fail;go_roundg (t.length-(d+1))
       case measure=>omega
       exact⟨d+1,by omega,rfl,by go_num,by rw[Z2.o,<-z9,w1.o];exact C1⟩
      have Y2:¬(d:Int)<(t.length:Int):=by omega
      have f3:=Za (HD.o.re (S':=S9++t.map (SI x y z)) (by rw[z4 (by omega)]) (show((a*33+b)*17+c)*33+d<=((a*33+b)*17+(c+1))*33+0 by omega));go_wp2_with fail;go_roundg (s.length-(c+1))
      case measure=>omega
      exact⟨c+1,by omega,rfl,by go_num,by rw[S2.o,<-z9,W2.o];exact f3⟩
     have R2:¬(c:Int)<(s.length:Int):=by omega
     have C0:=Za (HC.o.re (S':=S8++s.flatMap fun z=>t.map (SI x y z)) (by rw[z4 (by omega)]) (show((a*33+b)*17+c)*33+0<=((a*33+(b+1))*17+0)*33+0 by omega));go_wp2_with fail;go_roundg (M.length-(b+1))
     case measure=>omega
     exact⟨b+1,by omega,rfl,by go_num,by rw[L2.o,<-z9,P2.o];exact C0⟩
    have K2:¬(b:Int)<(M.length:Int):=by omega
    have g3:=Za (HB.o.re (S':=S6++M.flatMap fun y=>s.flatMap fun z=>t.map (SI x y z)) (by rw[z4 (by omega)]) (show((a*33+b)*17+0)*33+0<=(((a+1)*33+0)*17+0)*33+0 by omega));go_wp2_with fail;go_roundg (Q.length-(a+1))
    case measure=>omega
    exact⟨a+1,by omega,rfl,by go_num,by rw[t2.o,d0.o];exact g3⟩
   have r2:¬(a:Int)<(Q.length:Int):=by omega
   have H0:=Za (HU.o.re (S':=Q.flatMap fun x=>M.flatMap fun y=>s.flatMap fun z=>t.map (SI x y z)) (by rw[z4 (by omega)]) (show(((a*33+0)*17+0)*33+0)<=400000 by omega));go_wp2_with fail;go_ret;exact⟨⟨_,rfl,_,H0.o.ou,k2.o.st H0.o.le⟩,H0.o.fr⟩
