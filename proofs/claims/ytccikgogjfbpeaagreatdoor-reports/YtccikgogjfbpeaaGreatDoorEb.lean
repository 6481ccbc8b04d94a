import Derived.Test.YtccikgogjfbpeaaGreatDoorEa
open Go.Value renaming string->I,int->J,slice->K,bool->O,int->T,pointer->L,agg->C
open Go.IntKind renaming i64->S
open Option renaming some->V,none->Y
open Go.RowKit renaming Hid->Z
open Go.Obj renaming cells->U
open _root_.ByteArray renaming empty->E
open Or renaming inr->H
open Go.Proofs.Tryz renaming prog->D
open Go.Ending renaming returned->G
open Nat renaming le_refl->M,zero_add->N,zero_le->F
namespace Go.Proofs.YtccikgogjfbpeaaGreatDoor
set_option maxRecDepth 30000
set_option maxHeartbeats 8000000
open Go.RowKit
structure TO (w:World)(q:Nat)(rts:List Zd)(R:List Zc):Prop where
 c1:∃ra rc,w.cell? ⟨q,1,Y⟩=V (K ra rts.length rc)/\∀i t,rts[i]?=V t->∃g,ra=V ⟨g,0,Y⟩/\w.cell? ⟨g,i*3,Y⟩=V (I t.name)/\w.cell? ⟨g,i*3+1,Y⟩=V (J S (t.base:Nat))/\w.cell? ⟨g,i*3+2,Y⟩=V (J S (t.rate:Nat))
 c2:∃la lc,w.cell? ⟨q,2,Y⟩=V (K la R.length lc)/\∀i r,R[i]?=V r->∃g ma mc ca cc pa pc,la=V ⟨g,0,Y⟩/\(∀j v,(Ac r ma mc ca cc pa pc)[j]?=V v->w.cell? ⟨g,i*13+j,Y⟩=V v)/\Zw w ma r.mcc/\Zw w ca r.cur/\Zw w pa r.routes
theorem TO.fr {w w':World}{q:Nat}{a:List Zd}{R:List Zc}(h:TO w q a R)(b:F0 w w'):TO w' q a R:=by
 have k:∀{X o:Nat}{v:Value},w.cell? ⟨X,o,Y⟩=V v->w'.cell? ⟨X,o,Y⟩=V v:=fun{X o v} c=>(b.cell (p:=⟨X,o,Y⟩) (bL w _ c) (by simp)).trans c
 obtain⟨n,s,u,x⟩:=h.c1;obtain⟨y,z,A,B⟩:=h.c2;refine⟨⟨n,s,k u,fun i t d=>?_⟩,⟨y,z,k A,fun i r d=>?_⟩⟩
 ·obtain⟨g,e,f,l,m⟩:=x i t d
  exact⟨g,e,k f,k l,k m⟩
 ·obtain⟨g,C,D,E,F,G,H,e,f,l,m,I⟩:=B i r d
  exact⟨g,C,D,E,F,G,H,e,fun j v c=>k (f j v c),l.fr b (by simp),m.fr b (by simp),I.fr b (by simp)⟩
theorem U4.at' {base:Nat}{w:World}:∀{rs:List Z8}{a:List Value}{j:Nat}{r:Z8},U4 base w rs a->rs[j]?=V r->∃c,CM base w r c/\∀o v,c[o]?=V v->a[j*13+o]?=V v
 |[],_,j,_,_,hj=>by simp at hj
 |r::rs,a,0,r',⟨c,rest,e,h1,h2⟩,hj=>by
  simp at hj;subst hj;refine⟨c,h1,fun o v b=>?_⟩;have:=(iG.1 b).1;rw[e,Nat.zero_mul,N,List.getElem?_append_left this];exact b
 |r::rs,a,j+1,r',⟨c,rest,e,h1,h2⟩,hj=>by
  rw[List.getElem?_cons_succ]at hj;obtain⟨d,f,g⟩:=U4.at' h2 hj;refine⟨d,f,fun o v b=>?_⟩
  have i:c.length=13:=by obtain⟨k,l,m,h,_⟩:=h1;rw[h];rfl
  rw[e,aR (by omega),show(j+1)*13+o-c.length=j*13+o from by omega];exact g o v b
theorem TO.of {w:World}{B q:Nat}{body:List Tk}{a:List Zd}{R:List Zc}(h:Wi w B q body a R):TO w q a R:=by
 obtain⟨B2,vr,vl,xs,_,s,u,f,k,x⟩:=h.row;obtain⟨y,z,A⟩:=oL f;subst A;obtain⟨C,D,E⟩:=oL k;subst E;refine⟨⟨y,z,s,fun i t b=>?_⟩,⟨C,D,u,fun i r b=>?_⟩⟩
 ·have F:=(iG.1 b).1
  obtain⟨g,cap,e,_,G⟩:=f.form (by omega);injection e with e _ _;subst e;obtain⟨H,I,J⟩:=U9 a i t b
  have l:∀o v,(YU a)[o]?=V v->w.cell? ⟨g,o,Y⟩=V v:=fun o v K=>by
   have:=f.cells (g:=g) rfl o v K;rw[YN,N]at this;exact this
  exact⟨g,rfl,l _ _ H,l _ _ I,l _ _ J⟩
 ·have F:=(iG.1 b).1
  obtain⟨g,cap,e,_,G⟩:=k.form (by omega);injection e with e _ _;subst e;obtain⟨c,⟨vm,vc,vp,rfl,m,n,d⟩,p⟩:=x.at' (j:=i) (r:=r.ref) (by rw[List.getElem?_map,b];rfl);obtain⟨L,M,O⟩:=oL m;subst O;obtain⟨P,Q,S⟩:=oL n;subst S;obtain⟨T,U,W⟩:=oL d;subst W
  have X:Uo r.ref.routes=Zg r.routes:=by unfold Uo Zg Zc.ref;simp
  have Z:r.ref.routes.length=r.routes.length:=by unfold Zc.ref;simp
  rw[X]at d;rw[Z]at d p;refine⟨g,L,M,P,Q,T,U,rfl,fun j v hv=>?_,Zw.of m,Zw.of n,Zw.of d⟩;have:=k.cells (g:=g) rfl (i*13+j) v (p j v hv);rw[YN,N]at this;exact this
theorem UT (R:List Zc)(p:ZI)(i:Nat)(r:Zc)(h:R[i]?=V r):Y1 R p (Zz p.pan) i=Yr r p:=by
 unfold Y1 Yr;rw[h]
theorem R4 (w:World)(q:Nat)(l:List Zd)(R:List Zc)(p:ZI)(h:TO w q l R)(hb:YE l R)(hp:Xv p.pan=true):
  Calls D 100 #[L (V ⟨q,0,Y⟩),UM p] w fun e w'=>e=G (J S (Vm (YK (ZA R) (Y1 R p (Zz p.pan)) R.length)))/\F0 w w':=by
 have HF:Z (F0 w (w.alloc (Xt p))):=(Fr.refl _ _).alloc _;have HX:Z ((w.alloc (Xt p)).heap[w.heap.size]?=V (Xt p)):=aN w _;have HH:Z (TO (w.alloc (Xt p)) q l R):=h.fr HF.o;have h0:Z (YE l R):=hb;have HP:Z (Xv p.pan=true):=hp;obtain⟨n,hn⟩:∃n,R.length=n:=⟨_,rfl⟩;have HN:Z (R.length=n):=hn
 have n0:n<=8:=by have:=hb.l8;omega
 unfold Xt at HF HX HH;unfold UM;rw[hn];clear h hb hp hn;go_enter Tryz.func100,Tryz.ntmps100;go_upto_region 1 with fail;generalize w.alloc (U #[I p.pan,J S p.mcc,J S p.am,J S p.cur] 35)=W at*;generalize w.heap.size=X at*;go_wp2_with fail
 go_loopg [5,6,7] n (fun m bb i _ wr=>∃k b,k<=n/\m=n-k/\bb=J S (Vm b)/\i=J S (k:Nat)/\Z (YK (ZA R) (Y1 R p (Zz p.pan)) k=b)/\Z (F0 W wr))
 case atStart=>exact⟨0,Y,F _,rfl,rfl,rfl,rfl,Fr.refl _ _⟩
 case round=>
  obtain⟨k,b,hk,rfl,rfl,rfl,Q,s⟩:=hrel;obtain⟨la,lc,h2,h3⟩:=(HH.o.fr s.o).c2;rw[HN.o]at h2;by_cases o0:k<n
  ·have i0:(k:Int)<(n:Int):=by omega
   obtain⟨r,T⟩:∃r,R[k]?=V r:=⟨_,gE (by have:=HN.o;omega)⟩;obtain⟨g,ma,mc,ca,cc,pa,pc,rfl,a,a0,b0,j0⟩:=h3 k r T
   have c0:Z (∀i r,R[i]?=V r->wr.cell? ⟨g,i*13+1,Y⟩=V (J S (ZA R i:Nat))):=fun i r' hi=>by
    obtain⟨g',p0,q0,r0,s0,t0,v0,e,k0,_⟩:=h3 i r' hi;injection e with e;injection e with e _ _;subst e
    have e2:ZA R i=r'.rank:=by unfold ZA;rw[hi];rfl
    rw[e2];exact k0 1 _ rfl
   have z:Z (∀t,Z (F0 wr t)->Calls D 87 #[L (V ⟨g,k*13,Y⟩),C #[I p.pan,J S p.mcc,J S p.am,J S p.cur]] t fun e w'=>e=G (O (Y1 R p (Zz p.pan) k))/\Z (F0 wr w')/\w'.cell? ⟨q,2,Y⟩=V (K (V ⟨g,0,Y⟩) n lc)/\w'.cell? ⟨X,0,Y⟩=V (I p.pan)/\w'.cell? ⟨X,1,Y⟩=V (J S p.mcc)/\w'.cell? ⟨X,2,Y⟩=V (J S p.am)/\w'.cell? ⟨X,3,Y⟩=V (J S p.cur)):=by
    intro t hf;rw[UT R p k r T];refine(Rk t g (k*13) r ma mc ca cc pa pc l.length p (fun j v hv=>((hf.o.cell (p:=⟨g,k*13+j,Y⟩) (bL wr _ (a j v hv)) (by simp)).trans (a j v hv))) (a0.fr hf.o (by simp)) (b0.fr hf.o (by simp)) (h0.o.rl r (mG T)) HP.o).mono ?_;rintro e w' ⟨he,h4⟩;have h5:=hf.o.trans h4;have u:=(s.o.trans h5).whole HX.o (by simp);exact⟨he,h5,(h5.cell (p:=⟨q,2,Y⟩) (bL wr _ h2) (by simp)).trans h2,bC u 0 _ rfl,bC u 1 _ rfl,bC u 2 _ rfl,bC u 3 _ rfl⟩
   have u:=s.o.whole HX.o (by simp);have hS:wr.cell? ⟨q,2,Y⟩=V (K (V ⟨g,0,Y⟩) n lc)/\wr.cell? ⟨X,0,Y⟩=V (I p.pan)/\wr.cell? ⟨X,1,Y⟩=V (J S p.mcc)/\wr.cell? ⟨X,2,Y⟩=V (J S p.am)/\wr.cell? ⟨X,3,Y⟩=V (J S p.cur):=⟨h2,bC u 0 _ rfl,bC u 1 _ rfl,bC u 2 _ rfl,bC u 3 _ rfl⟩;have w0:Z (F0 wr wr.drew):=(Fr.refl _ _).drew;have l0:Z (R[k]?=V r):=T;clear h3 a a0 b0 j0 u T;obtain⟨bi,A⟩:∃bi,Vm b=bi:=⟨_,rfl⟩;have B:Z (Vm b=bi):=A;rw[A];clear A;obtain⟨mt,E⟩:∃mt,Y1 R p (Zz p.pan) k=mt:=⟨_,rfl⟩;have f:Z (Y1 R p (Zz p.pan) k=mt):=E;rw[E]at z;clear E;go_upto_region 5 with fail
   go_region_held3 (fun t=>t.cell? ⟨q,2,Y⟩=V (K (V ⟨g,0,Y⟩) n lc)/\t.cell? ⟨X,0,Y⟩=V (I p.pan)/\t.cell? ⟨X,1,Y⟩=V (J S p.mcc)/\t.cell? ⟨X,2,Y⟩=V (J S p.am)/\t.cell? ⟨X,3,Y⟩=V (J S p.cur)) (first|assumption|go_keep) (first
    |(go_at_call 87;refine(z.o _ (by assumption)).mono ?_;rintro e H ⟨rfl,N,d0⟩))
   have l2:=d0.1
   have r1:H.cell? ⟨g,k*13+1,Y⟩=V (J S (ZA R k:Nat)):=by
    have e:=c0.o k r l0.o;exact(N.o.cell (p:=⟨g,k*13+1,Y⟩) (bL wr _ e) (by simp)).trans e
   have x:Z (F0 W H):=s.o.trans N.o;clear d0 hS z
   cases mt with
   |false=>
    have c:Z (YK (ZA R) (Y1 R p (Zz p.pan)) (k+1)=b):=by show _=_;unfold YK;rw[f.o,Q.o];simp
    go_upto_region 6 with fail
    go_quiet (fail)
    have d:Z (F0 W (H.drewN nq)):=x.o.trans ⟨rfl,rfl,rfl,M _,fun _ _ _=>rfl⟩;go_wp2_with fail;go_roundg (n-(k+1))
    case measure=>omega
    case rel=>exact⟨k+1,b,by omega,rfl,by rw[B.o],by go_num,c,d⟩
   |true=>
    cases b with
    |none=>
     have c:Z (YK (ZA R) (Y1 R p (Zz p.pan)) (k+1)=V k):=by show _=_;unfold YK;rw[f.o,Q.o];simp
     have e1:bi= -1:=B.o.symm;subst e1;go_upto_region 6 with fail
     go_quiet (fail)
     have d:Z (F0 W (H.drewN nq)):=x.o.trans ⟨rfl,rfl,rfl,M _,fun _ _ _=>rfl⟩;go_wp2_with fail;go_roundg (n-(k+1))
     case measure=>omega
     case rel=>exact⟨k+1,(V k),by omega,rfl,rfl,by go_num,c,d⟩
    |some y=>
     have e1:bi=(y:Int):=B.o.symm;subst e1;have P:=Ua (ZA R) (Y1 R p (Zz p.pan)) k;rw[Q.o]at P
     have x0:(y:Int)<(n:Int):=by have:=P.1;omega
     have y0:¬(y:Int)<0:=by omega
     obtain⟨ry,e0⟩:∃ry,R[y]?=V ry:=⟨_,gE (by have:=HN.o;omega)⟩
     have r2:H.cell? ⟨g,y*13+1,Y⟩=V (J S (ZA R y:Nat)):=by
      have e:=c0.o y ry e0;exact(N.o.cell (p:=⟨g,y*13+1,Y⟩) (bL wr _ e) (by simp)).trans e
     clear P e0;by_cases f0:ZA R y<ZA R k
     ·have c:Z (YK (ZA R) (Y1 R p (Zz p.pan)) (k+1)=V k):=by show _=_;unfold YK;rw[f.o,Q.o];simp[f0]
      have g0:((ZA R y:Nat):Int)<((ZA R k:Nat):Int):=by omega
      generalize ZA R y=r8 at*;generalize ZA R k=r9 at*;go_upto_region 6 with fail
      go_quiet (fail)
      have d:Z (F0 W (H.drewN nq)):=x.o.trans ⟨rfl,rfl,rfl,M _,fun _ _ _=>rfl⟩;go_wp2_with fail;go_roundg (n-(k+1))
      case measure=>omega
      case rel=>exact⟨k+1,(V k),by omega,rfl,rfl,by go_num,c,d⟩
     ·have c:Z (YK (ZA R) (Y1 R p (Zz p.pan)) (k+1)=V y):=by show _=_;unfold YK;rw[f.o,Q.o];simp[f0]
      have g0:¬((ZA R y:Nat):Int)<((ZA R k:Nat):Int):=by omega
      generalize ZA R y=r8 at*;generalize ZA R k=r9 at*;go_upto_region 6 with fail
      go_quiet (fail)
      have d:Z (F0 W (H.drewN nq)):=x.o.trans ⟨rfl,rfl,rfl,M _,fun _ _ _=>rfl⟩;go_wp2_with fail;go_roundg (n-(k+1))
      case measure=>omega
      case rel=>exact⟨k+1,(V y),by omega,rfl,rfl,by go_num,c,d⟩
  ·have i0:¬(k:Int)<(n:Int):=by omega
   have m0:k=n:=by omega
   subst m0;go_wp2_with fail;go_ret;exact⟨ZH (by rw[Q.o]),HF.o.trans s.o⟩
def PD (a:List Zd)(b:Int):Option Nat->Int
 |none=>0
 |some y=>Xe a b y
theorem KH (w:World)(q:Nat)(f:List Zd)(R:List Zc)(a:Option Addr)(c:Nat)(l:List ByteArray)(p:ZI)(h:TO w q f R)(hb:YE f R)(hs:p.pan.size<=maxLen)(j1:Yz w a l)(hl:l.length<=maxLen):
  Calls D 56 #[L (V ⟨q,0,Y⟩),UM p,K a l.length c] w fun e w'=>e=G (NG (TM f R p (Vn f l)))/\F0 w w':=by
 have HH:Z (TO w q f R):=h;have L0:Z (YE f R):=hb;have J1:Z (Yz w a l):=j1;have K1:Z (l.length<=maxLen):=hl
 have L1:Z (∀W,Calls D 86 #[C #[I p.pan,J S p.mcc,J S p.am,J S p.cur]] W fun e w'=>e=G (O (Yd p))/\F0 W w'):=fun W=>RZ W p hs
 have k1:Z (F0 w ((w.alloc (Xt p)).alloc (U #[J S 0,I ⟨#[]⟩,I ⟨#[]⟩] 38))):=((Fr.refl _ _).alloc _).alloc _;have a0:Z (((w.alloc (Xt p)).alloc (U #[J S 0,I ⟨#[]⟩,I ⟨#[]⟩] 38)).heap[w.heap.size]?=V (Xt p)):=((Fr.refl (fun _=>False) _).alloc _).whole (aN w _) (by simp)
 have q0:Z (((w.alloc (Xt p)).alloc (U #[J S 0,I ⟨#[]⟩,I ⟨#[]⟩] 38)).heap[w.heap.size+1]?=V (U #[J S 0,I ⟨#[]⟩,I ⟨#[]⟩] 38)):=by
  have e:=aN (w.alloc (Xt p)) (U #[J S 0,I ⟨#[]⟩,I ⟨#[]⟩] 38);rw[show(w.alloc (Xt p)).heap.size=w.heap.size+1 from by simp]at e;exact e
 unfold UM;unfold Xt at k1 a0 q0;obtain⟨ln,M0⟩:∃ln,l.length=ln:=⟨_,rfl⟩;have M1:Z (l.length=ln):=M0;rw[M0];clear h hs hb j1 hl M0;go_enter Tryz.func56,Tryz.ntmps56;go_upto_region 1 with fail;generalize(w.alloc (U #[I p.pan,J S p.mcc,J S p.am,J S p.cur] 35)).alloc (U #[J S 0,I ⟨#[]⟩,I ⟨#[]⟩] 38)=W0 at*;obtain⟨P,hP⟩:∃P,w.heap.size=P:=⟨_,rfl⟩;have N1:Z (w.heap.size=P):=hP;rw[hP]at a0 q0;rw[hP];clear hP;have x0:=bC a0.o 0 _ rfl;have x1:=bC a0.o 1 _ rfl;have x2:=bC a0.o 2 _ rfl;have x3:=bC a0.o 3 _ rfl;go_wp2_with fail;refine(L1.o _).mono ?_;rintro e w1 ⟨rfl,r0⟩;have N0:Z (F0 w w1):=k1.o.trans r0;have h0:Z (w1.heap[P]?=V (U #[I p.pan,J S p.mcc,J S p.am,J S p.cur] 35)):=r0.whole a0.o (by simp);have B:Z (w1.heap[P+1]?=V (U #[J S 0,I ⟨#[]⟩,I ⟨#[]⟩] 38)):=r0.whole q0.o (by simp)
 have s:w.heap.size<=P+1:=by have:=N1.o;omega
 clear r0 x0 x1 x2 x3 a0 q0
 cases O0:Yd p with
 |false=>
  have HD:Z (TM f R p (Vn f l)=(1,E,E)):=by show _=_;unfold TM;rw[if_neg (by rw[O0];simp)]
  have o0:=bC B.o 0 _ rfl;have o1:=bC B.o 1 _ rfl;have o2:=bC B.o 2 _ rfl;have P0:=bF B.o 0;have Q0:=bF B.o 1;have R0:=bF B.o 2;go_wp2_with fail;have M:=Kw (v0:=J S 1) (v1:=I ⟨#[]⟩) (v2:=I ⟨#[]⟩) B.o;have s0:=bC M 0 _ rfl;have s1:=bC M 1 _ rfl;have s2:=bC M 2 _ rfl;refine bodyPost_ret (v:=C #[J S 1,I ⟨#[]⟩,I ⟨#[]⟩]) (by simp[results,Tryz.results56,go_sem,s0,s1,s2]) rfl ⟨by rw[HD.o];rfl,?_⟩;exact((N0.o.setCell (p:=⟨P+1,0,Y⟩) (H s) _).setCell (p:=⟨P+1,1,Y⟩) (H s) _).setCell (p:=⟨P+1,2,Y⟩) (H s) _
 |true=>
  have w0:Z (Yd p=true):=O0
  have J0:Xv p.pan=true:=by have e:=w0.o;rw[Y7,Bool.and_eq_true]at e;exact e.1
  have S0:Z (0<=p.am/\p.am<=1000000000):=by
   have e:=w0.o;rw[Y7]at e;simp only[Bool.and_eq_true,XD,decide_eq_true_eq]at e;exact e.2.2.1
  obtain⟨b0,e0⟩:∃b0,YK (ZA R) (Y1 R p (Zz p.pan)) R.length=b0:=⟨_,rfl⟩;have A0:Z (YK (ZA R) (Y1 R p (Zz p.pan)) R.length=b0):=e0
  have m1:Z (Calls D 100 #[L (V ⟨q,0,Y⟩),C #[I p.pan,J S p.mcc,J S p.am,J S p.cur]] w1 fun e w'=>e=G (J S (Vm b0))/\F0 w1 w'):=by
   rw[<-e0];exact R4 w1 q f R p (HH.o.fr N0.o) L0.o J0
  have x0:=bC h0.o 0 _ rfl;have x1:=bC h0.o 1 _ rfl;have x2:=bC h0.o 2 _ rfl;have x3:=bC h0.o 3 _ rfl;clear O0 J0 e0;go_wp2_with fail;refine m1.o.mono ?_;rintro e w2 ⟨rfl,B0⟩;have C0:Z (F0 w w2):=N0.o.trans B0;have n1:Z (w2.heap[P]?=V (U #[I p.pan,J S p.mcc,J S p.am,J S p.cur] 35)):=B0.whole h0.o (by simp);have N:Z (w2.heap[P+1]?=V (U #[J S 0,I ⟨#[]⟩,I ⟨#[]⟩] 38)):=B0.whole B.o (by simp);clear B0 x0 x1 x2 x3 h0 B m1
  cases b0 with
  |none=>
   have HD:Z (TM f R p (Vn f l)=(2,E,E)):=by show _=_;unfold TM;rw[if_pos w0.o,A0.o]
   unfold Vm;have o0:=bC N.o 0 _ rfl;have o1:=bC N.o 1 _ rfl;have o2:=bC N.o 2 _ rfl;have P0:=bF N.o 0;have Q0:=bF N.o 1;have R0:=bF N.o 2;go_wp2_with fail;have M:=Kw (v0:=J S 2) (v1:=I ⟨#[]⟩) (v2:=I ⟨#[]⟩) N.o;have s0:=bC M 0 _ rfl;have s1:=bC M 1 _ rfl;have s2:=bC M 2 _ rfl;refine bodyPost_ret (v:=C #[J S 2,I ⟨#[]⟩,I ⟨#[]⟩]) (by simp[results,Tryz.results56,go_sem,s0,s1,s2]) rfl ⟨by rw[HD.o];rfl,?_⟩;exact((C0.o.setCell (p:=⟨P+1,0,Y⟩) (H s) _).setCell (p:=⟨P+1,1,Y⟩) (H s) _).setCell (p:=⟨P+1,2,Y⟩) (H s) _
  |some k=>
   have D0:=Ua (ZA R) (Y1 R p (Zz p.pan)) R.length;rw[A0.o]at D0;obtain⟨r,hr⟩:∃r,R[k]?=V r:=⟨_,gE D0.1⟩
   have p1:Z (TM f R p (Vn f l)=EY f r (Vn f l) p.am):=by
    show _=_
    unfold TM;rw[if_pos w0.o,A0.o];simp only[hr]
   have q1:Z (UL f.length r):=L0.o.rl r (mG hr);obtain⟨la,lc,h2,h3⟩:=(HH.o.fr C0.o).c2;obtain⟨g,ma,mc,ca,cc,pa,pc,rfl,n,_,_,r1⟩:=h3 k r hr
   have g2:(k:Int)<(R.length:Int):=by have:=D0.1;omega
   have i2:¬(k:Int)<0:=by omega
   have v0:=n 0 _ rfl;have v1:=n 1 _ rfl;have v2:=n 2 _ rfl;have v3:=n 3 _ rfl;have v4:=n 4 _ rfl;have v5:=n 5 _ rfl;have v6:=n 6 _ rfl;have v7:=n 7 _ rfl;have v8:=n 8 _ rfl;have v9:=n 9 _ rfl;have O1:=n 10 _ rfl;have P1:=n 11 _ rfl;have Q1:=n 12 _ rfl;rw[Nat.add_zero]at v0;have j0:Z (F0 w2 (w2.alloc (U #[I r.name,J S (r.rank:Nat),J S (r.digits:Nat),J S (r.lo:Nat),J S (r.hi:Nat),K ma r.mcc.length mc,K ca r.cur.length cc,O r.am.isSome,J S ((r.am.getD (0,0)).1:Nat),J S ((r.am.getD (0,0)).2:Nat),K pa r.routes.length pc,O r.decline,O r.cheapest] 170))):=(Fr.refl _ _).alloc _;have k0:Z ((w2.alloc (U #[I r.name,J S (r.rank:Nat),J S (r.digits:Nat),J S (r.lo:Nat),J S (r.hi:Nat),K ma r.mcc.length mc,K ca r.cur.length cc,O r.am.isSome,J S ((r.am.getD (0,0)).1:Nat),J S ((r.am.getD (0,0)).2:Nat),K pa r.routes.length pc,O r.decline,O r.cheapest] 170)).heap[w2.heap.size]?=V (U #[I r.name,J S (r.rank:Nat),J S (r.digits:Nat),J S (r.lo:Nat),J S (r.hi:Nat),K ma r.mcc.length mc,K ca r.cur.length cc,O r.am.isSome,J S ((r.am.getD (0,0)).1:Nat),J S ((r.am.getD (0,0)).2:Nat),K pa r.routes.length pc,O r.decline,O r.cheapest] 170)):=aN w2 _;have R1:Z (Zw (w2.alloc (U #[I r.name,J S (r.rank:Nat),J S (r.digits:Nat),J S (r.lo:Nat),J S (r.hi:Nat),K ma r.mcc.length mc,K ca r.cur.length cc,O r.am.isSome,J S ((r.am.getD (0,0)).1:Nat),J S ((r.am.getD (0,0)).2:Nat),K pa r.routes.length pc,O r.decline,O r.cheapest] 170)) pa r.routes):=r1.fr j0.o (by simp);unfold Vm;clear D0 h3 n r1 hr;go_upto_region 8 with fail
   generalize w2.alloc (U #[I r.name,J S (r.rank:Nat),J S (r.digits:Nat),J S (r.lo:Nat),J S (r.hi:Nat),K ma r.mcc.length mc,K ca r.cur.length cc,O r.am.isSome,J S ((r.am.getD (0,0)).1:Nat),J S ((r.am.getD (0,0)).2:Nat),K pa r.routes.length pc,O r.decline,O r.cheapest] 170)=W3 at*;obtain⟨X,hX⟩:∃X,w2.heap.size=X:=⟨_,rfl⟩;rw[hX]at k0;rw[hX];have c0:Z (W3.heap[P+1]?=V (U #[J S 0,I ⟨#[]⟩,I ⟨#[]⟩] 38)):=j0.o.whole N.o (by simp);have S1:Z (W3.heap[P]?=V (U #[I p.pan,J S p.mcc,J S p.am,J S p.cur] 35)):=j0.o.whole n1.o (by simp);have y1:Z (F0 w W3):=C0.o.trans j0.o;have y0:=bC k0.o 0 _ rfl;have T0:=bC k0.o 11 _ rfl;clear v0 v1 v2 v3 v4 v5 v6 v7 v8 v9 O1 P1 Q1 hX h2 j0 C0 N n1 A0
   cases l0:r.decline with
   |true=>
    have HD:Z (TM f R p (Vn f l)=(3,r.name,E)):=by show _=_;rw[p1.o];unfold EY;rw[if_pos l0]
    rw[l0]at T0;have o0:=bC c0.o 0 _ rfl;have o1:=bC c0.o 1 _ rfl;have o2:=bC c0.o 2 _ rfl;have P0:=bF c0.o 0;have Q0:=bF c0.o 1;have R0:=bF c0.o 2;go_wp2_with fail;have M:=Kw (v0:=J S 3) (v1:=I r.name) (v2:=I ⟨#[]⟩) c0.o;have s0:=bC M 0 _ rfl;have s1:=bC M 1 _ rfl;have s2:=bC M 2 _ rfl;refine bodyPost_ret (v:=C #[J S 3,I r.name,I ⟨#[]⟩]) (by simp[results,Tryz.results56,go_sem,s0,s1,s2]) rfl ⟨by rw[HD.o];rfl,?_⟩;exact((y1.o.setCell (p:=⟨P+1,0,Y⟩) (H s) _).setCell (p:=⟨P+1,1,Y⟩) (H s) _).setCell (p:=⟨P+1,2,Y⟩) (H s) _
   |false=>
    obtain⟨u,m0⟩:∃u,Yv r.cheapest (Xe f p.am) (Vn f l) r.routes Y=u:=⟨_,rfl⟩;have A1:Z (Yv r.cheapest (Xe f p.am) (Vn f l) r.routes Y=u):=m0
    have K0:Z (TM f R p (Vn f l)=Qx f r.name u):=by
     show _=_
     rw[p1.o];unfold EY;rw[if_neg (by rw[l0];simp),m0]
     cases u<;>rfl
    rw[l0]at T0;obtain⟨nR,V0⟩:∃nR,r.routes.length=nR:=⟨_,rfl⟩;have B1:Z (r.routes.length=nR):=V0;rw[V0]at k0
    have j2:nR<=4000:=by have:=q1.o.pl.1;omega
    clear m0 V0 l0;go_wp2_with fail;clear y0 T0
    go_loopg [10,11,12,13,14,15] nR (fun m bb ff i _ _ _ wr=>∃j b,j<=nR/\m=nR-j/\bb=J S (Vm b)/\ff=J S (PD f p.am b)/\i=J S (j:Nat)/\Z (Yv r.cheapest (Xe f p.am) (Vn f l) (r.routes.drop j) b=u)/\Z (F0 W3 wr)/\Z (∀y,b=V y->y<f.length))
    case atStart=>exact⟨0,Y,F _,rfl,rfl,rfl,rfl,A1,Fr.refl _ _,fun y h=>by cases h⟩
    case round=>
     obtain⟨j,b,hj,rfl,rfl,rfl,rfl,HB,i0,E0⟩:=hrel;have X0:=i0.o.whole k0.o (by simp);have y0:=bC X0 0 _ rfl;have Y0:=bC X0 10 _ rfl;have Z0:=bC X0 12 _ rfl;have g0:Z (F0 w wr):=y1.o.trans i0.o;obtain⟨ra,rc,c1,G0⟩:=(HH.o.fr g0.o).c1;by_cases k2:j<nR
     ·have T1:(j:Int)<(nR:Int):=by omega
      obtain⟨x,hx⟩:∃x,r.routes[j]?=V x:=⟨_,gE (by have:=B1.o;omega)⟩;have a1:=q1.o.pl.2 x (mG hx);obtain⟨t,ht⟩:∃t,f[x]?=V t:=⟨_,gE a1⟩;obtain⟨rg,rfl,t0,t1,t2⟩:=G0 x t ht;obtain⟨ga,rfl,hc⟩:=(R1.o.fr i0.o (by simp)) j x hx
      have hd:r.routes.drop j=x::r.routes.drop (j+1):=by
       obtain⟨h1,h2⟩:=iG.1 hx;rw[dC h1,h2]
      rw[hd]at HB
      have V1:(x:Int)<(f.length:Int):=by omega
      have C1:Z (x<f.length):=a1
      have W1:Z (Vn f l x=Lg l t.name):=by show _=_;unfold Vn;rw[ht]
      have H0:Z (Xe f p.am x=(t.base:Int)+(t.rate:Int)*p.am):=by show _=_;unfold Xe;rw[ht]
      have b1:=L0.o.rt t (mG ht)
      have X1:(t.base:Int)<1000000000:=by have:=b1.2.1;omega
      have Z1:(0:Int)<=(t.rate:Int)*p.am:=Int.mul_nonneg (by omega) S0.o.1
      have a2:(t.rate:Int)*p.am<=1000000000000000000:=by
       have:=Int.mul_le_mul (a:=(t.rate:Int)) (b:=p.am) (c:=1000000000) (d:=1000000000) (by have:=b1.2.2;omega) S0.o.2 S0.o.1 (by omega);omega
      have D1:Z (F0 wr (wr.alloc (U #[I t.name,J S (t.base:Nat),J S (t.rate:Nat)] 189))):=(Fr.refl _ _).alloc _;have E1:Z ((wr.alloc (U #[I t.name,J S (t.base:Nat),J S (t.rate:Nat)] 189)).heap[wr.heap.size]?=V (U #[I t.name,J S (t.base:Nat),J S (t.rate:Nat)] 189)):=aN wr _
      have b2:Z (∀W',F0 wr W'->Calls D 101 #[K a ln c,I t.name] W' fun e w'=>e=G (O (Vn f l x))/\w'=W'):=fun W' hf=>by
       rw[W1.o,<-M1.o];exact KG W' a c l t.name (J1.o.fr (g0.o.trans hf) (by simp)) K1.o
      clear G0 hx a1 ht hd b1;obtain⟨bi,d1⟩:∃bi,Vm b=bi:=⟨_,rfl⟩;have n0:Z (Vm b=bi):=d1;obtain⟨bf,f1⟩:∃bf,PD f p.am b=bf:=⟨_,rfl⟩;have I0:Z (PD f p.am b=bf):=f1;rw[d1,f1];clear d1 f1;have l1:q<wr.heap.size:=bL wr _ c1;have l2:X<wr.heap.size:=bL wr _ Y0;have l3:rg<wr.heap.size:=bL wr _ t0;have l4:ga<wr.heap.size:=bL wr _ hc;go_upto_region 15 with fail
      go_region
      go_upto_region 16 with fail;have g1:Z (F0 wr (wr.alloc (U #[I t.name,J S (t.base:Nat),J S (t.rate:Nat)] 189)).drew):=D1.o.drew;have i1:Z ((wr.alloc (U #[I t.name,J S (t.base:Nat),J S (t.rate:Nat)] 189)).drew.heap[wr.heap.size]?=V (U #[I t.name,J S (t.base:Nat),J S (t.rate:Nat)] 189)):=E1.o;clear D1 E1 l1 l2 l3 l4;generalize(wr.alloc (U #[I t.name,J S (t.base:Nat),J S (t.rate:Nat)] 189)).drew=W5 at*;generalize wr.heap.size=Xo at*
      have k5:∀{A o:Nat}{v:Value},wr.cell? ⟨A,o,Y⟩=V v->W5.cell? ⟨A,o,Y⟩=V v:=fun{A o v} hv=>(g1.o.cell (p:=⟨A,o,Y⟩) (bL wr _ hv) (by simp)).trans hv
      have m2:=k5 Y0;have F1:=k5 Z0;have zc:=k5 hc;have p2:wr.cell? ⟨P,2,Y⟩=V (J S p.am):=bC (i0.o.whole S1.o (by simp)) 2 _ rfl;have zp:=k5 p2;have z0:=bC i1.o 0 _ rfl;have z1:=bC i1.o 1 _ rfl;have z2:=bC i1.o 2 _ rfl;have p0:Z (F0 W3 W5):=i0.o.trans g1.o;clear y0 Y0 Z0 hc c1 t0 t1 t2 p2 k5;go_wp2_with fail;refine(b2.o _ g1.o).mono ?_;rintro e w6 ⟨rfl,hw⟩;replace hw:=hw.symm;subst hw
      cases hq:Vn f l x with
      |true=>
       have f0:Z (Yv r.cheapest (Xe f p.am) (Vn f l) (r.routes.drop (j+1)) b=u):=by have e:=HB.o;unfold Yv at e;rw[hq,if_pos rfl]at e;exact e
       go_wp2_with fail;go_roundg (nR-(j+1))
       case measure=>omega
       case rel=>exact⟨j+1,b,by omega,rfl,by rw[n0.o],by rw[I0.o],by go_num,f0,p0,E0⟩
      |false=>
       have HQ:Z (Vn f l x=false):=hq;clear hq;go_upto_region 19 with fail;obtain⟨fx,G1⟩:∃fx,(t.base:Int)+(t.rate:Int)*p.am=fx:=⟨_,rfl⟩;rw[G1]at H0 ⊢;clear X1 Z1 a2 z0 z1 z2 zp G1 V1
       cases b with
       |none=>
        have e1:bi= -1:=n0.o.symm;subst e1
        have d0:Z (Yv r.cheapest (Xe f p.am) (Vn f l) (r.routes.drop (j+1)) (V x)=u):=by have e:=HB.o;unfold Yv at e;rw[HQ.o,if_neg (by simp)]at e;exact e
        clear HB;go_wp2_with fail;go_roundg (nR-(j+1))
        case measure=>omega
        case rel=>exact⟨j+1,V x,by omega,rfl,rfl,by show T _ _=T _ (Xe f p.am x);rw[H0.o],by go_num,d0,p0,fun y h=>by injection h with h;subst h;exact C1.o⟩
       |some y=>
        have d0:Z (Yv r.cheapest (Xe f p.am) (Vn f l) (r.routes.drop (j+1)) (if(r.cheapest&&decide (fx<bf))=true then V x else V y)=u):=by
         have e:=HB.o;unfold Yv at e;rw[HQ.o,if_neg (by simp)]at e;have e2:bf=Xe f p.am y:=I0.o.symm;rw[e2,<-H0.o];exact e
        have d2:¬bi<0:=by have:bi=(y:Int):=n0.o.symm;omega
        clear HB;rcases Bool.eq_false_or_eq_true r.cheapest with z|z
        rotate_left
        ·rw[z]at F1
         have f0:Z (Yv r.cheapest (Xe f p.am) (Vn f l) (r.routes.drop (j+1)) (V y)=u):=by have e:=d0.o;simp only[z,Bool.false_and,Bool.false_eq_true,if_false]at e;rw[z];exact e
         clear z d0;go_wp2_with fail;go_roundg (nR-(j+1))
         case measure=>omega
         case rel=>exact⟨j+1,V y,by omega,rfl,by rw[n0.o],by rw[I0.o],by go_num,f0,p0,E0⟩
        ·rw[z]at F1
         by_cases H1:fx<bf
         ·have f0:Z (Yv r.cheapest (Xe f p.am) (Vn f l) (r.routes.drop (j+1)) (V x)=u):=by have e:=d0.o;simp only[z,Bool.true_and,H1,decide_true,if_true]at e;rw[z];exact e
          clear z d0;go_wp2_with fail;go_roundg (nR-(j+1))
          case measure=>omega
          case rel=>exact⟨j+1,V x,by omega,rfl,rfl,by show T _ _=T _ (Xe f p.am x);rw[H0.o],by go_num,f0,p0,fun y h=>by injection h with h;subst h;exact C1.o⟩
         ·have f0:Z (Yv r.cheapest (Xe f p.am) (Vn f l) (r.routes.drop (j+1)) (V y)=u):=by have e:=d0.o;simp only[z,Bool.true_and,H1,decide_false,Bool.false_eq_true,if_false]at e;rw[z];exact e
          clear z d0;go_wp2_with fail;go_roundg (nR-(j+1))
          case measure=>omega
          case rel=>exact⟨j+1,V y,by omega,rfl,by rw[n0.o],by rw[I0.o],by go_num,f0,p0,E0⟩
     ·have T1:¬(j:Int)<(nR:Int):=by omega
      have f2:b=u:=by
       have e:=HB.o;rw[dL (by have:=B1.o;omega)]at e;exact e
      subst f2;have Q:=i0.o.whole c0.o (by simp);have n2:P+1<wr.heap.size:=(iA.1 Q).1;have o0:=bC Q 0 _ rfl;have o1:=bC Q 1 _ rfl;have o2:=bC Q 2 _ rfl;have P0:=bF Q 0;have Q0:=bF Q 1;have R0:=bF Q 2;generalize PD f p.am b=bf at*
      cases b with
      |none=>
       have HD:Z (TM f R p (Vn f l)=(4,r.name,E)):=K0.o;unfold Vm;go_wp2_with fail;have M:=Kw (v0:=J S 4) (v1:=I r.name) (v2:=I ⟨#[]⟩) Q;have s0:=bC M 0 _ rfl;have s1:=bC M 1 _ rfl;have s2:=bC M 2 _ rfl;refine bodyPost_ret (v:=C #[J S 4,I r.name,I ⟨#[]⟩]) (by simp[results,Tryz.results56,go_sem,s0,s1,s2]) rfl ⟨by rw[HD.o];rfl,?_⟩;exact((g0.o.setCell (p:=⟨P+1,0,Y⟩) (H s) _).setCell (p:=⟨P+1,1,Y⟩) (H s) _).setCell (p:=⟨P+1,2,Y⟩) (H s) _
      |some y=>
       have I1:=E0.o y rfl;obtain⟨t,ht⟩:∃t,f[y]?=V t:=⟨_,gE I1⟩;obtain⟨rg,rfl,t0,_,_⟩:=G0 y t ht
       have HD:Z (TM f R p (Vn f l)=(0,r.name,t.name)):=by show _=_;rw[K0.o];simp only[Qx,OM,ht]
       have q2:(y:Int)<(f.length:Int):=by omega
       have d2:¬(y:Int)<0:=by omega
       unfold Vm;clear G0 ht I1 Z0;go_upto_region 24 with fail
       go_region
       go_wp2_with fail;have M:=Kw (v0:=J S 0) (v1:=I r.name) (v2:=I t.name) Q;have s0:=bC M 0 _ rfl;have s1:=bC M 1 _ rfl;have s2:=bC M 2 _ rfl;refine bodyPost_ret (v:=C #[J S 0,I r.name,I t.name]) (by simp[results,Tryz.results56,go_sem,s0,s1,s2]) rfl ⟨by rw[HD.o];rfl,?_⟩;exact(((g0.o.setCell (p:=⟨P+1,0,Y⟩) (H s) _).setCell (p:=⟨P+1,1,Y⟩) (H s) _).setCell (p:=⟨P+1,2,Y⟩) (H s) _).drew
