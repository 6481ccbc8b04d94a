import Derived.Test.YtccikgogjfbpeaaGreatDoorMe
import Derived.Test.YtccikgogjfbpeaaGreatDoorEb
open Go.Value renaming int->I,slice->V,bool->Z,string->U,ownBlock->q2,oneCell'->q3,pointer->q5,string->q6
open Go.IntKind renaming i64->J
open Option renaming some->Y,none->K
open Go.Obj renaming cells->O
open Go.RowKit renaming Hid->H
open Go renaming Value->D,World->G,Calls->z7
open Or renaming inr->L,inl->C
open Bool renaming and_eq_true->A,eq_iff_iff->z6,or_eq_true->q1,false_or->q4,true_or->j0
open Go.Proofs.Tryz renaming prog->z0
open Nat renaming mul_le_mul_right->z1,max_eq_left->z4,min_eq_left->z5,le_refl->z9,pow_pos->y0,max_eq_right->y1,min_eq_right->q0,add_zero->q7,le_trans->q8,mul_comm->q9,pow_add->j1,zero_le->j2
open Go.Ending renaming returned->z2
open Go.World renaming ownsRow->z3,news_of_block->z8
namespace Go.Proofs.YtccikgogjfbpeaaGreatDoor
set_option maxRecDepth 30000
set_option maxHeartbeats 8000000
open Go.RowKit
abbrev Hy:=ByteArray×ByteArray×ZI
def Jg (a:List Zc)(i j:Nat):List Hy:=match a[i]?,a[j]? with
 |some r,Y q=>(match Sf (VM r) (VM q)with|some y=>[(r.name,q.name,U5 y.1)]|none=>[])
 |_,_=>[]
def TB (a:List Zc)(i:Nat):Nat->List Hy
 |0=>[]
 |k+1=>TB a i k++Jg a i (i+1+k)
def TJ (a:List Zc):Nat->List Hy
 |0=>[]
 |k+1=>TJ a k++TB a k (a.length-(k+1))
def TP (a:List Zc):List Hy:=TJ a a.length
def Pc (o:Hy):List D:=[U o.1,U o.2.1,U o.2.2.pan,I J o.2.2.mcc,I J o.2.2.am,I J o.2.2.cur]
def XG (l:List Hy):List D:=l.flatMap Pc
theorem K1 (l:List Hy)(o:Hy):XG (l++[o])=XG l++Pc o:=by simp[XG]
theorem Lq (a:List Zc)(i:Nat):∀k,(TB a i k).length<=k
 |0=>z9 _
 |k+1=>by
  have:=Lq a i k;unfold TB;rw[lA]
  have:(Jg a i (i+1+k)).length<=1:=by
   unfold Jg
   split
   ·split<;>simp
   ·simp
  omega
theorem PF (a:List Zc):∀k,(TJ a k).length<=k*a.length
 |0=>by simp[TJ]
 |k+1=>by
  have b:=PF a k;have c:=Lq a k (a.length-(k+1));unfold TJ;rw[lA,Nat.add_mul,Nat.one_mul];omega
theorem BC {n:Nat}{r:Zc}(h:UL n r){b:WH}(c:UJ r){y:UN×Nat}(d:Sf (VM r) b=Y y):y.1.p0<1000000:=by
 have e:=(Mw (fun i s f=>(Rq h c i s f).1) d).1
 have g:Xp (VM r) 0 y.1.p0=true:=by
  have:(Xp (VM r) 0 y.1.p0&&(Xp (VM r) 1 y.1.p1&&(Xp (VM r) 2 y.1.p2&&(Xp (VM r) 3 y.1.p3&&true))))=true:=e;rw[A]at this;exact this.1
 have a:YR (Wu r.digits r.lo r.hi) y.1.p0=true:=by
  have:([Wu r.digits r.lo r.hi].any fun s=>YR s y.1.p0)=true:=g
  simpa using this
 obtain⟨k,j,l⟩:=h.bn;unfold YR Wu at a;simp only[A,decide_eq_true_eq]at a
 have m:10^r.digits*10^(6-r.digits)=1000000:=by rw[<-j1,show r.digits+(6-r.digits)=6 from by omega]
 have o:=z1 (10^(6-r.digits)) (show r.hi+1<=10^r.digits from j);have p:0<(r.hi+1)*10^(6-r.digits):=Nat.mul_pos (by omega) (y0 (by decide));omega
theorem SS:(z0.info? 44).map (fun i=>(i.zero,i.size,i.bytes))=Y (Y (.agg #[U ByteArray.empty,U ByteArray.empty,U ByteArray.empty,I J 0,I J 0,I J 0]),6,72):=by kernel_rfl
theorem Cx {w:G}{base:Nat}{e t:TypeId}{b n Q:Nat}{v:D}{f:List D}{i:Array D}(h:w.ownsRow base e b v n f)(a:w.heap[Q]?=Y (O i t))(c:e≠t):¬v.ownBlock=Y Q:=by
 intro d;rcases h.2 with⟨rfl,_⟩|⟨g,cap,j,rfl,_,k,_⟩
 ·cases d
 ·have:g=Q:=by simpa[q2]using d
  subst this;rw[k]at a;injection a with a;injection a with _ a _;exact c a
set_option maxRecDepth 100000 in
theorem NK (w:G)(B:Nat)(va:Option Addr)(c N:Nat)(a:List Zc)(nr:Nat)(hB:w.cell? ⟨B,1,K⟩=Y (V va N c))(h:BA w va a)(hN:a.length=N)(h8:N<=8)(Q1:N<=c)(E0:∀r,r∈a->UL nr r/\UJ r)(ht:QA w):
  z7 z0 39 #[q5 (Y ⟨B,0,K⟩)] w fun e w'=>(∃v,e=z2 v/\w'.ownsRow w.heap.size 44 6 v (TP a).length (XG (TP a)))/\F0 w w':=by
 obtain⟨ij,T0,V0,W0,X0⟩:=info_parts SS;have HR:=Za h;have HN:=Za hN;have G0:=Za E0;have HT:=Za ht;have H0:=Za hB;clear h hN E0 ht;go_enter Tryz.func39,Tryz.ntmps39;go_wp2_with fail;clear hB
 go_loopg [3,15] N (fun m ov iv wr=>∃k,k<=N/\m=N-k/\iv=I J (k:Nat)/\H (wr.ownsRow w.heap.size 44 6 ov (TJ a k).length (XG (TJ a k)))/\H (F0 w wr))
 case atStart=>exact⟨0,by omega,rfl,rfl,oZ _ _ _ _,Fr.refl _ _⟩
 case round=>
  obtain⟨i,hi,rfl,rfl,HO,b0⟩:=hrel;by_cases R1:i<N
  ·have Y0:(i:Int)<(N:Int):=by omega
   have P1:(i:Int)+1<=(N:Int):=by omega
   obtain⟨r,hr⟩:∃r,a[i]?=Y r:=⟨_,gE (show i<a.length by have:=HN.o;omega)⟩;obtain⟨g,ma,mc,ca,cc,pa,pc,ea,l,h1,h2⟩:=HR.o i r hr;subst ea
   replace l:∀o v,[q6 r.name,I J r.rank,I J r.digits,I J r.lo,I J r.hi,V ma r.mcc.length mc,Z r.am.isSome,I J (r.am.getD (0,0)).1,I J (r.am.getD (0,0)).2,V ca r.cur.length cc,Z r.decline,Z r.cheapest,V pa r.routes.length pc,I J r.ahead][o]?=Y v->wr.cell? ⟨g,i*14+o,K⟩=Y v:=fun o v ho=>(b0.o.cell (p:=⟨g,i*14+o,K⟩) (bL w _ (l o v ho)) (by simp)).trans (l o v ho)
   have v0:=l 0 _ rfl;have v1:=l 1 _ rfl;have v2:=l 2 _ rfl;have v3:=l 3 _ rfl;have v4:=l 4 _ rfl;have v5:=l 5 _ rfl;have v6:=l 6 _ rfl;have v7:=l 7 _ rfl;have v8:=l 8 _ rfl;have v9:=l 9 _ rfl;have Z0:=l 10 _ rfl;have a1:=l 11 _ rfl;have f1:=l 12 _ rfl;have g1:=l 13 _ rfl;rw[q7]at v0;have i1:=Za h1;have j1:=Za h2;have k1:=Za hr;have e0:=Za (G0.o r (mG hr));have bB:wr.cell? ⟨B,1,K⟩=Y (V (Y ⟨g,0,K⟩) N c):=(b0.o.cell (p:=⟨B,1,K⟩) (bL w _ H0.o) (by simp)).trans H0.o;have I0:H ((wr.alloc (O #[U r.name,I J r.rank,I J r.digits,I J r.lo,I J r.hi,V ma r.mcc.length mc,Z r.am.isSome,I J (r.am.getD (0,0)).1,I J (r.am.getD (0,0)).2,V ca r.cur.length cc,Z r.decline,Z r.cheapest,V pa r.routes.length pc,I J r.ahead] 120)).heap[wr.heap.size]?=Y (O #[U r.name,I J r.rank,I J r.digits,I J r.lo,I J r.hi,V ma r.mcc.length mc,Z r.am.isSome,I J (r.am.getD (0,0)).1,I J (r.am.getD (0,0)).2,V ca r.cur.length cc,Z r.decline,Z r.cheapest,V pa r.routes.length pc,I J r.ahead] 120)):=aN wr _;have w0:H (F0 wr (wr.alloc (O #[U r.name,I J r.rank,I J r.digits,I J r.lo,I J r.hi,V ma r.mcc.length mc,Z r.am.isSome,I J (r.am.getD (0,0)).1,I J (r.am.getD (0,0)).2,V ca r.cur.length cc,Z r.decline,Z r.cheapest,V pa r.routes.length pc,I J r.ahead] 120))):=(Fr.refl _ _).alloc _;clear l h1 h2 hr;go_upto_region 5 with fail;generalize wr.alloc (O #[U r.name,I J r.rank,I J r.digits,I J r.lo,I J r.hi,V ma r.mcc.length mc,Z r.am.isSome,I J (r.am.getD (0,0)).1,I J (r.am.getD (0,0)).2,V ca r.cur.length cc,Z r.decline,Z r.cheapest,V pa r.routes.length pc,I J r.ahead] 120)=w1 at*
   obtain⟨Q,hQ⟩:∃Q,wr.heap.size=Q:=⟨_,rfl⟩;rw[hQ]at I0;rw[hQ];have b1:=(w0.o.cell (p:=⟨B,1,K⟩) (bL wr _ bB) (by simp)).trans bB;obtain⟨aa,J0⟩:∃aa:Option Addr,(if c=i+1 then Y ⟨g,0,K⟩else Y ⟨g,(i+1)*14,K⟩)=aa:=⟨_,rfl⟩;clear v0 v1 v2 v3 v4 v5 v6 v7 v8 v9 Z0 a1 f1 g1 hQ bB;go_wp2_with fail;obtain⟨M,hM⟩:∃M,N-(i+1)=M:=⟨_,rfl⟩;have HM:=Za hM;have l1:=Za J0;rw[hM]
   have m1:H (w1.ownsRow w.heap.size 44 6 u3 (TJ a i++TB a i 0).length (XG (TJ a i++TB a i 0))):=by
    show z3 _ _ _ _ _ _ _
    rw[show TJ a i++TB a i 0=TJ a i from by simp[TB]];exact oF HO.o w0.o (by simp)
   have n1:=Za (b0.o.trans w0.o);clear hM J0 b1
   go_loopg [3,28] M (fun mm ov jv wx=>∃j,j<=M/\mm=M-j/\jv=I J (j:Nat)/\H (wx.ownsRow w.heap.size 44 6 ov (TJ a i++TB a i j).length (XG (TJ a i++TB a i j)))/\H (wx.heap[Q]?=Y (O #[U r.name,I J r.rank,I J r.digits,I J r.lo,I J r.hi,V ma r.mcc.length mc,Z r.am.isSome,I J (r.am.getD (0,0)).1,I J (r.am.getD (0,0)).2,V ca r.cur.length cc,Z r.decline,Z r.cheapest,V pa r.routes.length pc,I J r.ahead] 120))/\H (F0 w wx))
   case atStart=>exact⟨0,by omega,rfl,rfl,m1,I0,n1⟩
   case round=>
    obtain⟨j,hj,rfl,rfl,P,o1,F⟩:=hrel;generalize wr=wj at*;obtain⟨oa,oc,ho⟩:=oL P.o;subst ho;obtain⟨nn,R⟩:∃nn,(TJ a i++TB a i j).length=nn:=⟨_,rfl⟩
    have S1:nn<=100:=by
     rw[<-R,lA];have e1:=PF a i;have e2:=Lq a i j;have e3:=Nat.mul_le_mul (show i<=8 by omega) (show a.length<=8 by have:=HN.o;omega);have e4:=HM.o;omega
    have y0:=Za R;rw[R]at P;rw[R];clear R;by_cases T1:j<M
    ·have q1:(j:Int)<(M:Int):=by omega
     have V1:i+1+j<N:=by have:=HM.o;omega
     have r1:aa=Y ⟨g,(i+1)*14,K⟩:=by rw[<-l1.o,if_neg (by omega)]
     subst r1;obtain⟨q,hq⟩:∃q,a[i+1+j]?=Y q:=⟨_,gE (show i+1+j<a.length by have:=HN.o;omega)⟩;obtain⟨g',s,t,u,x,z,A,S,L0,h3,h4⟩:=(HR.o.fr F.o) (i+1+j) q hq;injection S with S;injection S with S _ _;subst S
     have b:∀o v,[q6 q.name,I J q.rank,I J q.digits,I J q.lo,I J q.hi,V s q.mcc.length t,Z q.am.isSome,I J (q.am.getD (0,0)).1,I J (q.am.getD (0,0)).2,V u q.cur.length x,Z q.decline,Z q.cheapest,V z q.routes.length A,I J q.ahead][o]?=Y v->wj.cell? ⟨g,(i+1)*14+j*14+o,K⟩=Y v:=fun o v ho=>by
      have:=L0 o v ho
      rwa [show(i+1+j)*14+o=(i+1)*14+j*14+o from by omega]at this
     have x0:=b 0 _ rfl;have x1:=b 1 _ rfl;have x2:=b 2 _ rfl;have x3:=b 3 _ rfl;have x4:=b 4 _ rfl;have x5:=b 5 _ rfl;have x6:=b 6 _ rfl;have x7:=b 7 _ rfl;have x8:=b 8 _ rfl;have x9:=b 9 _ rfl;have s1:=b 10 _ rfl;have t1:=b 11 _ rfl;have y1:=b 12 _ rfl;have z1:=b 13 _ rfl;rw[q7]at x0;have A1:=Za h3;have B1:=Za h4;have M0:=Za (G0.o q (mG hq))
     have T:H (TB a i (j+1)=TB a i j++(match Sf (VM r) (VM q)with|some y=>[(r.name,q.name,U5 y.1)]|none=>[])):=by
      show _=_
      conv=>lhs;unfold TB;unfold Jg;rw[k1.o,hq]
     have A0:H ((wj.alloc (O #[U q.name,I J q.rank,I J q.digits,I J q.lo,I J q.hi,V s q.mcc.length t,Z q.am.isSome,I J (q.am.getD (0,0)).1,I J (q.am.getD (0,0)).2,V u q.cur.length x,Z q.decline,Z q.cheapest,V z q.routes.length A,I J q.ahead] 120)).heap[wj.heap.size]?=Y (O #[U q.name,I J q.rank,I J q.digits,I J q.lo,I J q.hi,V s q.mcc.length t,Z q.am.isSome,I J (q.am.getD (0,0)).1,I J (q.am.getD (0,0)).2,V u q.cur.length x,Z q.decline,Z q.cheapest,V z q.routes.length A,I J q.ahead] 120)):=aN wj _;have n:H (F0 wj (wj.alloc (O #[U q.name,I J q.rank,I J q.digits,I J q.lo,I J q.hi,V s q.mcc.length t,Z q.am.isSome,I J (q.am.getD (0,0)).1,I J (q.am.getD (0,0)).2,V u q.cur.length x,Z q.decline,Z q.cheapest,V z q.routes.length A,I J q.ahead] 120))):=(Fr.refl _ _).alloc _;clear L0 b h3 h4 hq;go_upto_region 8 with fail;generalize wj.alloc (O #[U q.name,I J q.rank,I J q.digits,I J q.lo,I J q.hi,V s q.mcc.length t,Z q.am.isSome,I J (q.am.getD (0,0)).1,I J (q.am.getD (0,0)).2,V u q.cur.length x,Z q.decline,Z q.cheapest,V z q.routes.length A,I J q.ahead] 120)=w2 at*;obtain⟨Q2,B0⟩:∃Q2,wj.heap.size=Q2:=⟨_,rfl⟩;rw[B0]at A0;rw[B0];clear x0 x1 x2 x3 x4 x5 x6 x7 x8 x9 s1 t1 y1 z1 B0;have W:=Za (n.o.whole o1.o (by simp));obtain⟨c0,c1,c2,c3,c4,c5,c6,c7,c8,c9,f0,g0,h0,i0⟩:=ZX W.o;obtain⟨d0,d1,d2,d3,d4,d5,d6,d7,d8,d9,j0,k0,l0,m0⟩:=ZX A0.o;have d:=Za (IN w2 r q nr ma mc ca cc pa pc s t u x z A e0.o M0.o (i1.o.fr (F.o.trans n.o) (by simp)) (j1.o.fr (F.o.trans n.o) (by simp)) (A1.o.fr n.o (by simp)) (B1.o.fr n.o (by simp)))
     have C1:=Za (HT.o.fr (F.o.trans n.o));have N0:=Za (F.o.trans n.o);have O0:=Za (oF P.o n.o (by simp));clear P
     cases X:Sf (VM r) (VM q)with
     |none=>
      rw[X]at d T;unfold BB at d;unfold Mu at d
      go_wp2_with (go_at_call 67;refine d.o.mono ?_)
      rintro e w3 rfl C;have D:H (F0 w (w3.alloc (O #[I J 0,I J 0,I J 0,I J 0] 139))):=(N0.o.trans C).alloc _;have D1:H ((w3.alloc (O #[I J 0,I J 0,I J 0,I J 0] 139)).heap[Q]?=Y (O #[U r.name,I J r.rank,I J r.digits,I J r.lo,I J r.hi,V ma r.mcc.length mc,Z r.am.isSome,I J (r.am.getD (0,0)).1,I J (r.am.getD (0,0)).2,V ca r.cur.length cc,Z r.decline,Z r.cheapest,V pa r.routes.length pc,I J r.ahead] 120)):=(C.alloc (O #[I J 0,I J 0,I J 0,I J 0] 139)).whole W.o (by simp)
      have n0:H ((w3.alloc (O #[I J 0,I J 0,I J 0,I J 0] 139)).ownsRow w.heap.size 44 6 (V oa nn oc) (TJ a i++TB a i (j+1)).length (XG (TJ a i++TB a i (j+1)))):=by
       show z3 _ _ _ _ _ _ _
       rw[T.o,List.append_nil,y0.o];exact(oF O0.o C (by simp)).alloc _
      clear C d c0 c1 c2 c3 c4 c5 c6 c7 c8 c9 f0 g0 h0 i0 d0 d1 d2 d3 d4 d5 d6 d7 d8 d9 j0 k0 l0 m0 X;go_wp2_with fail;go_roundg (M-(j+1))
      case measure=>omega
      case rel=>exact⟨j+1,by omega,rfl,by go_num,n0,D1,D⟩
     |some y=>
      rw[X]at d T;unfold BB at d;unfold Mu at d;have E1:=Za (BC e0.o.1 e0.o.2 X);clear X
      go_wp2_with (go_at_call 67;refine d.o.mono ?_)
      rintro e w3 rfl C;have a0:H ((w3.alloc (O #[I J (y.1.p0:Nat),I J (y.1.p1:Nat),I J (y.1.p2:Nat),I J (y.1.p3:Nat)] 139)).heap[w3.heap.size]?=Y (O #[I J (y.1.p0:Nat),I J (y.1.p1:Nat),I J (y.1.p2:Nat),I J (y.1.p3:Nat)] 139)):=aN w3 _;have D:H (F0 w2 (w3.alloc (O #[I J (y.1.p0:Nat),I J (y.1.p1:Nat),I J (y.1.p2:Nat),I J (y.1.p3:Nat)] 139))):=C.alloc _;clear C d c0 c1 c2 c3 c4 c5 c6 c7 c8 c9 f0 g0 h0 i0 d0 d1 d2 d3 d4 d5 d6 d7 d8 d9 j0 k0 l0 m0;go_upto_region 9 with fail;generalize w3.alloc (O #[I J (y.1.p0:Nat),I J (y.1.p1:Nat),I J (y.1.p2:Nat),I J (y.1.p3:Nat)] 139)=w4 at*;obtain⟨Q3,C0⟩:∃Q3,w3.heap.size=Q3:=⟨_,rfl⟩;rw[C0]at a0;rw[C0];clear C0;have r0:=Za (D.o.whole W.o (by simp));have P0:=Za (D.o.whole A0.o (by simp));obtain⟨c0,c1,c2,c3,c4,c5,c6,c7,c8,c9,f0,g0,h0,i0⟩:=ZX r0.o;obtain⟨d0,d1,d2,d3,d4,d5,d6,d7,d8,d9,j0,k0,l0,m0⟩:=ZX P0.o;have p0:=bC a0.o 0 _ rfl;have p1:=bC a0.o 1 _ rfl;have p2:=bC a0.o 2 _ rfl;have p3:=bC a0.o 3 _ rfl;have o0:=Za (K0 w4 r q y.1 ma mc ca cc pa pc s t u x z A e0.o.1.nm M0.o.1.nm E1.o (C1.o.fr D.o));have n0:=Za (oF O0.o D.o (by simp));have F1:=Za (N0.o.trans D.o);obtain⟨tp,Q0⟩:∃tp,U5 y.1=tp:=⟨_,rfl⟩;rw[Q0]at o0 T;unfold Ad Mu at o0;clear Q0
      go_wp2_with (go_at_call 68;refine o0.o.mono ?_)
      rintro e w5 ⟨rfl,q0⟩;have D0:=Za (oF n0.o q0 (by simp));have R0:=Za (F1.o.trans q0);have G1:H (w.heap.size<=w5.heap.size):=R0.o.size;have s0:=Za (q0.whole r0.o (by simp));clear q0 o0 c0 c1 c2 c3 c4 c5 c6 c7 c8 c9 f0 g0 h0 i0 d0 d1 d2 d3 d4 d5 d6 d7 d8 d9 j0 k0 l0 m0 p0 p1 p2 p3 n0
      go_wp2_with (at_builtin;refine wpList_append_lies _ rfl (.tmp 39) (.tmp 44) 41 rfl w.heap.size 44 ij _ 6 72 Tryz.underlying41 T0 V0 W0 X0 rfl (by decide) (V oa nn oc) nn (XG (TJ a i++TB a i j)) rfl ?h1 ⟨w5.heap.size,0,K⟩ 1 1 [U r.name,U q.name,U tp.pan,I J tp.mcc,I J tp.am,I J tp.cur] rfl rfl ?h2 ?h3 (by decide) ?h4 ?h5 ?h6 _ rfl ?h7)
      case h1=>exact D0.o.alloc _
      case h2=>exact z8 (aN w5 (O #[U r.name,U q.name,U tp.pan,I J tp.mcc,I J tp.am,I J tp.cur] 44))
      case h3=>simp[q3]
      case h4=>unfold maxLen;omega
      case h5=>omega
      case h6=>have:=G1.o;simp;omega
      case h7=>
       intro g2 S0 w8 t0 E H1 _;have I1:H (F0 w w8):=(R0.o.alloc _).grown E (fun k hk=>L (D0.o.lt k hk).1)
       have J1:H (w8.heap[Q]?=Y (O #[U r.name,I J r.rank,I J r.digits,I J r.lo,I J r.hi,V ma r.mcc.length mc,Z r.am.isSome,I J (r.am.getD (0,0)).1,I J (r.am.getD (0,0)).2,V ca r.cur.length cc,Z r.decline,Z r.cheapest,V pa r.routes.length pc,I J r.ahead] 120)):=by
        have f:Fr (fun k=>(Value.slice oa nn oc).ownBlock=Y k) w5 w8:=((Fr.refl _ _).alloc _).grown E (fun k hk=>.inl hk);exact f.whole s0.o (Cx D0.o s0.o (by decide))
       have L1:H (w8.ownsRow w.heap.size 44 6 (V (Y ⟨g2,0,K⟩) (nn+1) S0) (TJ a i++TB a i (j+1)).length (XG (TJ a i++TB a i (j+1)))):=by
        show z3 _ _ _ _ _ _ _
        rw[T.o,<-List.append_assoc,lA,y0.o,K1];exact t0
       clear t0 E H1;go_wp2_with fail;go_roundg (M-(j+1))
       case measure=>omega
       case rel=>exact⟨j+1,by omega,rfl,by go_num,L1,J1,I1⟩
    ·have q1:¬(j:Int)<(M:Int):=by omega
     have ej:j=M:=by omega
     have M1:H (wj.ownsRow w.heap.size 44 6 (V oa nn oc) (TJ a (i+1)).length (XG (TJ a (i+1)))):=by
      show z3 _ _ _ _ _ _ _
      have e:TJ a (i+1)=TJ a i++TB a i j:=by
       conv=>lhs;unfold TJ
       rw[HN.o,HM.o,ej]
      rw[e,y0.o];exact P.o
     have N1:=F;clear ej;go_wp2_with fail;go_roundg (N-(i+1))
     case measure=>omega
     case rel=>exact⟨i+1,by omega,rfl,by go_num,M1,N1⟩
  ·have Y0:¬(i:Int)<(N:Int):=by omega
   have ei:i=N:=by omega
   have O1:=Za ei;clear ei;go_wp2_with fail;go_ret;refine⟨⟨_,rfl,?_⟩,b0.o⟩;have e:=HO.o;unfold TP;rw[HN.o,<-O1.o];exact e
def Am (w:G)(a:Option Addr)(l:List Hy):Prop:=∀k x,l[k]?=Y x->∃g,a=Y ⟨g,0,K⟩/\∀j v,(Pc x)[j]?=Y v->w.cell? ⟨g,k*6+j,K⟩=Y v
theorem Nb:∀(l:List Hy)(k:Nat)(x:Hy),l[k]?=Y x->∀(j:Nat)(v:D),(Pc x)[j]?=Y v->(XG l)[k*6+j]?=Y v
 |[],k,x,h=>by simp at h
 |y::r,0,x,h=>by
  simp at h;subst h;intro j v a;have b:=(iG.1 a).1
  show(Pc y++XG r)[0*6+j]?=Y v
  rw[List.getElem?_append_left (by omega),Nat.zero_mul,Nat.zero_add];exact a
 |y::r,k+1,x,h=>by
  intro j v a;have l:(Pc y).length=6:=rfl
  show(Pc y++XG r)[(k+1)*6+j]?=Y v
  rw[aR (by omega),l,show(k+1)*6+j-6=k*6+j from by omega];exact Nb r k x (by simpa using h) j v a
theorem Dv {w:G}{base:Nat}{t:TypeId}{v:D}{l:List Hy}(h:w.ownsRow base t 6 v l.length (XG l)):∃a c,v=V a l.length c/\Am w a l:=by
 obtain⟨a,c,e⟩:=oL h;subst e;refine⟨a,c,rfl,fun k x d=>?_⟩;have o:=(iG.1 d).1;obtain⟨g,cap,e,_,_⟩:=h.form (by omega);injection e with i p m;subst i m;refine⟨g,rfl,fun j v n=>?_⟩;have f:=h.cells (g:=g) rfl _ _ (Nb l k x d j v n)
 have b:∀k,(⟨g,0,K⟩:Addr).add k=⟨g,k,K⟩:=fun k=>by unfold Addr.add;split<;>simp_all
 rw[b]at f;exact f
theorem Dw {W:G}{base n c j:Nat}{t:TypeId}{a:Option Addr}{l:List Hy}{x:Hy}(h:W.ownsRow base t 6 (V a n c) n (XG l))(b:l.length=n)(d:l[j]?=Y x):∃g,a=Y ⟨g,0,K⟩/\∀o v,(Pc x)[o]?=Y v->W.cell? ⟨g,j*6+o,K⟩=Y v:=by
 subst b;obtain⟨i,k,e,f⟩:=Dv h;injection e with e _ _;subst e;exact f j x d
theorem NL (w:G)(T:Nat)(b:List Zd)(R:List Zc)(h:Cw w T b R)(k:QA w):
  z7 z0 20 #[q5 (Y ⟨T,0,K⟩)] w fun e w'=>(∃v,e=z2 v/\w'.ownsRow w.heap.size 44 6 v (TP R).length (XG (TP R)))/\F0 w w':=by
 obtain⟨_,⟨q,C,D,E,s,f⟩,i,l⟩:=h;obtain⟨t,c,e,d⟩:=f.rules
 have m:R.length<=c:=by
  have a:=f.lo;rw[e]at a;rcases a.2 with⟨j,u⟩|⟨g,cap,x,j,_,_,u,_⟩
  ·injection j with _ _ y
   omega
  ·injection j with _ _ y
   omega
 have a:=f.c1;rw[e]at a;have z:=Za (NK w q t c R.length R b.length a d rfl i.l8 m (fun r d=>⟨i.rl r d,l r d⟩) k);clear f d i l a e k m;go_enter Tryz.func20,Tryz.ntmps20
 go_wp2_with (go_at_call 39;refine z.o.mono ?_;rintro e F ⟨⟨v,rfl,n⟩,p⟩;have A:=Za n;have B:=Za p;clear n p s)
 go_ret;exact⟨⟨v,rfl,A.o⟩,B.o⟩
theorem Hz {P:Program}{f:FuncId}{a:Array D}{w:G}{E:Ending}{Q:Ending->G->Prop}(h:z7 P f a w fun e w'=>e=E/\w'=w)(k:Q E w):z7 P f a w Q:=cf h fun _ e=>e▸k
theorem Ss (n d R:Nat)(w:G)(f:d<=6)(c:n*10^(6-d)=R)(h:R<=1000000):
  z7 z0 137 #[I J (n:Nat),I J (d:Nat)] w fun e w'=>e=z2 (I J (R:Nat))/\w'=w:=by
 have g:=Za c;have i:=Za h;clear c h;go_enter Tryz.func137,Tryz.ntmps137;go_wp2_with fail
 go_loopg [0,1] (6-d) (fun m j l wr=>∃x k:Nat,k<=6/\m=6-k/\j=I J (x:Nat)/\l=I J (k:Nat)/\wr=w/\H (x*10^(6-k)=R))
 case atStart=>exact⟨n,d,f,rfl,rfl,rfl,rfl,g⟩
 case round=>
  obtain⟨x,k,r,rfl,rfl,rfl,rfl,a⟩:=hrel;have s:x<=1000000:=q8 (Nat.le_mul_of_pos_right _ (y0 (by decide))) (a.o▸i.o);by_cases p:k<6
  ·have b:(k:Int)<6:=by omega
   have q:H ((10*x)*10^(6-(k+1))=R):=by
    show _=_;rw[<-a.o,show 6-k=(6-(k+1))+1 from by omega,Nat.pow_succ]
    rw[q9 10 x,Nat.mul_assoc,q9 10]
   go_wp2_with fail;go_roundg (6-(k+1))
   case measure=>omega
   case rel=>exact⟨10*x,k+1,by omega,rfl,by go_num,by go_num,rfl,q⟩
  ·have b:¬(k:Int)<6:=by omega
   have e:x=R:=by have:=a.o;rw[show 6-k=0 from by omega]at this;simpa using this
   subst e;go_wp2_with fail;go_ret;exact⟨rfl,rfl⟩
def Rs (w:G)(b:Nat)(l:List (D×List Nat)):Prop:=
 (∀p,p∈l->w.ownsRow b 3 1 p.1 p.2.length (Zg p.2))/\l.Pairwise fun p q=>∀k,p.1.ownBlock=Y k->q.1.ownBlock≠Y k
theorem Rs.turn {w w':G}{b:Nat}{v d:D}{l l':List Nat}{r:List (D×List Nat)}(h:Rs w b ((v,l)::r))(j:Fr (fun k=>v.ownBlock=Y k) w w')(m:w'.ownsRow b 3 1 d l'.length (Zg l'))
  (n:∀k,d.ownBlock=Y k->v.ownBlock=Y k\/w.heap.size<=k):Rs w' b ((d,l')::r):=by
 obtain⟨g,a⟩:=h;rw[List.pairwise_cons]at a;refine⟨fun p c=>?_,List.pairwise_cons.2 ⟨fun q i k f e=>?_,a.2⟩⟩
 ·rcases List.mem_cons.1 c with rfl|c
  ·exact m
  ·exact oA (g p (List.mem_cons_of_mem _ c)) j (fun k f e=>a.1 p c k e f)
 ·rcases n k f with h|h
  ·exact a.1 q i k h e
  ·have:=((g q (List.mem_cons_of_mem _ i)).lt k e).2
   omega
theorem Rs.rot {w:G}{b:Nat}{p:D×List Nat}{r:List (D×List Nat)}(h:Rs w b (p::r)):Rs w b (r++[p]):=
 have e:=List.perm_append_singleton p r
 ⟨fun q a=>h.1 q (e.mem_iff.1 a),(e.symm.pairwise_iff (fun h k c e=>h k e c)).1 h.2⟩
theorem Rs.fr {w w':G}{b:Nat}{l:List (D×List Nat)}{S:Nat->Prop}(h:Rs w b l)(a:Fr S w w')(c:∀k,S k->k<b):Rs w' b l:=⟨fun p d=>oF (h.1 p d) a c,h.2⟩
theorem Rs.grow {w e w2:G}{b g n c:Nat}{v:D}{l l':List Nat}{r:List (D×List Nat)}(h:Rs w b ((v,l)::r))(i:Fr (fun k=>v.ownBlock=Y k) w e)(j:e.grownBy w2 v.ownBlock)(m:w2.ownsRow b 3 1 (V (Y ⟨g,0,K⟩) n c) l'.length (Zg l'))(a:v.ownBlock=Y g\/w.heap.size<=g):
  Rs w2 b ((V (Y ⟨g,0,K⟩) n c,l')::r)/\Fr (fun k=>v.ownBlock=Y k) w w2:=by
 have f:=i.grown j (fun k d=>C d);refine⟨h.turn f m (fun k d=>?_),f⟩
 obtain rfl:k=g:=by simpa[q2]using d.symm
 exact a
theorem VK (l:List Nat)(n:Nat):Vo l (n:Int)=true↔n∈l:=by
 induction l with
 |nil=>simp[Vo]
 |cons x r a=>rw[KF,q1,a,beq_iff_eq,List.mem_cons];exact or_congr_left ⟨fun h=>by omega,fun h=>by omega⟩
theorem FP (w:G)(b:Nat)(v:D)(l:List Nat)(r:List (D×List Nat))(n m:Nat)(M:Int)(H:M=(m:Nat))(h:Rs w b ((v,l)::r))(A:l.length<=4000)(U:n<=10000000000)(W:b<=w.heap.size):
  z7 z0 182 #[v,I J (n:Nat),I J M] w fun e w'=>∃B l',e=z2 B/\Rs w' b ((B,l')::r)/\(l'=l/\(n<=m->n∈l)\/l'=l++[n]/\n<=m)/\Fr (fun k=>v.ownBlock=Y k) w w':=by
 obtain⟨P,Q,u,x,y⟩:=info_parts YZ;have i:=Za (h.1 _ (List.mem_cons_self ..));obtain⟨E,c,e⟩:=oL i.o
 dsimp only at e i
 subst e H;have F:=Za (So w E c l n (Zw.of i.o) A);have j:=Za h;obtain⟨N,z⟩:∃N,l.length=N:=⟨_,rfl⟩;have R:=Za z;rw[z]at A F i j ⊢;clear h z;go_enter Tryz.func182,Tryz.ntmps182;go_wp2_with fail;refine Hz F.o ?_
 have S:¬(n:Int)<0:=by omega
 cases f:Vo l (n:Int)with
 |true=>
  have T:=Za ((VK l n).1 f);go_wp2_with fail;go_ret;exact⟨_,l,rfl,j.o,C ⟨rfl,fun _=>T.o⟩,Fr.refl _ _⟩
 |false=>
  by_cases p:n<=m
  ·have q:¬(m:Int)<(n:Int):=by omega
   clear f
   go_wp2_with (at_builtin;refine wpList_append_lies _ rfl (.tmp 22) (.tmp 24) 25 rfl b 3 P _ 1 8 Tryz.underlying25 Q u x y rfl (by decide) (V E N c) N (Zg l) rfl ?a1 ⟨w.heap.size,0,K⟩ 1 1 [I J (n:Nat)] rfl rfl ?a2 ?a3 (by decide) ?a4 ?a5 ?a6 _ rfl ?a7)
   case a1=>exact i.o.alloc _
   case a2=>exact z8 (aN w (O #[I J (n:Nat)] 3))
   case a3=>simp[q3]
   case a4=>unfold maxLen;omega
   case a5=>omega
   case a6=>simp;omega
   case a7=>
    intro g cap w2 d a s _;have t:=Za (j.o.grow ((Fr.refl _ _).alloc _) a (l':=l++[n]) (by rw[Xl,lA,R.o];exact d) (s.imp id (by omega)));clear d a s i j;go_wp2_with fail;go_ret;exact⟨_,_,rfl,t.o.1,L ⟨rfl,p⟩,t.o.2⟩
  ·have q:(m:Int)<(n:Int):=by omega
   clear f;go_wp2_with fail;go_ret;exact⟨_,l,rfl,j.o,C ⟨rfl,fun h=>absurd h p⟩,Fr.refl _ _⟩
def Sz (a b:List Nat):Bool:=a.any (fun x=>Vo b (x:Int))||(a.isEmpty||b.isEmpty)
theorem Ga (a b:List Nat):Sz a b=true↔a=[]\/b=[]\/∃x,x∈a/\x∈b:=by
 simp only[Sz,q1,List.any_eq_true,VK,List.isEmpty_iff]
 constructor
 ·rintro(h|h|h)
  ·exact L (L h)
  ·exact C h
  ·exact L (C h)
 ·rintro(h|h|h)
  ·exact L (C h)
  ·exact L (L h)
  ·exact C h
theorem Pd (w:G)(a s:Option Addr)(c B:Nat)(l b:List Nat)(h:Zw w a l)(n:Zw w s b)(K:l.length<=4000)(f:b.length<=4000):
  z7 z0 138 #[V a l.length c,V s b.length B] w fun e w'=>e=z2 (Z (Sz l b))/\w'=w:=by
 have C:=Za h;have t:=Za (fun x:Nat=>So w s B b x n f);obtain⟨m,u⟩:∃m,l.length=m:=⟨_,rfl⟩;have p:=Za u;obtain⟨v,d⟩:∃m,b.length=m:=⟨_,rfl⟩;have j:=Za d;rw[u]at K ⊢;rw[d]at f t ⊢;clear h n u d;go_enter Tryz.func138,Tryz.ntmps138;go_wp2_with fail
 go_loopg [5] m (fun q i wr=>∃k:Nat,k<=m/\q=m-k/\i=I J k/\wr=w/\H (l.any (fun x=>Vo b (x:Int))=(l.drop k).any fun x=>Vo b (x:Int)))
 case atStart=>exact⟨0,j2 _,rfl,rfl,rfl,rfl⟩
 case round=>
  obtain⟨k,O,rfl,rfl,rfl,y⟩:=hrel;by_cases L:k<m
  ·have z:(k:Int)<(m:Int):=by omega
   obtain⟨x,A⟩:∃x,l[k]?=Y x:=⟨_,gE (by have:=p.o;omega)⟩;obtain⟨g,rfl,P⟩:=C.o k x A
   have r:H (l.any (fun x=>Vo b (x:Int))=(Vo b (x:Int)||(l.drop (k+1)).any fun x=>Vo b (x:Int))):=by
    obtain⟨M,n⟩:=iG.1 A
    show _=_;rw[y.o,dC M,n,List.any_cons]
   clear A;go_wp2_with fail;refine Hz (t.o x) ?_
   cases D:Vo b (x:Int)with
   |true=>
    rw[D,j0]at r;go_wp2_with fail;go_ret;exact⟨by rw[Sz,r.o,j0];rfl,rfl⟩
   |false=>
    rw[D,q4]at r;go_wp2_with fail;go_roundg (m-(k+1))
    case measure=>omega
    case rel=>exact⟨k+1,by omega,rfl,by go_num,rfl,r⟩
  ·have z:¬(k:Int)<(m:Int):=by omega
   have E:H (Sz l b=(decide (m=0)||decide (v=0))):=by
    show _=_;rw[Sz,y.o,dL (by have:=p.o;omega),<-p.o,<-j.o]
    cases l<;>cases b<;>rfl
   clear y C t p j;by_cases F:m=0
   ·subst F
    have N:Sz l b=true:=E.o;go_wp2_with fail;go_ret;exact⟨rfl,rfl⟩
   ·have N:((m:Int)==0)=false:=by simp;omega
    have Q:Sz l b=((v:Int)==0):=by
     rw[E.o,decide_eq_false F,q4];by_cases h:v=0
     ·subst h;rfl
     ·rw[decide_eq_false h];symm;simp;omega
    go_wp2_with fail;go_ret;exact⟨rfl,rfl⟩
theorem IOq {S:Nat->Prop}{w W:G}{o:Obj}(h:w.alloc o=W):Fr S w W:=h▸(Fr.refl _ _).alloc _
theorem F2 {w W:G}{o:Obj}(h:w.alloc o=W):W.heap[w.heap.size]?=Y o:=h▸aN w _
theorem BD {w:G}{g o:Nat}{r:Zc}{a b c:Option Addr}{d e f:Nat}(h:∀j v,(Ac r a d b e c f)[j]?=Y v->w.cell? ⟨g,o+j,K⟩=Y v):
  w.cell? ⟨g,o,K⟩=Y (U r.name)/\w.cell? ⟨g,o+1,K⟩=Y (I J (r.rank:Nat))/\w.cell? ⟨g,o+2,K⟩=Y (I J (r.digits:Nat))/\w.cell? ⟨g,o+3,K⟩=Y (I J (r.lo:Nat))/\w.cell? ⟨g,o+4,K⟩=Y (I J (r.hi:Nat))/\w.cell? ⟨g,o+5,K⟩=Y (V a r.mcc.length d)/\w.cell? ⟨g,o+6,K⟩=Y (V b r.cur.length e)/\w.cell? ⟨g,o+7,K⟩=Y (Z r.am.isSome)/\w.cell? ⟨g,o+8,K⟩=Y (I J ((r.am.getD (0,0)).1:Nat))/\w.cell? ⟨g,o+9,K⟩=Y (I J ((r.am.getD (0,0)).2:Nat))/\w.cell? ⟨g,o+10,K⟩=Y (V c r.routes.length f)/\w.cell? ⟨g,o+11,K⟩=Y (Z r.decline)/\w.cell? ⟨g,o+12,K⟩=Y (Z r.cheapest):=
 ⟨h 0 _ rfl,h 1 _ rfl,h 2 _ rfl,h 3 _ rfl,h 4 _ rfl,h 5 _ rfl,h 6 _ rfl,h 7 _ rfl,h 8 _ rfl,h 9 _ rfl,h 10 _ rfl,h 11 _ rfl,h 12 _ rfl⟩
def sL (r:Zc):Nat:=r.lo*10^(6-r.digits)
def sH (r:Zc):Nat:=(r.hi+1)*10^(6-r.digits)
def aL (r:Zc):Nat:=(r.am.getD (0,1000000000)).1
def aH (r:Zc):Nat:=(r.am.getD (0,1000000000)).2
theorem Nc {n:Nat}{r:Zc}(h:UL n r):sL r<=1000000/\sH r<=1000000:=by
 obtain⟨a,b,c⟩:=h.bn
 have e:10^r.digits*10^(6-r.digits)=1000000:=by rw[<-j1,show r.digits+(6-r.digits)=6 from by omega]
 exact⟨e▸z1 _ (by omega),e▸z1 _ (by omega)⟩
def BE (r s:Zc):Bool:=decide (max (sL r) (sL s)<min (sH r) (sH s))&&(Sz r.mcc s.mcc&&(Sz r.cur s.cur&&decide (max (aL r) (aL s)<=min (aH r) (aH s))))
theorem Lr (w:G)(q:Nat)(a0:List Zd)(R:List Zc)(i k:Nat)(r s:Zc)(h:TO w q a0 R)(E:YE a0 R)(hi:R[i]?=Y r)(hk:R[k]?=Y s):
  z7 z0 85 #[q5 (Y ⟨q,0,K⟩),I J (i:Nat),I J (k:Nat)] w fun e w'=>e=z2 (Z (BE r s))/\F0 w w':=by
 obtain⟨la,lc,W,h3⟩:=h.c2;obtain⟨g,ma,mc,ca,cc,pa,pc,rfl,hc,hm,hu,_⟩:=h3 i r hi;obtain⟨g',b0,i0,c0,j0,m0,n0,e,d0,e0,f0,_⟩:=h3 k s hk;injection e with e;injection e with e _ _;subst e
 have o0:(i:Int)<(R.length:Int):=by have:=(iG.1 hi).1;omega
 have p0:(k:Int)<(R.length:Int):=by have:=(iG.1 hk).1;omega
 have m:=Za (E.rl r (mG hi));have y:=Za (E.rl s (mG hk));obtain⟨v0,v1,v2,v3,v4,v5,v6,v7,v8,v9,L,M,N⟩:=BD hc;have HC:=Za d0;have HM:=Za (And.intro hm (And.intro hu (And.intro e0 f0)));have H2:=Za W;clear h3 E hi hk hc d0 h hm hu e0 f0;go_enter Tryz.func85,Tryz.ntmps85;go_upto_region 2 with fail;generalize O:w.alloc _=W1 at*;have P:H (F0 w W1):=IOq O;have g0:=Za (F2 O)
 have kk:∀{X o:Nat}{v:D},w.cell? ⟨X,o,K⟩=Y v->W1.cell? ⟨X,o,K⟩=Y v:=fun{X o v} hv=>(P.o.cell (p:=⟨X,o,K⟩) (bL w _ hv) (by simp)).trans hv
 have k0:=kk H2.o;clear O v0 v1 v2 v3 v4 v5 v6 v7 v8 v9 L M N W
 obtain⟨v0,v1,v2,v3,v4,v5,v6,v7,v8,v9,L,M,N⟩:=BD fun j v e=>kk (HC.o j v e)
 clear kk;go_upto_region 3 with fail;generalize O:W1.alloc _=x at*;have Q:H (F0 W1 x):=IOq O;have f:=Za (F2 O);have l:=Za (Q.o.whole g0.o (by simp));have C:=Za (P.o.trans Q.o);have z:H (Zw x ma r.mcc/\Zw x ca r.cur/\Zw x b0 s.mcc/\Zw x c0 s.cur):=⟨HM.o.1.fr C.o (by simp),HM.o.2.1.fr C.o (by simp),HM.o.2.2.1.fr C.o (by simp),HM.o.2.2.2.fr C.o (by simp)⟩;clear O v0 v1 v2 v3 v4 v5 v6 v7 v8 v9 L M N k0 g0 P Q HM HC H2;have x2:=bC l.o 2 _ rfl;have x3:=bC l.o 3 _ rfl;have x4:=bC l.o 4 _ rfl;have x5:=bC l.o 5 _ rfl;have x6:=bC l.o 6 _ rfl;have x7:=bC l.o 7 _ rfl;have x8:=bC l.o 8 _ rfl;have x9:=bC l.o 9 _ rfl;have y2:=bC f.o 2 _ rfl;have y3:=bC f.o 3 _ rfl;have y4:=bC f.o 4 _ rfl;have y5:=bC f.o 5 _ rfl;have y6:=bC f.o 6 _ rfl;have y7:=bC f.o 7 _ rfl;have y8:=bC f.o 8 _ rfl;have y9:=bC f.o 9 _ rfl;have dr:=m.o.bn.1;have ds:=y.o.bn.1;have br:r.lo<=1000000000/\r.hi<=1000000000:=⟨by have:=m.o.lo.1;omega,by have:=m.o.hi.1;omega⟩;have bs:s.lo<=1000000000/\s.hi<=1000000000:=⟨by have:=y.o.lo.1;omega,by have:=y.o.hi.1;omega⟩;obtain⟨r0,s0⟩:=br;obtain⟨t0,w0⟩:=bs;have S1:=Za (Ss r.lo r.digits _ x dr rfl (Nc m.o).1);have S2:=Za (Ss (r.hi+1) r.digits _ x dr rfl (Nc m.o).2);have S3:=Za (Ss s.lo s.digits _ x ds rfl (Nc y.o).1);have S4:=Za (Ss (s.hi+1) s.digits _ x ds rfl (Nc y.o).2);have S5:=Za (Pd x ma b0 mc i0 _ _ z.o.1 z.o.2.2.1 m.o.mc.1 y.o.mc.1);have S6:=Za (Pd x ca c0 cc j0 _ _ z.o.2.1 z.o.2.2.2 m.o.cu.1 y.o.cu.1);obtain⟨a,ha⟩:∃a,r.lo*10^(6-r.digits)=a:=⟨_,rfl⟩;obtain⟨b,E⟩:∃a,(r.hi+1)*10^(6-r.digits)=a:=⟨_,rfl⟩;obtain⟨c,hc⟩:∃a,s.lo*10^(6-s.digits)=a:=⟨_,rfl⟩;obtain⟨d,hd⟩:∃a,(s.hi+1)*10^(6-s.digits)=a:=⟨_,rfl⟩
 rw[ha]at S1;rw[E]at S2;rw[hc]at S3;rw[hd]at S4
 have t:H (BE r s=(decide (max a c<min b d)&&(Sz r.mcc s.mcc&&(Sz r.cur s.cur&&decide (max (aL r) (aL s)<=min (aH r) (aH s)))))):=by show _=_;rw[BE,sL,sL,sH,sH,ha,E,hc,hd]
 have HA:H (r.am.isSome=true->aL r=(r.am.getD (0,0)).1/\aH r=(r.am.getD (0,0)).2):=by show _->_;unfold aL aH;cases r.am<;>simp
 have S:H (r.am.isSome=false->aL r=0/\aH r=1000000000):=by show _->_;unfold aL aH;cases r.am<;>simp
 have HB:H (s.am.isSome=true->aL s=(s.am.getD (0,0)).1/\aH s=(s.am.getD (0,0)).2):=by show _->_;unfold aL aH;cases s.am<;>simp
 have h0:H (s.am.isSome=false->aL s=0/\aH s=1000000000):=by show _->_;unfold aL aH;cases s.am<;>simp
 have HH:H (aH r<=1000000000):=by
  show _<=_
  unfold aH
  cases e:r.am with
  |none=>simp
  |some ab=>have:=m.o.am ab e;simp;omega
 generalize(s.am.getD (0,0)).1=sl at*;generalize(s.am.getD (0,0)).2=sh at*;generalize(r.am.getD (0,0)).1=rl at*;generalize(r.am.getD (0,0)).2=rh at*;generalize r.am.isSome=ra at*;generalize s.am.isSome=sa at*;clear ha E hc hd f l
 have e1:∀n:Nat,((n+1:Nat):Int)=(n:Int)+1:=fun n=>by omega
 rw[e1]at S2 S4;clear e1;go_wp2_with fail;refine Hz S1.o ?_;go_wp2_with fail;refine Hz S2.o ?_;go_wp2_with fail;refine Hz S3.o ?_
 go_upto_if 46 with fail
 go_cut [9] (fun u A=>u=I J ((max a c:Nat):Int)/\x=A)
 case first=>
  by_cases U:a<c
  ·have V:(a:Int)<(c:Int):=by omega
   go_wp2_with fail;refine Hz S3.o ?_;go_wp2_with fail;go_meet;exact⟨by rw[y1 (by omega)],rfl⟩
  ·have V:¬(a:Int)<(c:Int):=by omega
   go_wp2_with fail;go_meet;exact⟨by rw[z4 (by omega)],rfl⟩
 case rest=>
  obtain⟨rfl,rfl⟩:=hcut;generalize max a c=F at*;go_wp2_with fail;refine Hz S4.o ?_
  go_upto_if 59 with fail
  go_cut [10] (fun u A=>u=I J ((min b d:Nat):Int)/\x=A)
  case first=>
   by_cases U:d<b
   ·have V:(d:Int)<(b:Int):=by omega
    go_wp2_with fail;refine Hz S4.o ?_;go_wp2_with fail;go_meet;exact⟨by rw[q0 (by omega)],rfl⟩
   ·have V:¬(d:Int)<(b:Int):=by omega
    go_wp2_with fail;go_meet;exact⟨by rw[z5 (by omega)],rfl⟩
  case rest=>
   obtain⟨rfl,rfl⟩:=hcut;generalize min b d=T at*;go_wp2_with fail;refine Hz S5.o ?_;go_wp2_with fail;refine Hz S6.o ?_
   go_upto_if 77 with fail
   go_cut [13,14] (fun u v A=>u=I J ((aL r:Nat):Int)/\v=I J ((aH r:Nat):Int)/\x=A)
   case first=>
    cases ra with
    |true=>
     go_wp2_with fail;go_meet;exact⟨by rw[(HA.o (by simp)).1],by rw[(HA.o (by simp)).2],rfl⟩
    |false=>
     go_wp2_with fail;go_meet;exact⟨by rw[(S.o (by simp)).1];rfl,by rw[(S.o (by simp)).2];rfl,rfl⟩
   case rest=>
    obtain⟨rfl,rfl,rfl⟩:=hcut;clear HA S;generalize aL r=l1 at*;generalize aH r=B at*
    cases sa
    case' false=>
     rw[(h0.o rfl).1,(h0.o rfl).2,z4 (j2 _),z5 HH.o]at t;go_upto_region 20 with fail;obtain⟨l2,rfl⟩:∃l2,l2=l1:=⟨_,rfl⟩;obtain⟨W,rfl⟩:∃W,W=B:=⟨_,rfl⟩
    case' true=>
     rw[(HB.o rfl).1,(HB.o rfl).2]at t
     go_upto_if 89 with fail
     go_cut [13] (fun u A=>u=I J ((max l1 sl:Nat):Int)/\x=A)
     case first=>
      by_cases U:l1<sl
      ·have V:(l1:Int)<(sl:Int):=by omega
       go_wp2_with fail;go_meet;exact⟨by rw[y1 (by omega)],rfl⟩
      ·have V:¬(l1:Int)<(sl:Int):=by omega
       go_wp2_with fail;go_meet;exact⟨by rw[z4 (by omega)],rfl⟩
     case' rest=>
      obtain⟨rfl,rfl⟩:=hcut;generalize max l1 sl=l2 at*
      go_upto_if 99 with fail
      go_cut [14] (fun u A=>u=I J ((min B sh:Nat):Int)/\x=A)
      case first=>
       by_cases U:sh<B
       ·have V:(sh:Int)<(B:Int):=by omega
        go_wp2_with fail;go_meet;exact⟨by rw[q0 (by omega)],rfl⟩
       ·have V:¬(sh:Int)<(B:Int):=by omega
        go_wp2_with fail;go_meet;exact⟨by rw[z5 (by omega)],rfl⟩
      case' rest=>
       obtain⟨rfl,rfl⟩:=hcut;generalize min B sh=W at*
    all_goals
     by_cases B:F<T
     ·have l0:(F:Int)<(T:Int):=by omega
      rw[decide_eq_true B,Bool.true_and]at t;generalize Sz r.mcc s.mcc=c1 at*;generalize Sz r.cur s.cur=c2 at*
      cases c1 with
      |false=>
       go_wp2_with fail;go_ret;exact⟨by rw[t.o];rfl,C.o⟩
      |true=>
       cases c2 with
       |false=>
        go_wp2_with fail;go_ret;exact⟨by rw[t.o];rfl,C.o⟩
       |true=>
        go_wp2_with fail;go_ret;exact⟨by rw[t.o];rfl,C.o⟩
     ·have l0:¬(F:Int)<(T:Int):=by omega
      rw[decide_eq_false B,Bool.false_and]at t;go_wp2_with fail;go_ret;exact⟨by rw[t.o];rfl,C.o⟩
theorem IP {l:List Nat}(a:0∈l):∀c,∃b,b∈l/\b<=c/\∀x,x∈l->x<=c->x<=b
 |0=>⟨0,a,z9 _,fun _ _ h=>h⟩
 |c+1=>by
  by_cases h:c+1∈l
  ·exact⟨c+1,h,z9 _,fun _ _ h=>h⟩
  ·obtain⟨b,f,i,g⟩:=IP a c
   exact⟨b,f,by omega,fun x d j=>g x d (by have:x≠c+1:=fun e=>h (e▸d);omega)⟩
def Nd (l:List Nat)(m n:Nat)(Q:Nat->Prop):Prop:=(∀x,x∈l->x<=m)/\l.length<=n/\∀x,Q x->x<=m->x∈l
theorem Nd.more {l l':List Nat}{m n x:Nat}{Q:Nat->Prop}(h:Nd l m n Q)(g:l'=l/\(x<=m->x∈l)\/l'=l++[x]/\x<=m):Nd l' m (n+1) fun y=>Q y\/y=x:=by
 obtain⟨c,i,d⟩:=h;rcases g with⟨rfl,f⟩|⟨rfl,f⟩
 ·exact⟨c,by omega,fun y a b=>a.elim (fun h=>d y h b) fun e=>e▸f (e▸b)⟩
 ·refine⟨fun y a=>?_,by simp;omega,fun y a b=>?_⟩
  ·rcases List.mem_append.1 a with h|h
   ·exact c y h
   ·simp at h;omega
  ·rcases a with h|h
   ·exact List.mem_append_left _ (d y h b)
   ·simp[h]
theorem Nd.weak {l:List Nat}{m n a:Nat}{Q Q':Nat->Prop}(h:Nd l m n Q)(b:n<=a)(c:∀x,Q' x->Q x):Nd l m a Q':=⟨h.1,q8 h.2.1 b,fun x d=>h.2.2 x (c x d)⟩
theorem Cy {r:Zc}{c:Nat}:(decide (r.lo<=c/10^(6-r.digits))&&decide (c/10^(6-r.digits)<=r.hi))=(decide (sL r<=c)&&decide (c<sH r)):=by
 have a:0<10^(6-r.digits):=y0 (by decide);rw[sL,sH,decide_eq_decide.2 (Nat.le_div_iff_mul_le a),decide_eq_decide.2 (show c/10^(6-r.digits)<=r.hi↔_ from Nat.lt_succ_iff.symm.trans (Nat.div_lt_iff_lt_mul a))]
theorem Uc (r:Zc)(p:ZI):Yr r p=((decide (sL r<=Zz p.pan)&&decide (Zz p.pan<sH r))&&VO r p):=by rw[Yr,<-Bool.and_assoc,Cy]
structure Dx (R:List Zc)(bs ms am cs:List Nat):Prop where
 b:∃n,Nd bs 999999 n fun x=>x=0\/∃r,r∈R/\(x=sL r\/x=sH r)
 a:∃n,Nd am 1000000000 n fun x=>x=0\/∃r,r∈R/\∃ab,r.am=Y ab/\(x=ab.1\/x=ab.2+1)
 m:(∃o,o∈ms/\∀r,r∈R->o∉r.mcc)/\∃n,Nd ms 9999 n fun x=>∃r,r∈R/\x∈r.mcc
 c:(∃o,o∈cs/\∀r,r∈R->o∉r.cur)/\∃n,Nd cs 999 n fun x=>∃r,r∈R/\x∈r.cur
theorem CR {R:List Zc}{f:Zc->List Nat}{l:List Nat}{M:Nat}(h:(∃o,o∈l/\∀r,r∈R->o∉f r)/\∃n,Nd l M n fun x=>∃r,r∈R/\x∈f r){n:Int}(c:0<=n)(i:n<=M):∃x,x∈l/\∀r,r∈R->Vo (f r) (x:Int)=Vo (f r) n:=by
 obtain⟨⟨o,d,e⟩,k,j,m,g⟩:=h;obtain⟨y,rfl⟩:=Int.eq_ofNat_of_zero_le c;by_cases a:∃r,r∈R/\y∈f r
 ·exact⟨y,g y a (by omega),fun _ _=>rfl⟩
 ·refine⟨o,d,fun r b=>?_⟩
  rw[z6,VK,VK];exact⟨fun h=>absurd h (e r b),fun h=>absurd ⟨r,b,h⟩ a⟩
theorem Dx.cover {R:List Zc}{bs w y z:List Nat}(h:Dx R bs w y z){p:ZI}(n:Yd p=true):
  ∃b m a c,b∈bs/\m∈w/\a∈y/\c∈z/\∀d:ZI,Zz d.pan=b->d.mcc=(m:Int)->d.am=(a:Int)->d.cur=(c:Int)->∀r,r∈R->Yr r d=Yr r p:=by
 rw[Y7]at n;simp only[A,XD,decide_eq_true_eq]at n;obtain⟨B,⟨D,E⟩,⟨F,X⟩,G,H⟩:=n;obtain⟨_,Y,_,o⟩:=h.b;obtain⟨_,Z,_,q⟩:=h.a;obtain⟨x,s⟩:=Int.eq_ofNat_of_zero_le F;have hc:Zz p.pan<1000000:=Li B;obtain⟨b,I,J,k⟩:=IP (o 0 (C rfl) (by decide)) (Zz p.pan);obtain⟨a,K,M,l⟩:=IP (q 0 (C rfl) (by decide)) x;obtain⟨m,N,t⟩:=CR (f:=Zc.mcc) h.m D E;obtain⟨c,u,v⟩:=CR (f:=Zc.cur) h.c G H;refine⟨b,m,a,c,I,N,K,u,fun d O P Q S r i=>?_⟩;rw[Uc,Uc,VO,VO,O,P,S,t r i,v r i]
 have T:(decide (sL r<=b)&&decide (b<sH r))=(decide (sL r<=Zz p.pan)&&decide (Zz p.pan<sH r)):=by
  have U:sL r<=Zz p.pan->sL r<=b:=fun g=>k _ (o _ (L ⟨r,i,C rfl⟩) (by omega)) g
  have V:sH r<=Zz p.pan->sH r<=b:=fun g=>k _ (o _ (L ⟨r,i,L rfl⟩) (by omega)) g
  rw[z6];simp only[A,decide_eq_true_eq];omega
 have W:OH r d=OH r p:=by
  unfold OH
  cases e:r.am with
  |none=>rfl
  |some j=>
   have U:j.1<=x->j.1<=a:=fun g=>l _ (q _ (L ⟨r,i,j,e,C rfl⟩) (by omega)) g
   have V:j.2+1<=x->j.2+1<=a:=fun g=>l _ (q _ (L ⟨r,i,j,e,L rfl⟩) (by omega)) g
   dsimp only
   rw[Q,s,z6];simp only[A,decide_eq_true_eq];omega
 rw[T,W]
def Cz (R:List Zc)(S:List ZI):Prop:=S.length<=400000/\(∀p,p∈S->Yd p=true)/\∀p,Yd p=true->∃a,a∈S/\∀r,r∈R->Yr r a=Yr r p
def XH (S:List ZI):List D:=S.flatMap fun p=>[U p.pan,I J p.mcc,I J p.am,I J p.cur]
def Rt (R:List Zc)(p:ZI):Option Nat:=YK (ZA R) (Y1 R p (Zz p.pan)) R.length
theorem Pe {rk:Nat->Nat}{f g:Nat->Bool}:∀n,(∀i,i<n->f i=g i)->YK rk f n=YK rk g n
 |0,_=>rfl
 |n+1,h=>by
  unfold YK;rw[Pe n fun i a=>h i (by omega),h n (by omega)]
theorem Cz.best {R:List Zc}{S:List ZI}(h:Cz R S)(k:Nat):(∃p,p∈S/\Rt R p=Y k)↔∃p,Yd p=true/\Rt R p=Y k:=by
 refine⟨fun⟨p,a,e⟩=>⟨p,h.2.1 p a,e⟩,fun⟨p,a,e⟩=>?_⟩;obtain⟨c,d,f⟩:=h.2.2 p a;refine⟨c,d,?_⟩;rw[<-e];unfold Rt
 refine Pe _ fun i b=>?_
 rw[UT R c i _ (gE b),UT R p i _ (gE b)];exact f _ (List.getElem_mem b)
