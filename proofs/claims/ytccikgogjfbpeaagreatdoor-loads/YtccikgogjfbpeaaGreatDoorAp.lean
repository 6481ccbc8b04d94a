import Derived.Test.YtccikgogjfbpeaaGreatDoorAl
import Derived.Laws.AppendOwnNone
import Derived.Maps.OwnSet
import Derived.Maps.Views
open Option renaming none->I,some->J
open Go.Value renaming slice->P,int->V,pointer->Z,slice->B,string->Q,bool->j1,agg->j2,oneCell'->j3,ownBlock->j4,string->k6
open Go.IntKind renaming i64->Y,u8->g5,u64->p8
open Go.Proofs.Tryz renaming prog->U
open Or renaming inr->O,inl->E
open Go.RowKit renaming Hid->A
open Go renaming World->C,Value->q8,Calls->j0
open Nat renaming le_trans->z8,pow_le_pow_right->j6,le_of_eq->j9,le_refl->k4,zero_le->k5,zero_add->k7,add_zero->k8,sub_self->g9
open Go.Ending renaming returned->z9
open Go.Obj renaming cells->y8
open Go.AllReadyH renaming nil->y9
open Go.World renaming news_of_block->q9
open List renaming getElem?_append_left->j5,take_add_one->j7,length_take->j8,map_append->k0,idxOf_append->k9,mem_append->g6,length_map->g7,range->p9
namespace Go.Proofs.YtccikgogjfbpeaaGreatDoor
set_option maxRecDepth 30000
set_option maxHeartbeats 8000000
open Go.RowKit
structure yU (zb:Nat)(w:C)(G:Nat)(rls:List Ze)(ord:Nat->Nat):Prop where
 zl:zb<=w.heap.size
 rl:∃va c,w.cell? ⟨G,0,I⟩=J (P va rls.length c)/\∀i r,rls[i]?=J r->∃g ma mc ca cc pa pc,va=J ⟨g,0,I⟩/\g<w.heap.size/\
   (∀o v,[Q r.name,V Y r.rank,V Y r.digits,V Y r.lo,V Y r.hi,P ma r.mcc.length mc,j1 r.am.isSome,V Y (r.am.getD (0,0)).1,V Y (r.am.getD (0,0)).2,P ca r.cur.length cc,j1 r.decline,j1 r.cheapest,P pa r.routes.length pc,V Y r.ahead][o]?=J v->w.cell? ⟨g,i*14+o,I⟩=J v)/\
   w.ownsRow zb 3 1 (P ma r.mcc.length mc) r.mcc.length (Zg r.mcc)/\w.ownsRow zb 3 1 (P ca r.cur.length cc) r.cur.length (Zg r.cur)/\w.ownsRow zb 3 1 (P pa r.routes.length pc) r.routes.length (Zg r.routes)
 od:∃oa oc,w.cell? ⟨G,1,I⟩=J (P oa rls.length oc)/\∀k,k<rls.length->∃og,oa=J ⟨og,0,I⟩/\og<w.heap.size/\w.cell? ⟨og,k,I⟩=J (V Y (ord k))
theorem yU.fr {l w w' G b d}(h:yU l w G b d)(a:F0 w w'):yU l w' G b d:=by
 obtain⟨s,⟨t,c,m,u⟩,x,y,n,z⟩:=h;refine⟨z8 s a.size,⟨t,c,(a.cell (p:=⟨G,0,I⟩) (bL w _ m)).trans m,fun i r hi=>?_⟩,x,y,(a.cell (p:=⟨G,1,I⟩) (bL w _ n)).trans n,fun k A=>?_⟩
 ·obtain⟨g,B,C,D,E,F,H,f,e,j,J,K,L⟩:=u i r hi
  exact⟨g,B,C,D,E,F,H,f,nL e a.size,fun o v M=>(a.cell (p:=⟨g,i*14+o,I⟩) e).trans (j o v M),oF J a,oF K a,oF L a⟩
 obtain⟨q,f,e,j⟩:=z k A
 exact⟨q,f,nL e a.size,(a.cell (p:=⟨q,k,I⟩) e).trans j⟩
theorem Vg (m:Nat):∀(a:Nat)(l:List Zl),(ZN m a l).length=l.length
 |_,[]=>rfl
 |a,_::r=>by show(ZN m (a+1) r).length+1=r.length+1;rw[Vg m (a+1) r]
theorem Xl.get {d:Nat}{w:C}:∀{l:List Zl}{a:List q8}{j:Nat}{s:Zl},Xl d w l a->l[j]?=J s->∃c,uH d w s c/\∀o v,c[o]?=J v->a[j*4+o]?=J v
 |[],_,j,_,_,hj=>by simp at hj
 |s::r,a,0,s',⟨c,rest,e,h1,h2⟩,hj=>by
  simp at hj;subst hj;refine⟨c,h1,fun o v b=>?_⟩;have:=(iG.1 b).1;rw[e,Nat.zero_mul,k7,j5 this];exact b
 |s::r,a,j+1,s',⟨c,rest,e,h1,h2⟩,hj=>by
  obtain⟨f,g,h⟩:=Xl.get h2 (j:=j) (s:=s') (by simpa using hj)
  have l:c.length=4:=by obtain⟨k,i,_⟩:=h1;rw[i];rfl
  refine⟨f,g,fun o v b=>?_⟩;rw[e,aR (by omega),l,show(j+1)*4+o-4=j*4+o from by omega];exact h o v b
theorem Xl.ones {f:Nat}{w:C}:∀{l:List Zl}{d:List q8},Xl f w l d->∀u,u∈d->u.oneCell'=true
 |[],_,h,u,hu=>by
  have e:=h;rw[e]at hu;simp at hu
 |s::r,d,⟨c,rest,e,⟨vn,e1,h1⟩,h2⟩,u,hu=>by
  rw[e,e1]at hu;rcases g6.1 hu with h|h
  ·obtain⟨a,b,g⟩:=oL h1
   rw[g]at h;simp only[List.mem_cons,List.not_mem_nil,or_false]at h
   rcases h with rfl|rfl|rfl|rfl<;>rfl
  exact Xl.ones h2 u h
theorem Xl.skip {b:Nat}{w:C}:∀{l:List Zl}{a:List q8}{j:Nat}{s:Zl}(k:Nat),Xl b w l a->l[j]?=J s->Xl b w (l.set j {s with skip:=k}) (a.set (j*4+3) (V Y k))
 |[],_,j,_,_,_,hj=>by simp at hj
 |s::r,a,0,s',k,⟨c,rest,e,⟨vn,e1,h1⟩,h2⟩,hj=>by
  simp at hj;subst hj;subst e e1;exact⟨[V g5 s.sort,vn,V Y s.rule,V Y k],rest,rfl,⟨vn,rfl,h1⟩,h2⟩
 |s::r,a,j+1,s',k,⟨c,rest,e,⟨vn,e1,h1⟩,h2⟩,hj=>by
  subst e e1;refine⟨[V g5 s.sort,vn,V Y s.rule,V Y s.skip],rest.set (j*4+3) (V Y k),?_,⟨vn,rfl,h1⟩,Xl.skip k h2 (by simpa using hj)⟩;rw[show(j+1)*4+3=j*4+3+4 from by omega];rfl
def ST (b:List Zl)(a:Nat):List Zl:=(ZN b.length 0 b).take a++b.drop a
theorem N9 (m:Nat):∀(l:List Zl)(b a:Nat)(s:Zl),l[a]?=J s->(ZN m b l)[a]?=J {s with skip:=m-(b+a)+1}
 |[],_,_,_,h=>by simp at h
 |x::r,b,0,s,h=>by
  simp at h;subst h;rfl
 |x::r,b,a+1,s,h=>by
  show(ZN m (b+1) r)[a]?=_
  rw[N9 m r (b+1) a s (by simpa using h),show b+1+a=b+(a+1)from by omega]
theorem CD {b a s}(h:b[a]?=J s):(ST b a)[a]?=J s/\ST b (a+1)=(ST b a).set a {s with skip:=b.length-a+1}:=by
 have f:=(iG.1 h).1;have g:=Vg b.length 0 b;have d:=N9 b.length b 0 a s h;rw[k7]at d
 have e:b.drop a=s::b.drop (a+1):=by
  rw[dC f];rw[(iG.1 h).2]
 have c:((ZN b.length 0 b).take a).length=a:=by rw[j8];omega
 unfold ST
 constructor
 ·rw[aR (by omega),c,g9,e]
  rfl
 rw[j7,d,e,List.set_append,if_neg (by omega),c,g9]
 simp
theorem Kn (a):ST a 0=a:=by simp[ST]
theorem AR (a):ST a a.length=ZN a.length 0 a:=by
 unfold ST;rw[List.take_of_length_le (by rw[Vg];exact k4 _),dL (k4 _),List.append_nil]
theorem Om (b a)(h:a<=b.length):(ST b a).length=b.length:=by
 unfold ST;rw[lA,j8,List.length_drop,Vg];omega
theorem Tm (r):(Z4 r).length<=3:=by
 rw[NN,lA,lA];unfold Fw BU Fx
 split<;>split<;>split<;>simp
def X6 (n:Nat)(a:Nat->Nat):List Nat:=(p9 n).map a
theorem CE {n k a}(h:k<n):(X6 n a).drop k=a k::(X6 n a).drop (k+1):=by
 have b:k<(X6 n a).length:=by unfold X6;simpa using h
 rw[dC b]
 have e:(X6 n a)[k]=a k:=by simp[X6]
 rw[e]
theorem IZ (R met i L r)(h:R[i]?=J r):ZI R met (i::L)=if met.testBit i then(if Z4 r=[]then[UG i r]else Sd r++(UG i r::ZI R met L))else ZI R met L:=by
 rw[ZI,h]
structure sM (zb:Nat)(w:C)(R:List Ze)(met n:Nat)(ord:Nat->Nat)(k:Nat)(v:q8)(l:List Zl)(wr:C):Prop where
 row:Z2 zb wr w.heap.size v l
 fr:F0 w wr
 eq:ZI R met (X6 n ord)=l++ZI R met ((X6 n ord).drop k)
 le:l.length<=k*4
structure I0 (zb:Nat)(w0:C)(v:q8)(gs:List Zl)(a:Nat)(wx:C):Prop where
 row:Z2 zb wx w0.heap.size v (ST gs a)
 fr:F0 w0 wx
theorem I0.step {i w0 e g m c a b}(h:I0 i w0 (P (J ⟨g,0,I⟩) m c) b a e)(f:b.length=m)(A:a<m):
  I0 i w0 (P (J ⟨g,0,I⟩) m c) b (a+1) (e.setCell ⟨g,a*4+3,I⟩ (V Y ((m-a+1:Nat):Int)))/\(∃u,e.cell? ⟨g,a*4+3,I⟩=J u)/\e.frozen? ⟨g,a*4+3,I⟩=false:=by
 obtain⟨o,d,j⟩:=h.row;rw[Om b a (by omega),f]at d;obtain⟨s,q⟩:∃s,b[a]?=J s:=⟨_,gE (by omega)⟩;obtain⟨k,r⟩:=CD q;obtain⟨t,w⟩:=d.stored (a*4+3) (V Y ((m-a+1:Nat):Int));obtain⟨B,⟨C,rfl,_⟩,x⟩:=j.get k;have y:=x 3 _ rfl;have z:=(d.lt g rfl).1;refine⟨⟨⟨o.set (a*4+3) (V Y ((m-a+1:Nat):Int)),?_,?_⟩,h.fr.setCell (p:=⟨g,a*4+3,I⟩) (O z) _⟩,⟨_,(d.cellAt (a*4+3) (by omega)).trans y⟩,d.frozenAt _⟩
 ·rw[Om b (a+1) (by omega),f]
  exact t
 rw[r,f]
 refine(j.skip (m-a+1) k).keep fun v n D l=>l.kept w (WI l d (by decide))
theorem Dc {l W G R k}(h:yU l W G R k)(i:Nat)(r)(m:R[i]?=J r):
  j0 U 223 #[Z (J ⟨G,0,I⟩),V Y i] W fun e w'=>(∃s a b c,∃d:List Nat,e=z9 (j2 #[V g5 (s:Nat),P a b c,V Y i,V Y 0])/\UG i r=⟨s,d,i,0⟩/\w'.ownsRow l 3 1 (P a b c) d.length (Zg d))/\F0 W w':=by
 obtain⟨v,c,q,t⟩:=h.rl;obtain⟨g,w,x,y,z,n,o,rfl,_,f,_,_,u⟩:=t i r m;refine(IN W G _ _ _ _ _ _ _ _ _ _ _ _ _ _ _ _ _ _ _ _ g R.length c i q (iG.1 m).1 f).mono ?_;rintro e w' ⟨rfl,p⟩;refine⟨?_,p⟩;have j:=oF u p;unfold UG
 cases r.decline with
 |true=>exact⟨3,I,0,0,[],rfl,rfl,oZ _ _ _ _⟩
 |false=>
  cases r.cheapest with
  |true=>exact⟨5,n,_,o,r.routes,rfl,rfl,j⟩
  |false=>exact⟨4,n,_,o,r.routes,rfl,rfl,j⟩
theorem FJ {zb}(w G R y)(met:Nat)(h:yU zb w G R y)(hn:R.length<=8)(hm:met<256)(ho:∀k,k<R.length->y k<R.length)(hR:∀r,r∈R->r.mcc.length<=4000/\r.cur.length<=4000):
  j0 U 187 #[Z (J ⟨G,0,I⟩),V .u64 met] w fun e w'=>(∃v,e=z9 v/\Z2 zb w' w.heap.size v (ZI R met (X6 R.length y)))/\F0 w w':=by
 obtain⟨ii,X,p0,q0,r0⟩:=info_parts TA;have HG:=Za h;have HO:=Za ho;have n1:=Za hR;obtain⟨oa,oc,c1,P0⟩:=h.od;have Q0:=Za P0;obtain⟨n,A0⟩:∃n,R.length=n:=⟨_,rfl⟩;have HN:=Za A0;rw[A0]at c1 hn;clear h ho hR P0 A0;go_enter Tryz.func187,Tryz.ntmps187;go_wp2_with fail
 go_loopg [5,15] n (fun m v kv wr=>∃k l,k<=n/\m=n-k/\kv=V Y (k:Nat)/\A (sM zb w R met n y k v l wr))
 case atStart=>exact⟨0,[],k5 _,rfl,rfl,⟨⟨[],oZ _ _ _ _,rfl⟩,Zt,rfl,by simp⟩⟩
 obtain⟨k,l,hk,rfl,rfl,N⟩:=hrel;obtain⟨xs,B0,R0⟩:=N.o.row;obtain⟨va,vc,e3⟩:=oL B0;subst e3;have F:A (wr.ownsRow w.heap.size 208 4 (P va l.length vc) l.length xs/\Xl zb wr l xs):=⟨B0,R0⟩;have P1:=N.o.le;have Q1:=N.o.fr.size;clear B0 R0;by_cases o1:k<n
 ·have r1:(k:Int)<(n:Int):=by omega
  obtain⟨og,s1,z0,C0⟩:=Q0.o k (by have:=HN.o;omega);subst s1;obtain⟨i,hi⟩:∃i,y k=i:=⟨_,rfl⟩;have HI:=Za hi
  have R1:i<n:=by have:=HO.o k (by have:=HN.o;omega);have:=HN.o;omega
  rw[hi]at C0;have d0:=(N.o.fr.cell (p:=⟨og,k,I⟩) z0).trans C0;obtain⟨r,hr⟩:∃r,R[i]?=J r:=⟨_,gE (by have:=HN.o;omega)⟩;have s0:=Za hr
  have a0:A (∀W,j0 U 145 #[V .u64 met,V Y i] W fun e w'=>e=z9 (j1 (met.testBit i))/\w'=W):=fun W=>EZ met i W hm (by omega)
  have Q:A (ZI R met ((X6 n y).drop k)=if met.testBit i then(if Z4 r=[]then[UG i r]else Sd r++(UG i r::ZI R met ((X6 n y).drop (k+1))))else ZI R met ((X6 n y).drop (k+1))):=by
   show _=_
   rw[CE o1,hi,IZ R met i _ r hr]
  clear hi hr C0
  cases hb:met.testBit i with
  |false=>
   rw[hb]at a0 Q;go_wp2_with fail;refine(a0.o _).mono ?_;rintro e w2 ⟨rfl,hw⟩;replace hw:=hw.symm;subst hw;go_wp2_with fail;go_roundg (n-(k+1))
   case measure=>omega
   refine⟨k+1,l,by omega,rfl,by go_num,⟨N.o.row,N.o.fr,?_,by omega⟩⟩;have e:=N.o.eq;rw[Q.o]at e
   simpa using e
  |true=>
   rw[hb]at a0 Q;have D0:=HG.o.fr N.o.fr;obtain⟨S1,c2,g0,S0⟩:=D0.rl;obtain⟨g,ma,mc,ca,cc,pa,pc,eg,t0,b,T0,V0,W0⟩:=S0 i r s0.o;subst eg;rw[HN.o]at g0;have v0:=b 0 _ rfl;have v1:=b 1 _ rfl;have v2:=b 2 _ rfl;have v3:=b 3 _ rfl;have v4:=b 4 _ rfl;have v5:=b 5 _ rfl;have v6:=b 6 _ rfl;have v7:=b 7 _ rfl;have v8:=b 8 _ rfl;have v9:=b 9 _ rfl;have t1:=b 10 _ rfl;have w1:=b 11 _ rfl;have x1:=b 12 _ rfl;have A1:=b 13 _ rfl;rw[k8]at v0;have E0:=n1.o r (mG s0.o)
   have G0:A (j0 U 222 #[GS r.name r.rank r.digits r.lo r.hi ma r.mcc.length mc r.am.isSome (r.am.getD (0,0)).1 (r.am.getD (0,0)).2 ca r.cur.length cc r.decline r.cheapest pa r.routes.length pc r.ahead] wr fun e w'=>(∃v,e=z9 v/\Z2 zb w' wr.heap.size v (Z4 r)/\(Z4 r=[]->v=P I 0 0))/\F0 wr w'):=by
    rw[NN];exact Fy r.name r.rank r.digits r.lo r.hi ma mc r.am.isSome _ _ ca cc r.decline r.cheapest pa r.routes.length pc r.ahead r.mcc r.cur wr D0.zl T0 V0 E0.1 E0.2
   unfold GS at G0;have B1:=Za b;have C1:=Za t0;have q:=Za W0
   have T1:(i:Int)<(n:Int):=by omega
   clear b T0 V0 W0 E0 S0 D0 t0;go_wp2_with fail;refine(a0.o _).mono ?_;rintro e w2 ⟨rfl,hw⟩;replace hw:=hw.symm;subst hw;go_wp2_with fail;refine G0.o.mono ?_;rintro e w3 ⟨⟨V1,rfl,X0,H0⟩,Y0⟩;obtain⟨f,b0⟩:∃f,Z4 r=f:=⟨_,rfl⟩;have W1:=Za b0
   have t0:f.length<=3:=by rw[<-b0];exact Tm r
   rw[show Sd r=ZN (Z4 r).length 0 (Z4 r)from rfl,b0]at Q;rw[b0]at X0 H0;obtain⟨D1,z,c0⟩:=X0;obtain⟨e0,S,e8⟩:=oL z;subst e8;obtain⟨m,f0⟩:∃m,f.length=m:=⟨_,rfl⟩;have T:=Za f0;obtain⟨wo,E1⟩:∃x,x=wr:=⟨_,rfl⟩;subst E1;have Z0:A (I0 zb wo (P e0 m S) f 0 w3):=⟨⟨D1,by rw[Kn,<-f0];exact z,by rw[Kn];exact c0⟩,Y0⟩
   have F1:A (f=[]->B e0 m S=P I 0 0):=by rw[<-f0];exact H0
   rw[f0]at t0 ⊢;clear b0 f0 H0 z c0 Y0 v0 v1 v2 v3 v4 v5 v6 v7 v8 v9 t1 w1 x1 A1 g0 a0 G0 B1 C1 q d0 z0 c1 Q0;go_wp2_with fail
   go_loopg [33] m (fun mm kv wx=>∃a,a<=m/\mm=m-a/\kv=V Y (a:Nat)/\A (I0 zb wo (P e0 m S) f a wx))
   case atStart=>exact⟨0,k5 _,rfl,rfl,Z0⟩
   obtain⟨a,ha,rfl,rfl,HF⟩:=hrel;by_cases d1:a<m
   ·have f1:(a:Int)<(m:Int):=by omega
    obtain⟨g8,e8⟩:∃g8,e0=J ⟨g8,0,I⟩:=by
     obtain⟨X1,G1,_⟩:=HF.o.row;rcases G1.2 with⟨e,_⟩|⟨g',L1,Y1,e,_⟩
     ·injection e with _ e2 _
      omega
     injection e with e1 _ _
     exact⟨g',e1⟩
    subst e8;obtain⟨J0,⟨u,hu⟩,Z1⟩:=HF.o.step T.o d1;rw[show((m-a+1:Nat):Int)=(m:Int)-a+1 from by omega]at J0;have H1:=Za J0;clear J0;go_wp2_with fail;go_roundg (m-(a+1))
    case measure=>omega
    exact⟨a+1,by omega,rfl,by go_num,H1⟩
   have I1:a=m:=by omega
   subst I1
   have f1:¬(a:Int)<(a:Int):=by omega
   have K0:=N.o.fr.trans HF.o.fr;have L0:=Za K0
   have J1:A (Z2 zb wr wo.heap.size (P e0 a S) (ZN f.length 0 f)):=by
    have e:=HF.o.row;rw[<-T.o,AR]at e;rw[<-T.o];exact e
   have q:A (wr.ownsRow w.heap.size 208 4 (P va l.length vc) l.length xs/\Xl zb wr l xs):=⟨oF F.o.1 HF.o.fr,F.o.2.keep (fun v n ys hv=>oF hv HF.o.fr)⟩;have g1:=K0.size;clear K0 HF Z0 F;by_cases i1:a=0
   ·subst i1
    have L:=List.length_eq_zero_iff.1 T.o;have e8:=F1.o L;injection e8 with e8 _ e9;subst e8 e9
    go_wp2_with (at_builtin;refine wpList_append_own_none rfl (.tmp 46) (.tmp 47) 129 rfl w.heap.size 208 ii 4 Tryz.underlying129 X (P va l.length vc) l.length xs rfl ?h1 rfl ?h2)
    case h1=>exact q.o.1
    refine(Dc (HG.o.fr L0.o) i r s0.o).mono ?_;rintro e w5 ⟨⟨s,a1,b1,c1,h0,rfl,C,D⟩,H⟩;have i0:=Za C;have k0:=Za D;have l0:=Za H;have k1:w.heap.size<=w5.heap.size:=z8 g1 H.size;clear C D H
    go_wp2_with (at_builtin;refine wpList_append_lies _ rfl (.tmp 49) (.tmp 53) 129 rfl w.heap.size 208 ii _ 4 48 Tryz.underlying129 X p0 q0 r0 rfl (by decide) (P va l.length vc) l.length xs rfl ?q1 ⟨w5.heap.size,0,I⟩ 1 1 [V g5 s,P a1 b1 c1,V Y i,V Y 0] rfl rfl ?q2 ?q3 (by decide) ?q4 ?q5 ?q6 _ rfl ?_)
    case q1=>exact(oF q.o.1 l0.o).alloc _
    case q2=>exact q9 (aN w5 (y8 #[V g5 s,P a1 b1 c1,V Y i,V Y 0] 208))
    case q3=>simp[j3]
    case q4=>unfold maxLen;omega
    case q5=>omega
    case q6=>simp;omega
    intro g2 t w6 d c K _
    have E:A (Z2 zb w6 w.heap.size (P (J ⟨g2,0,I⟩) (l.length+1) t) (l++[UG i r])/\F0 w w6):=by
     have hf:=l0.o.alloc (y8 #[V g5 s,P a1 b1 c1,V Y i,V Y 0] 208);rw[i0.o];refine⟨Z2.grown (l':=[⟨s,h0,i,0⟩]) (oF q.o.1 hf) (q.o.2.keep (fun v n ys hv=>oF hv hf)) (Xl.one ⟨_,rfl,k0.o.alloc _⟩) c d,(L0.o.trans hf).grown c (fun k hk=>O (q.o.1.lt k hk).1)⟩
    clear d c K;go_wp2_with fail;go_ret;refine⟨⟨_,rfl,?_⟩,E.o.2⟩;have e:=N.o.eq;rw[Q.o,if_pos trivial,if_pos L]at e;rw[HN.o,e];exact E.o.1
   have L:¬f=[]:=fun e=>i1 (by have:=T.o;rw[e]at this;exact this.symm)
   have M1:¬(a:Int)=0:=by omega
   obtain⟨m0,z,c0⟩:=J1.o
   have M0:(ZN f.length 0 f).length=a:=by rw[Vg];exact T.o
   rw[M0]at z;obtain⟨g8,N1,e8,a2,O1⟩:=z.form (by omega);injection e8 with e8 _ e9;subst e8 e9;have w0:A (wr.ownsRow wo.heap.size 208 4 (P (J ⟨g8,0,I⟩) a S) a m0/\Xl zb wr (ZN f.length 0 f) m0):=⟨z,c0⟩;have n0:=Za M0;clear z c0 M0
   go_wp2_with (at_builtin;refine wpList_append_lies _ rfl (.tmp 46) (.tmp 47) 129 rfl w.heap.size 208 ii _ 4 48 Tryz.underlying129 X p0 q0 r0 rfl (by decide) (P va l.length vc) l.length xs rfl ?p1 ⟨g8,0,I⟩ a S m0 rfl w0.o.1.1 ?p2 ?p3 (by omega) ?p4 ?p5 ?p6 _ rfl ?_)
   case p1=>exact q.o.1
   case p2=>
    intro j u hu;have e:=w0.o.1.cells (g:=g8) rfl j u hu
    rwa [Yc,k7]at e
   case p3=>exact w0.o.2.ones
   case p4=>unfold maxLen;omega
   case p5=>omega
   intro g4 M w4 d c K _
   have x0:A (Z2 zb w4 w.heap.size (P (J ⟨g4,0,I⟩) (l.length+a) M) (l++ZN f.length 0 f)/\F0 w w4):=by
    refine⟨?_,L0.o.grown c (fun k hk=>O (q.o.1.lt k hk).1)⟩;have e:=Z2.grown (g:=g4) (cap:=M) (l':=ZN f.length 0 f) q.o.1 q.o.2 w0.o.2 c (by rw[n0.o];exact d);rw[n0.o]at e;exact e
   have l1:=x0.o.2.size;clear d c K;obtain⟨N0,O0,m1⟩:=x0.o.1;rw[lA,n0.o]at O0;have y0:A (w4.ownsRow w.heap.size 208 4 (P (J ⟨g4,0,I⟩) (l.length+a) M) (l.length+a) N0/\Xl zb w4 (l++ZN f.length 0 f) N0):=⟨O0,m1⟩;clear O0 m1;go_wp2_with fail;refine(Dc (HG.o.fr x0.o.2) i r s0.o).mono ?_;rintro e w5 ⟨⟨s,a1,b1,c1,h0,rfl,C,D⟩,H⟩;have i0:=Za C;have k0:=Za D;have l0:=Za H;have k1:w.heap.size<=w5.heap.size:=z8 l1 H.size;clear C D H
   go_wp2_with (at_builtin;refine wpList_append_lies _ rfl (.tmp 49) (.tmp 53) 129 rfl w.heap.size 208 ii _ 4 48 Tryz.underlying129 X p0 q0 r0 rfl (by decide) (P (J ⟨g4,0,I⟩) (l.length+a) M) (l.length+a) N0 rfl ?y1 ⟨w5.heap.size,0,I⟩ 1 1 [V g5 s,P a1 b1 c1,V Y i,V Y 0] rfl rfl ?y2 ?y3 (by decide) ?y4 ?y5 ?y6 _ rfl ?_)
   case y1=>exact(oF y0.o.1 l0.o).alloc _
   case y2=>exact q9 (aN w5 (y8 #[V g5 s,P a1 b1 c1,V Y i,V Y 0] 208))
   case y3=>simp[j3]
   case y4=>unfold maxLen;omega
   case y5=>omega
   case y6=>simp;omega
   intro g2 t w6 d c K _
   have E:A (Z2 zb w6 w.heap.size (P (J ⟨g2,0,I⟩) (l.length+a+1) t) ((l++ZN f.length 0 f)++[UG i r])/\F0 w w6):=by
    have hf:=l0.o.alloc (y8 #[V g5 s,P a1 b1 c1,V Y i,V Y 0] 208);rw[i0.o]
    have o0:(l++ZN f.length 0 f).length=l.length+a:=by rw[lA,n0.o]
    refine⟨?_,(x0.o.2.trans hf).grown c (fun k hk=>O (y0.o.1.lt k hk).1)⟩;have e:=Z2.grown (g:=g2) (cap:=t) (l:=l++ZN f.length 0 f) (l':=[⟨s,h0,i,0⟩]) (by rw[o0];exact oF y0.o.1 hf) (y0.o.2.keep (fun v n ys hv=>oF hv hf)) (Xl.one ⟨_,rfl,k0.o.alloc _⟩) c (by rw[o0];exact d);rw[o0]at e;exact e
   clear d c K;go_wp2_with fail;go_roundg (n-(k+1))
   case measure=>omega
   refine⟨k+1,(l++ZN f.length 0 f)++[UG i r],by omega,rfl,by go_num,⟨?_,E.o.2,?_,?_⟩⟩
   ·exact E.o.1
   ·have e:=N.o.eq
    rw[Q.o,if_pos trivial,if_neg L]at e;rw[e];simp
   rw[lA,lA,n0.o]
   simp;omega
 have K1:k=n:=by omega
 subst K1
 have r1:¬(k:Int)<(k:Int):=by omega
 go_wp2_with (at_builtin;refine wpList_append_lies _ rfl (.tmp 60) (.tmp 62) 129 rfl w.heap.size 208 ii _ 4 48 Tryz.underlying129 X p0 q0 r0 rfl (by decide) (P va l.length vc) l.length xs rfl ?z1 ⟨wr.heap.size,0,I⟩ 1 1 [V g5 6,P I 0 0,V Y 0,V Y 0] rfl rfl ?z2 ?z3 (by decide) ?z4 ?z5 ?z6 _ rfl ?_)
 case z1=>exact F.o.1.alloc _
 case z3=>simp[j3]
 case z4=>unfold maxLen;omega
 case z5=>omega
 case z6=>omega
 intro g2 t w6 d c K _
 have E:A (Z2 zb w6 w.heap.size (P (J ⟨g2,0,I⟩) (l.length+1) t) (l++[⟨6,[],0,0⟩])/\F0 w w6):=by
  have hf:=(Lp wr (y8 #[V g5 6,P I 0 0,V Y 0,V Y 0] 208)).1;exact⟨Z2.grown (l':=[⟨6,[],0,0⟩]) (F.o.1.alloc _) (F.o.2.keep (fun v n ys hv=>hv.alloc _)) (Xl.one ⟨P I 0 0,rfl,oZ _ _ _ _⟩) c d,(N.o.fr.trans hf).grown c (fun k hk=>O (F.o.1.lt k hk).1)⟩
 clear d c K;go_wp2_with fail;go_ret;refine⟨⟨_,rfl,?_⟩,E.o.2⟩;have e:=N.o.eq;rw[dL (by unfold X6;simp)]at e;rw[HN.o,e];exact E.o.1
open Go.Maps
theorem oA {w w' S base e a v n c}(h:w.ownsRow base e a v n c)(d:Fr S w w')(f:∀k,v.ownBlock=J k->¬S k):w'.ownsRow base e a v n c:=by
 refine⟨h.1,h.2.imp id ?_⟩;rintro⟨g,cap,b,rfl,i,j,l⟩;exact⟨g,cap,b,rfl,i,d.whole j (f g rfl),l⟩
theorem oN {w:C}{b e t s v n g i j f}(h:w.ownsRow b e s v n i)(k:w.heap[g]?=J (y8 j t f))(c:e≠t):v.ownBlock≠J g:=by
 rcases h.2 with⟨rfl,_⟩|⟨m,cap,l,rfl,_,a,_⟩
 ·simp[j4]
 intro d
 simp[j4]at d;subst d;rw[k]at a;injection a with a;injection a with _ a _;exact c a.symm
theorem Ma {w:C}{b e s v n g f es c}(h:w.ownsRow b e s v n f)(i:w.heap[g]?=J (.map es c)):v.ownBlock≠J g:=by
 rcases h.2 with⟨rfl,_⟩|⟨k,cap,j,rfl,_,a,_⟩
 ·simp[j4]
 intro d
 simp[j4]at d;subst d;rw[i]at a;injection a with a
 cases a
structure tJ (zb:Nat)(w0:C)(S:Nat->Prop)(v0 v1:q8)(rls:List Ze)(ord:Nat->Nat):Prop where
 zl:zb<=w0.heap.size
 rl:∃va c,v0=P va rls.length c/\∀i r,rls[i]?=J r->∃g ma mc ca cc pa pc,va=J ⟨g,0,I⟩/\g<w0.heap.size/\¬S g/\
   (∀o v,[Q r.name,V Y r.rank,V Y r.digits,V Y r.lo,V Y r.hi,P ma r.mcc.length mc,j1 r.am.isSome,V Y (r.am.getD (0,0)).1,V Y (r.am.getD (0,0)).2,P ca r.cur.length cc,j1 r.decline,j1 r.cheapest,P pa r.routes.length pc,V Y r.ahead][o]?=J v->w0.cell? ⟨g,i*14+o,I⟩=J v)/\
   (w0.ownsRow zb 3 1 (P ma r.mcc.length mc) r.mcc.length (Zg r.mcc)/\∀k,(B ma r.mcc.length mc).ownBlock=J k->¬S k)/\(w0.ownsRow zb 3 1 (P ca r.cur.length cc) r.cur.length (Zg r.cur)/\∀k,(B ca r.cur.length cc).ownBlock=J k->¬S k)/\(w0.ownsRow zb 3 1 (P pa r.routes.length pc) r.routes.length (Zg r.routes)/\∀k,(B pa r.routes.length pc).ownBlock=J k->¬S k)
 od:∃oa oc,v1=P oa rls.length oc/\∀k,k<rls.length->∃og,oa=J ⟨og,0,I⟩/\og<w0.heap.size/\¬S og/\w0.cell? ⟨og,k,I⟩=J (V Y (ord k))
theorem tJ.at {m w0 w S v0 v1 b d G}(h:tJ m w0 S v0 v1 b d)(a:Fr S w0 w)(u:w.cell? ⟨G,0,I⟩=J v0)(x:w.cell? ⟨G,1,I⟩=J v1):yU m w G b d:=by
 obtain⟨y,⟨z,c,rfl,A⟩,B,C,rfl,D⟩:=h;refine⟨z8 y a.size,⟨z,c,u,fun i r hi=>?_⟩,B,C,x,fun k E=>?_⟩
 ·obtain⟨g,F,H,K,L,M,N,f,e,j,l,n,q,s⟩:=A i r hi
  exact⟨g,F,H,K,L,M,N,f,nL e a.size,fun o v O=>(a.cell (p:=⟨g,i*14+o,I⟩) e j).trans (l o v O),oA n.1 a n.2,oA q.1 a q.2,oA s.1 a s.2⟩
 obtain⟨t,f,e,j,l⟩:=D k E
 exact⟨t,f,nL e a.size,(a.cell (p:=⟨t,k,I⟩) e j).trans l⟩
structure vX (D:DataW Unit)(ps:List Nat):Prop where
 im:IsMap D
 at':∀m:Nat,m<256->Maps.has D (.int .u64 m)=decide (m∈ps)/\(m∈ps->∀z,D.atKey (.int .u64 m) z=.lit (.int .i64 (ps.idxOf m:Nat)))
theorem vX.put {D a}{met:Nat}(h:vX D a)(f:met∉a):vX (D.put (.int .u64 met) (.lit (.int .i64 (a.length:Nat)))) (a++[met]):=by
 refine⟨h.im.put _ _,fun m g=>?_⟩;by_cases e:m=met
 ·subst e
  refine⟨?_,fun _ z=>?_⟩
  ·rw[has_put_same h.im (by simp[WideAt.IsKeyLit])]
   simp
  rw[atKey_put_same h.im (by simp[WideAt.IsKeyLit]),k9,if_neg f]
  simp
 have b:Lit.int .u64 (m:Nat)≠Lit.int .u64 (met:Nat):=by
  intro d;injection d with _ d;omega
 obtain⟨i,j⟩:=h.at' m g;refine⟨?_,fun hi z=>?_⟩
 ·rw[has_put_other b,i]
  simp[e]
 have c:m∈a:=by simpa[e]using hi
 rw[atKey_put_other b,j c z,k9,if_pos c]
theorem SU:Keyed U 183:=int_keyed Tryz.underlying183
theorem Mb (w):(zeroValue 3).run U w=.ok (V Y 0) w:=by kernel_rfl
theorem vi (m:Nat)(h:m<256):keyOf U 183 (.int .u64 m)=J (.int .u64 m):=keyOf_int_mk Tryz.underlying183 (WalkArith.wf_u64 (by omega))
theorem Mc:(U.info? 129).map (fun i=>(i.zero,i.size,i.bytes))=J (J (P I 0 0),1,24):=by kernel_rfl
structure Qw (zb:Nat)(w0 w:C)(G M:Nat)(v0 v1:q8)(R:List Ze)(ord:Nat->Nat)(ps:List Nat)(vp:q8):Prop where
 ru:tJ zb w0 (fun k=>k=G\/k=M) v0 v1 R ord
 fr:Fr (fun k=>k=G\/k=M) w0 w
 bx:w.heap[G]?=J (.cells #[v0,v1,vp,.map (J M)] 178)
 mp:∃D:DataW Unit,w.ownsMap U 183 (plainElem U 3) M ps.length D/\vX D ps
 pg:∃xs,w.ownsRow w0.heap.size 129 1 vp ps.length xs/\∀(j m:Nat),ps[j]?=J m->∃vj,xs[j]?=J vj/\Z2 zb w zb vj (ZI R m (X6 R.length ord))
 nd:ps.Nodup
 lt:∀m,m∈ps->m<256
theorem Sf {a w w' S v l}(h:Z2 a w a v l)(c:Fr S w w')(d:∀e s v n b,(e=208\/e=3)->w.ownsRow a e s v n b->∀k,v.ownBlock=J k->¬S k):Z2 a w' a v l:=by
 obtain⟨b,f,i⟩:=h;exact⟨b,oA f c (d _ _ _ _ _ (E rfl) f),i.keep (fun v n j g=>oA g c (d _ _ _ _ _ (O rfl) g))⟩
theorem Ko {zb}{w:C}{G M b n i es j d l}(m:w.heap[G]?=J (y8 i 178))(o:w.heap[M]?=J (.map es j))(p:w.ownsRow b 129 1 d n l):
  ∀e s v n f,(e=208\/e=3)->w.ownsRow zb e s v n f->∀k,v.ownBlock=J k->¬(k=G\/k=M\/d.ownBlock=J k):=by
 rintro e s v n f g c k a (rfl|rfl|h)
 ·exact oN c m (by rcases g with rfl|rfl<;>decide) a
 ·exact Ma c o a
 rcases WI c p (by rcases g with rfl|rfl<;>decide)with h'|h'
 ·rw[h']at a
  cases a
 exact h' (a.trans h.symm)
theorem Qw.more {H w0 w Z K d G M v0 v1 R f t i n l met g cap L D1 u}(h:Qw H w0 w G M v0 v1 R f t (P i n l))(hn:t.length=n)(a0:met∉t)(hm:met<256)(hM:M<w0.heap.size)(hG:G<w0.heap.size)(o:w.ownsRow w0.heap.size 129 1 (P i n l) n L)(b0:∀(j m:Nat),t[j]?=J m->∃X,L[j]?=J X/\Z2 H w H X (ZI R m (X6 R.length f)))(c0:Z.ownsMap U 183 (plainElem U 3) M (n+1) D1)(d0:vX D1 (t++[met]))(v:Fr (fun k=>k=M) w Z)(q:F0 Z K)(e0:Z2 H K H u (ZI R met (X6 R.length f)))(s:d.ownsRow w0.heap.size 129 1 (P (J ⟨g,0,I⟩) (n+1) cap) (n+1) (L++[u]))(x:K.grownBy d (B i n l).ownBlock):
  Qw H w0 (d.setCell ⟨G,2,I⟩ (P (J ⟨g,0,I⟩) (n+1) cap)) G M v0 v1 R f (t++[met]) (P (J ⟨g,0,I⟩) (n+1) cap)/\Fr (fun k=>k=G\/k=M\/(B i n l).ownBlock=J k) w (d.setCell ⟨G,2,I⟩ (P (J ⟨g,0,I⟩) (n+1) cap))/\d.cell? ⟨G,2,I⟩=J (P i n l)/\d.frozen? ⟨G,2,I⟩=false:=by
 have y:∀k,(B i n l).ownBlock=J k->w0.heap.size<=k:=fun k c=>(o.lt k c).1
 obtain⟨D,⟨m0,n0,z,_⟩,_⟩:=h.mp
 have N:G≠M:=by
  rintro rfl;rw[h.bx]at z
  cases z
 have f0:=v.whole h.bx N;have Q:=q.whole f0;have A:=(Fr.refl _ K).grown x (fun k c=>E c);have r:=A.whole Q (fun e=>by have:=y G e;omega);have T:Fr (fun k=>k=G\/k=M\/(B i n l).ownBlock=J k) K (d.setCell ⟨G,2,I⟩ (P (J ⟨g,0,I⟩) (n+1) cap)):=Fr.setCell (S:=fun k=>k=G\/k=M\/(B i n l).ownBlock=J k) (A.mono (fun k c=>O (O c))) (p:=⟨G,2,I⟩) (E (E rfl)) _;have g0:Fr (fun k=>k=G\/k=M\/(B i n l).ownBlock=J k) w K:=(v.mono (fun k c=>O (E c))).trans (q.mono);have F:=g0.trans T;have V:=oF (oF o v (fun k c=>by omega)) q;obtain⟨es,ck,h0,i0⟩:=c0;have W:=q.whole h0;refine⟨⟨h.ru,h.fr.monoNew F ?_,?_,⟨D1,⟨es,ck,?_,?_⟩,d0⟩,⟨L++[u],?_,?_⟩,?_,?_⟩,F,Zc r 2,bF r 2⟩
 ·rintro k (rfl|rfl|c)
  ·exact E (E rfl)
  ·exact E (O rfl)
  exact O (y k c)
 ·have e:=heap_setCell_same d G 2 _ _ (P (J ⟨g,0,I⟩) (n+1) cap) r
  simpa using e
 ·have j0:=A.whole W (fun e=>by have:=y M e;omega)
  rw[heap_setCell_other d ⟨G,2,I⟩ M _ (fun e=>N e.symm)];exact j0
 ·rw[lA,hn]
  exact i0
 ·rw[lA,hn]
  exact ownsRow_setCell_other s (a:=⟨G,2,I⟩) (oN s r (by decide)) _
 ·intro j m C
  have o0:L.length=n:=by have:=o.1;omega
  rcases Nat.lt_or_ge j n with p0|q0
  ·rw[j5 (by omega)]at C
   obtain⟨X,e1,e2⟩:=b0 j m C;exact⟨X,by rw[j5 (by omega)];exact e1,Sf e2 F (Ko h.bx z o)⟩
  rw[aR (by omega)]at C
  have k0:j-t.length=0:=by
   have:=(iG.1 C).1;simp at this;omega
  rw[k0]at C;simp at C;subst C;refine⟨u,?_,Sf e0 T (Ko Q W V)⟩;rw[aR (by omega),show j-L.length=0 from by omega];rfl
 ·rw[List.nodup_append]
  refine⟨h.nd,by simp,fun a ha b hb=>?_⟩;simp at hb;subst hb;rintro rfl;exact a0 ha
 intro m l0
 rcases g6.1 l0 with Y|Y
 ·exact h.lt m Y
 simp at Y
 subst Y;exact hm
theorem JB {zb}(w0 w G M v0 v1 R d p vp)(met:Nat)(h:Qw zb w0 w G M v0 v1 R d p vp)(hM:M<w0.heap.size)(hG:G<w0.heap.size)(m0:p.length<=256)(hn:R.length<=8)(hm:met<256)(ho:∀k,k<R.length->d k<R.length)(hR:∀r,r∈R->r.mcc.length<=4000/\r.cur.length<=4000):
  j0 U 148 #[.pointer (J ⟨G,0,I⟩),.int .u64 met] w fun e w'=>e=.returned (.int .i64 (Vc p met:Nat))/\(∃Q,Qw zb w0 w' G M v0 v1 R d (Wv p met) Q/\(Q.ownBlock=vp.ownBlock\/∀k,Q.ownBlock=J k->w.heap.size<=k))/\Fr (fun k=>k=G\/k=M\/vp.ownBlock=J k) w w':=by
 obtain⟨ii,n0,o0,p0,q0⟩:=info_parts Mc;have C:=Za h
 have r0:A (∀W,yU zb W G R d->j0 U 187 #[.pointer (J ⟨G,0,I⟩),.int .u64 met] W fun e w'=>(∃v,e=.returned v/\Z2 zb w' W.heap.size v (ZI R met (X6 R.length d)))/\F0 W w'):=fun W hW=>FJ W G R d met hW hn hm ho hR
 obtain⟨D,t,hD⟩:=h.mp;have u:=Za t;have HD:=Za hD;have HK:=Za (vi met hm);obtain⟨F,T,s0⟩:=h.pg;obtain⟨V,X,e3⟩:=oL T;subst e3;obtain⟨n,b0⟩:∃n,p.length=n:=⟨_,rfl⟩;have HN:=Za b0;rw[b0]at u C m0 T ⊢;have Y:A (w.ownsRow w0.heap.size 129 1 (.slice V n X) n F/\∀(j m:Nat),p[j]?=J m->∃vj,F[j]?=J vj/\Z2 zb w zb vj (ZI R m (X6 R.length d))):=⟨T,s0⟩;have x2:=Zc C.o.bx 2;have x3:=Zc C.o.bx 3;have L:=(hD.at' met hm).1;by_cases i:met∈p
 ·have hh:Maps.has D (.int .u64 met)=true:=by rw[L];simpa using i
  go_enter Tryz.func148,Tryz.ntmps148
  go_wp2_with (at_lookup;refine wpList_lookup_own_ok_int _ rfl (.tmp 11) (.tmp 12) 176 rfl 183 3 .i64 SU Tryz.underlying176 Tryz.underlying3 (Mb _) M n D rfl u.o _ _ rfl HK.o ?_;rw[hh])
  intro c q t0
  have hc:c=((Vc p met:Nat):Int):=by
   rw[(HD.o.at' met hm).2 i]at q;injection q with q;injection q with _ q;exact q.symm
  subst hc;go_wp2_with fail;go_ret;refine⟨rfl,⟨.slice V n X,?_,E rfl⟩,Zt⟩;rw[show Wv p met=p from if_pos i];exact C.o
 have hh:Maps.has D (.int .u64 met)=false:=by rw[L];simpa using i
 go_enter Tryz.func148,Tryz.ntmps148
 go_wp2_with (at_lookup;refine wpList_lookup_own_ok_int _ rfl (.tmp 11) (.tmp 12) 176 rfl 183 3 .i64 SU Tryz.underlying176 Tryz.underlying3 (Mb _) M n D rfl u.o _ _ rfl HK.o ?_;rw[hh])
 intro c q t0
 go_wp2_with (at_mapUpdate;refine wpList_mapUpdate_own _ rfl (.tmp 26) (.tmp 27) (.tmp 28) 176 rfl 183 3 SU Tryz.underlying176 _ M n D rfl u.o ?k1 _ _ _ rfl rfl HK.o (.lit (.int .i64 (n:Nat))) [] ?k2 ?_)
 case k1=>unfold maxLen;omega
 case k2=>exact plainElem_int Tryz.underlying3 (WalkArith.wf_i64 (by omega))
 intro w1 Z H;have x:Fr (fun k=>k=M) w w1:=(Fr.refl _ w).grown H (fun k N=>E (by injection N with N;exact N.symm))
 have x0:G≠M:=by
  obtain⟨D0,E0,c0,_⟩:=u.o;rintro rfl;rw[C.o.bx]at c0
  cases c0
 have d0:=Za x;have e0:=Za Z
 have y0:A (vX (D.put (.int .u64 met) (.lit (.int .i64 (n:Nat)))) (p++[met])):=by
  have e:=HD.o.put i;rw[HN.o]at e;exact e
 have y:=x.whole C.o.bx x0;have y2:=Zc y 2;have g0:=oF Y.o.1 x (fun k N=>by omega);have h0:w0.heap.size<=w1.heap.size:=z8 C.o.fr.size x.size
 have i0:A (∀W,F0 w1 W->j0 U 187 #[.pointer (J ⟨G,0,I⟩),.int .u64 met] W fun e w'=>(∃a b c,e=.returned (.slice a b c)/\A (Z2 zb w' zb (.slice a b c) (ZI R met (X6 R.length d))))/\A (F0 w1 w'/\w'.ownsRow w0.heap.size 129 1 (.slice V n X) n F/\w0.heap.size<=w'.heap.size)/\w'.cell? ⟨G,2,I⟩=J (.slice V n X)):=by
  intro W hW
  have k0:yU zb W G R d:=by
   have f0:=C.o.fr.trans (x.mono (fun k N=>O N));have b:=hW.whole y;exact C.o.ru.at (f0.trans (hW.mono)) (Zc b 0) (Zc b 1)
  refine(r0.o W k0).mono ?_;rintro e w' ⟨⟨v,rfl,z0⟩,hf⟩;have f2:=hW.trans hf;obtain⟨ys,o1,o2⟩:=z0;obtain⟨a,c,e3⟩:=oL o1;subst e3;exact⟨⟨a,_,c,rfl,⟨ys,oS o1 k0.zl,o2⟩⟩,⟨f2,oF g0 f2,z8 h0 f2.size⟩,bC (f2.whole y) 2 _ rfl⟩
 have A0:A (Vc p met=n):=by
  unfold Vc;rw[List.idxOf_eq_length i];exact HN.o
 go_wp2_with fail;refine wp_region_held_drew (S:=fun _=>True) (by kernel_rfl) trivial (fun s=>?_)
 iterate 4 (refine YO 0 s ?_;try go_frame)
 iterate 2 ((first|refine YO 0 s ?_|refine YO 1 s ?_);try go_frame)
 refine Xz [4,7] ?_;refine Zb rfl (fun K f=>?p1) (Zb rfl (fun K f=>?p2) y9)
 case' p1=>
  try rw[if_pos (by rfl)]
  go_simp;refine f.out _ _ s (fun _=>?_)
  try go_frame
  refine Vv 7 (fun K f=>?_);go_simp;refine(i0.o _ Zt.drew).mono ?_;rintro e w5 ⟨⟨a1,b1,c1,rfl,l0⟩,z,z2⟩;refine f.out _ _ trivial (fun s=>?_)
  try go_frame
  refine Vv 8 (fun K f=>?_);go_simp;refine f.out _ _ trivial (fun s=>?_)
  try go_frame
 case' p2=>
  go_simp;refine(i0.o _ Zt.drew).mono ?_;rintro e w5 ⟨⟨a1,b1,c1,rfl,l0⟩,z,z2⟩;refine f.out _ _ trivial (fun s=>?_)
  try go_frame
  refine Xz [4,8] ?_;refine Zb rfl (fun K f=>?p3) (Zb rfl (fun K f=>?p4) y9)
 case' p3=>
  try rw[if_pos (by rfl)]
  go_simp;refine f.out _ _ s (fun _=>?_)
  try go_frame
  refine Vv 8 (fun K f=>?_);go_simp;refine f.out _ _ trivial (fun s=>?_)
  try go_frame
 case' p4=>
  try rw[if_pos (by rfl)]
  go_simp;refine f.out _ _ trivial (fun s=>?_)
  try go_frame
  refine Xz [4] ?_;refine Zb rfl (fun K f=>?_) y9
  try rw[if_pos (by rfl)]
  have z3:=fun o=>(World.cell?_alloc_some w5 ⟨G,2,I⟩ o (by simp[z2])).trans z2
  go_simp;refine f.out _ _ s (fun _=>?_)
  try go_frame
 all_goals
  refine Xz [9] ?_;refine Zb rfl (fun K f=>?_) y9;refine step_append_lies _ rfl (.tmp 33) (.tmp 37) 130 rfl w0.heap.size 129 ii _ 1 24 Tryz.underlying130 n0 o0 p0 q0 rfl (by decide) (.slice V n X) n F rfl ?h1 ⟨w5.heap.size,0,I⟩ 1 1 [.slice a1 b1 c1] rfl rfl ?h2 ?h3 (by decide) ?h4 ?h5 ?h6 _ rfl ?_
  case h1=>exact z.o.2.1.alloc _
  case h2=>exact q9 (aN w5 _)
  case h3=>simp[j3]
  case h4=>unfold maxLen;omega
  case h5=>omega
  case h6=>have:=z.o.2.2;simp;omega
  intro g2 l w8 t a0 B0 _;have g:=Qw.more C.o HN.o i hm hM hG Y.o.1 Y.o.2 e0.o y0.o d0.o (z.o.1.alloc _) (QU l0.o (Zt.alloc _)) t a0;have d2:=g.2.2.1;have df:=g.2.2.2
  have C0:A ((B (J ⟨g2,0,I⟩) (n+1) l).ownBlock=(B V n X).ownBlock\/∀k,(B (J ⟨g2,0,I⟩) (n+1) l).ownBlock=J k->w.heap.size<=k):=by
   rcases B0 with e|e
   ·exact E e.symm
   refine O fun k N=>?_
   have e2:g2=k:=by simpa[j4]using N
   have:=d0.o.size;have:=z.o.1.size
   have e3:g2=w5.heap.size+1:=by rw[e];simp
   omega
  have P:A (Qw zb w0 (w8.setCell ⟨G,2,I⟩ (.slice (J ⟨g2,0,I⟩) (n+1) l)) G M v0 v1 R d (p++[met]) (.slice (J ⟨g2,0,I⟩) (n+1) l)/\Fr (fun k=>k=G\/k=M\/(B V n X).ownBlock=J k) w (w8.setCell ⟨G,2,I⟩ (.slice (J ⟨g2,0,I⟩) (n+1) l))):=⟨g.1,g.2.1⟩;refine f.out _ _ trivial (fun s=>?_)
  try go_frame
  iterate 2 (refine YO 0 s ?_;try go_frame)
  refine Vv 12 (fun K f=>?_);go_simp;refine f.out _ _ trivial (fun _=>?_)
  try go_frame
  refine wpAnyH_done (by kernel_rfl) ?_ _;go_wp2;go_ret;refine⟨by rw[A0.o];rfl,⟨_,?_,C0.o⟩,P.o.2⟩;rw[show Wv p met=p++[met]from if_neg i];exact P.o.1
def Xf (w:C)(lo:Nat):Tr->q8->Prop
 | .leaf p,v=>v=j2 #[Z I,V Y p]
 | .node k,v=>∃K c,v=j2 #[Z (J ⟨K,0,I⟩),V Y 0]/\lo<=K/\w.heap[K]?=J (y8 c 248)/\c.size=20/\∀d,d<10->∃a b,c[d*2]?=J a/\c[d*2+1]?=J b/\Xf w lo (k d) (j2 #[a,b])
theorem Xf.keep {w w':C}{S:Nat->Prop}{lo:Nat}(e:Fr S w w')(f:∀K c,lo<=K->w.heap[K]?=J (y8 c 248)->¬S K):∀(t:Tr)(v:q8),Xf w lo t v->Xf w' lo t v
 | .leaf _,_,h=>h
 | .node k,v,⟨K,c,h1,hl,h2,h3,h4⟩=>⟨K,c,h1,hl,e.whole h2 (f K c hl h2),h3,fun d g=>by
   obtain⟨a,b,i,j,l⟩:=h4 d g
   exact⟨a,b,i,j,Xf.keep e f (k d) _ l⟩⟩
theorem Xf.keep' {w w' S lo t v}(h:Xf w lo t v)(a:Fr S w w')(b:∀K,lo<=K->¬S K):Xf w' lo t v:=Xf.keep a (fun K _ c _=>b K c) t v h
theorem Xf.low {w:C}{lo c:Nat}(e:c<=lo):∀(t:Tr)(v:q8),Xf w lo t v->Xf w c t v
 | .leaf _,_,h=>h
 | .node k,v,⟨K,cs,h1,hl,h2,h3,h4⟩=>⟨K,cs,h1,z8 e hl,h2,h3,fun d f=>by
   obtain⟨a,b,g,i,j⟩:=h4 d f
   exact⟨a,b,g,i,Xf.low e (k d) _ j⟩⟩
theorem Qw.keep {c w0 w w' G M v0 v1 R a d e}(h:Qw c w0 w G M v0 v1 R a d e)(b:F0 w w'):Qw c w0 w' G M v0 v1 R a d e:=by
 obtain⟨D,⟨es,f,g,i⟩,k⟩:=h.mp;obtain⟨l,n,o⟩:=h.pg;refine⟨h.ru,h.fr.trans (b.mono),b.whole h.bx,⟨D,⟨es,f,b.whole g,i⟩,k⟩,⟨l,oF n b,fun j m p=>?_⟩,h.nd,h.lt⟩;obtain⟨q,r,s⟩:=o j m p;exact⟨q,r,QU s b⟩
theorem Qw.wrote {r w0 w w' S G M v0 v1 R f z A}(h:Qw r w0 w G M v0 v1 R f z A)(g:Fr S w w')(o:∀k,S k->w0.heap.size<=k/\∃p t,w.heap[k]?=J (y8 p t)/\(t=133\/t=248)):Qw r w0 w' G M v0 v1 R f z A:=by
 obtain⟨D,⟨es,E,B,i⟩,F⟩:=h.mp;obtain⟨d,C,H⟩:=h.pg
 have c:∀e s v n d b,(e=208\/e=3\/e=129)->w.ownsRow b e s v n d->∀k,v.ownBlock=J k->¬S k:=by
  intro e s v n d b u i k x l;obtain⟨_,p,t,a,q⟩:=o k l;exact oN i a (by rcases u with rfl|rfl|rfl<;>rcases q with rfl|rfl<;>decide) x
 have I:¬S G:=fun l=>by
  obtain⟨_,p,t,a,q⟩:=o G l;rw[h.bx]at a;injection a with a;injection a with _ a _;subst a
  rcases q with e|e<;>exact absurd e (by decide)
 have y:¬S M:=fun l=>by
  obtain⟨_,p,t,a,q⟩:=o M l;rw[B]at a
  cases a
 refine⟨h.ru,h.fr.monoNew g (fun k x=>O (o k x).1),g.whole h.bx I,⟨D,⟨es,E,g.whole B y,i⟩,F⟩,⟨d,oA C g (c _ _ _ _ _ _ (O (O rfl)) C),fun j m K=>?_⟩,h.nd,h.lt⟩;obtain⟨L,N,P⟩:=H j m K;exact⟨L,N,Sf P g (fun e s v n d u i=>c e s v n d r (by rcases u with e|e<;>simp[e]) i)⟩
theorem Qw.apart {f w0 w G M v0 v1 R b g c}(h:Qw f w0 w G M v0 v1 R b g c):∀K d,w.heap[K]?=J (y8 d 248)->¬(K=G\/K=M\/c.ownBlock=J K):=by
 obtain⟨D,⟨es,k,i,_⟩,_⟩:=h.mp;obtain⟨l,j,_⟩:=h.pg;rintro K d a (rfl|rfl|e)
 ·rw[h.bx]at a
  injection a with a;injection a with _ a _;exact absurd a (by decide)
 ·rw[i]at a
  cases a
 exact oN j a (by decide) e
theorem Qw.gr {b w0 w G M v0 v1 R a c d}(h:Qw b w0 w G M v0 v1 R a c d):yU b w G R a:=h.ru.at h.fr (Zc h.bx 0) (Zc h.bx 1)
theorem Qw.few {c w0 w G M v0 v1 R a b d}(h:Qw c w0 w G M v0 v1 R a b d):b.length<=256:=by
 have e:b⊆p9 256:=fun m f=>List.mem_range.2 (h.lt m f)
 have:=List.Nodup.length_le_of_subset h.nd e
 simpa using this
def TQ (q:Z3)(op i:Nat)(r:Ze)(a:Nat×Nat):Nat×Nat:=
 if op.testBit i then(if ZH q (YP r.digits r.lo r.hi)=2 then(a.1|||1<<<i,a.2)else if ZH q (YP r.digits r.lo r.hi)=1 then(a.1,a.2|||1<<<i)else a)else a
theorem CF {q op i}{R:List Ze}{r a}(h:R[i]?=J r):Yz q op i (R.drop i) a=Yz q op (i+1) (R.drop (i+1)) (TQ q op i r a):=by
 obtain⟨hi,e⟩:=iG.1 h;rw[dC hi,e];rfl
theorem AS {q op}{R:List Ze}{a}:Yz q op R.length (R.drop R.length) a=a:=by
 rw[dL (k4 _)];rfl
structure vY (zb:Nat)(w0 W2:C)(G M K:Nat)(v0 v1:q8)(R:List Ze)(ord:Nat->Nat)(f:Nat->List Nat->Tr×List Nat)(ps:List Nat)(vp:q8)(d:Nat)(wx:C):Prop where
 gs:∃vp',Qw zb w0 wx G M v0 v1 R ord (YA f d ps).2 vp'/\(vp'.ownBlock=vp.ownBlock\/∀k,vp'.ownBlock=J k->W2.heap.size<=k)
 fr:Fr (fun k=>k=G\/k=M\/vp.ownBlock=J k\/k=K) W2 wx
 ar:∃cs,wx.heap[K]?=J (y8 cs 248)/\cs.size=20/\∀j,j<d->∃a b,cs[j*2]?=J a/\cs[j*2+1]?=J b/\Xf wx (K+1) ((YA f d ps).1 j) (j2 #[a,b])
def U1 (g:Nat)(w0 w:C)(G M:Nat)(v0 v1:q8)(R:List Ze)(d:Nat->Nat)(T:Tr×List Nat)(f:q8)(e:Ending)(w':C):Prop:=
 (∃a b,e=z9 (j2 #[a,b])/\Xf w' w.heap.size T.1 (j2 #[a,b]))/\(∃c,Qw g w0 w' G M v0 v1 R d T.2 c/\(c.ownBlock=f.ownBlock\/∀k,c.ownBlock=J k->w.heap.size<=k))/\Fr (fun k=>k=G\/k=M\/f.ownBlock=J k) w w'
theorem vY.step {B w0 o F H c G M K v0 v1 R l f n r m d a b}(h:vY B w0 o G M K v0 v1 R l f n r d F)(hd:d<10)(L:w0.heap.size<=K)(a0:K<o.heap.size)(N:Qw B w0 F G M v0 v1 R l (YA f d n).2 m)(s:m.ownBlock=r.ownBlock\/∀k,m.ownBlock=J k->o.heap.size<=k)(g:F0 F H)(hp:U1 B w0 H G M v0 v1 R l (f d (YA f d n).2) m (z9 (j2 #[a,b])) c):
  vY B w0 o G M K v0 v1 R l f n r (d+1) ((c.setCell ⟨K,d*2,I⟩ a).setCell ⟨K,d*2+1,I⟩ b)/\(∃u,c.cell? ⟨K,d*2,I⟩=J u)/\(∃u,c.cell? ⟨K,d*2+1,I⟩=J u)/\(∀j,c.frozen? ⟨K,j,I⟩=false)/\Fr (fun k=>k=G\/k=M\/r.ownBlock=J k\/k=K) o c:=by
 obtain⟨⟨a',b',t,ht⟩,⟨P,Q,v⟩,q⟩:=hp;injection t with t;injection t with t
 obtain⟨rfl,rfl⟩:a=a'/\b=b':=by simpa using t
 obtain⟨C,hc,S,w⟩:=h.ar;have z:=g.whole hc;have A:=N.keep g;have i:=q.whole z (A.apart K C z);have D:Fr (fun k=>k=K) c ((c.setCell ⟨K,d*2,I⟩ a).setCell ⟨K,d*2+1,I⟩ b):=((Fr.refl (fun k=>k=K) c).setCell (p:=⟨K,d*2,I⟩) (E rfl) _).setCell (p:=⟨K,d*2+1,I⟩) (E rfl) _
 have Y:Fr (fun k=>k=G\/k=M\/r.ownBlock=J k\/k=K) o c:=by
  refine(h.fr.trans (g.mono)).monoNew q ?_;rintro k (rfl|rfl|e)
  ·exact E (E rfl)
  ·exact E (O (E rfl))
  rcases s with T|T
  ·exact E (O (O (E (T▸e))))
  exact O (T k e)
 have U:o.heap.size<=H.heap.size:=z8 h.fr.size g.size;have e1:=heap_setCell_same c K (d*2) _ _ a i;have e2:=heap_setCell_same _ K (d*2+1) _ _ b e1;have g1:∃u,C[d*2]?=J u:=⟨_,Array.getElem?_eq_getElem (by omega)⟩;have g2:∃u,C[d*2+1]?=J u:=⟨_,Array.getElem?_eq_getElem (by omega)⟩;refine⟨⟨⟨P,Q.wrote D ?_,?_⟩,Y.trans (D.mono (fun k w=>O (O (O w)))),⟨_,e2,by simpa using S,?_⟩⟩,?_,?_,fun j=>bF i j,Y⟩
 ·rintro k rfl
  exact⟨L,C,_,i,O rfl⟩
 ·rcases v with e|e
  ·rw[e]
   exact s
  exact O fun k w=>z8 U (e k w)
 ·intro j hj
  by_cases Z:j=d
  ·subst Z
   refine⟨a,b,?_,?_,?_⟩
   ·rw[Array.getElem?_setIfInBounds_ne (by omega),Array.getElem?_setIfInBounds_self_of_lt (by omega)]
   ·rw[Array.getElem?_setIfInBounds_self_of_lt (by simp;omega)]
   have e:(YA f (j+1) n).1 j=(f j (YA f j n).2).1:=by simp[YA]
   rw[e];exact(Xf.low (by omega) _ _ ht).keep' D (fun V hl=>by omega)
  obtain⟨x,y,h1,h2,h3⟩:=w j (by omega)
  refine⟨x,y,?_,?_,?_⟩
  ·rw[Array.getElem?_setIfInBounds_ne (by omega),Array.getElem?_setIfInBounds_ne (by omega)]
   exact h1
  ·rw[Array.getElem?_setIfInBounds_ne (by omega),Array.getElem?_setIfInBounds_ne (by omega)]
   exact h2
  have e:(YA f (d+1) n).1 j=(YA f d n).1 j:=by simp[YA,Z]
  rw[e];exact(Xf.keep q (fun V cs' _ W=>A.apart V cs' W) _ _ (Xf.keep g (fun _ _ _ _=>by simp) _ _ h3)).keep' D (fun V hl=>by omega)
 ·obtain⟨u,X⟩:=g1
  exact⟨u,bC i _ _ X⟩
 obtain⟨u,X⟩:=g2
 exact⟨u,bC i _ _ X⟩
theorem Xf.form {w:C}{lo:Nat}{a b:q8}:∀{t:Tr},Xf w lo t (j2 #[a,b])->∃(p:Option Addr)(k:Nat),a=Z p/\b=V Y k
 | .leaf p,h=>by
  have e:=h;injection e with e
  obtain⟨c,d⟩:a=Z I/\b=V Y p:=by simpa using e
  exact⟨I,p,c,d⟩
 | .node _,⟨K,_,e,_⟩=>by
  injection e with e
  obtain⟨c,d⟩:a=Z (J ⟨K,0,I⟩)/\b=V Y 0:=by simpa using e
  exact⟨_,0,c,d⟩
def I1:Array q8:=#[Z I,V Y 0,Z I,V Y 0,Z I,V Y 0,Z I,V Y 0,Z I,V Y 0,Z I,V Y 0,Z I,V Y 0,Z I,V Y 0,Z I,V Y 0,Z I,V Y 0]
structure sN (W0:C)(q:Z3)(op:Nat)(R:List Ze)(met i a1 a2:Nat)(wr:C):Prop where
 fr:F0 W0 wr
 eq:Yz q op i (R.drop i) (a1,a2)=Yz q op 0 R (met,0)
theorem CG {zb}(w0 G M v0 v1 R z)(hM:M<w0.heap.size)(hG:G<w0.heap.size)(M1:R.length<=8)(ho:∀k,k<R.length->z k<R.length)(hR:∀r,r∈R->r.mcc.length<=4000/\r.cur.length<=4000)(hB:∀r,r∈R->QO r/\r.lo<=1000000)(n)(ih:∀q (met op:Nat) C F w,7<=n+q.d->q.d<=6->q.x<10^q.d->met<256->op<256->Qw zb w0 w G M v0 v1 R z C F->j0 U 93 #[Z (J ⟨G,0,I⟩),VS q,V .u64 met,V .u64 op] w (U1 zb w0 w G M v0 v1 R z (ZG R n q met op C) F))(q)(met op:Nat)(C F w)(h7:7<=n+1+q.d)(hq:q.d<=6)(hx:q.x<10^q.d)(hm:met<256)(N1:op<256)(h:Qw zb w0 w G M v0 v1 R z C F):
  j0 U 93 #[Z (J ⟨G,0,I⟩),VS q,V .u64 met,V .u64 op] w (U1 zb w0 w G M v0 v1 R z (ZG R (n+1) q met op C) F):=by
 have O1:=Za ih;have HS:=Za h;have HO:=Za ho;have P1:=Za hR;have m1:=Za hB;have HX:=Za hx;have H7:=Za h7;obtain⟨N,hN⟩:∃N,R.length=N:=⟨_,rfl⟩;have HN:=Za hN;obtain⟨va,c,h0,_⟩:=h.gr.rl;rw[hN]at h0 M1
 have HQ:A (∀e w',U1 zb w0 w G M v0 v1 R z (ZG R (n+1) q met op C) F e w'↔U1 zb w0 w G M v0 v1 R z (ZG R (n+1) q met op C) F e w'):=fun _ _=>Iff.rfl
 generalize r0:U1 zb w0 w G M v0 v1 R z (ZG R (n+1) q met op C) F=B2 at*;have HP:=Za r0;clear ih h ho hR hB hx h7 hN r0 HQ;obtain⟨u,B⟩:=q;unfold VS;simp only at hq;go_enter Tryz.func93,Tryz.ntmps93;obtain⟨D0,E0,P0⟩:=SA w (y8 #[V Y u,V Y B] 181) (y8 #[Z I,V Y 0] 133);go_upto_region 1 with fail;generalize(w.alloc _).alloc _=W0 at*;obtain⟨b,hb⟩:∃b,w.heap.size=b:=⟨_,rfl⟩;have HB:=Za hb;rw[hb]at E0 P0 ⊢;clear hb;have Q0:=Za (HS.o.keep D0.o);have g0:=(D0.o.cell (p:=⟨G,0,I⟩) (bL w _ h0)).trans h0;have R0:=Za g0;clear h0;go_wp2_with fail
 go_loopg [2,9,19] N (fun m mv sv kv wr=>∃i t D,i<=N/\m=N-i/\kv=V Y (i:Nat)/\mv=V .u64 (t:Nat)/\sv=V .u64 (D:Nat)/\t<256/\D<256/\A (sN W0 ⟨u,B⟩ op R met i t D wr))
 case atStart=>exact⟨0,met,0,k5 _,rfl,rfl,rfl,rfl,hm,by omega,⟨Zt,rfl⟩⟩
 obtain⟨i,t,D,hi,rfl,rfl,rfl,rfl,a0,k0,HF⟩:=hrel;by_cases S0:i<N
 ·have Q1:(i:Int)<(N:Int):=by omega
  have o1:=(Q0.o.keep HF.o.fr).gr;obtain⟨F2,c2,r1,t1⟩:=o1.rl;obtain⟨r,hr⟩:∃r,R[i]?=J r:=⟨_,gE (by have:=HN.o;omega)⟩;have w1:=Za hr;obtain⟨g,ma,mc,ca,cc,pa,pc,eg,R1,f,S1,T1,V1⟩:=t1 i r hr;have e1:=(HF.o.fr.cell (p:=⟨G,0,I⟩) (bL W0 _ R0.o)).trans R0.o;rw[r1]at e1;injection e1 with e1;injection e1 with e1 _ e2;rw[eg]at e1;subst e1;have A1:=f 0 _ rfl;have X1:=f 1 _ rfl;have v2:=f 2 _ rfl;have v3:=f 3 _ rfl;have v4:=f 4 _ rfl;have v5:=f 5 _ rfl;have v6:=f 6 _ rfl;have v7:=f 7 _ rfl;have v8:=f 8 _ rfl;have v9:=f 9 _ rfl;have Y1:=f 10 _ rfl;have Z1:=f 11 _ rfl;have b2:=f 12 _ rfl;have d2:=f 13 _ rfl;rw[k8]at A1;clear f S1 T1 V1 t1 o1 R1 r1 hr;have G0:=Za (HF.o.fr.alloc (Lm r.name r.rank r.digits r.lo r.hi ma r.mcc.length mc r.am.isSome (r.am.getD (0,0)).1 (r.am.getD (0,0)).2 ca r.cur.length cc r.decline r.cheapest pa r.routes.length pc r.ahead));have T0:=(Vx wr (Lm r.name r.rank r.digits r.lo r.hi ma r.mcc.length mc r.am.isSome (r.am.getD (0,0)).1 (r.am.getD (0,0)).2 ca r.cur.length cc r.decline r.cheapest pa r.routes.length pc r.ahead)).2;unfold Lm at G0 T0;go_upto_region 5 with fail;generalize wr.alloc _=W1 at*;generalize wr.heap.size=X at*;clear A1 X1 v2 v3 v4 v5 v6 v7 v8 v9 Y1 Z1 b2 d2
  have H:A (Yz ⟨u,B⟩ op (i+1) (R.drop (i+1)) (TQ ⟨u,B⟩ op i r (t,D))=Yz ⟨u,B⟩ op 0 R (met,0)):=by
   have e:=HF.o.eq;rw[CF w1.o]at e;exact e
  have H0:i<8:=by omega
  have I0:A (∀W,j0 U 145 #[V .u64 op,V Y i] W fun e w'=>e=z9 (j1 (op.testBit i))/\w'=W):=fun W=>EZ op i W N1 H0
  have B1:A (∀s W,s<256->j0 U 147 #[V .u64 (s:Nat),V Y i] W fun e w'=>e=z9 (V .u64 (s|||1<<<i:Nat))/\w'=W):=fun s W hs=>Aw s i W hs H0
  cases hb:op.testBit i with
  |false=>
   rw[hb]at I0
   have J0:A (TQ ⟨u,B⟩ op i r (t,D)=(t,D)):=by
    show _=_
    unfold TQ;rw[hb];rfl
   rw[J0.o]at H;go_wp2_with fail;refine(I0.o _).mono ?_;rintro e w2 ⟨rfl,hw⟩;replace hw:=hw.symm;subst hw;go_wp2_with fail;go_roundg (N-(i+1))
   case measure=>omega
   exact⟨i+1,t,D,by omega,rfl,by go_num,rfl,rfl,a0,k0,⟨G0.o,H.o⟩⟩
  |true=>
   rw[hb]at I0;have K0:=m1.o r (mG w1.o)
   have t0:B<=1000000:=by
    have e:=HX.o;have:10^u<=10^6:=j6 (by omega) hq;omega
   have V0:=Za (Ck r.name r.rank r.digits r.lo r.hi ma r.mcc.length mc r.am.isSome (r.am.getD (0,0)).1 (r.am.getD (0,0)).2 ca r.cur.length cc r.decline r.cheapest pa r.routes.length pc r.ahead ⟨u,B⟩ W1 K0.1.1 K0.2 K0.1.2 ⟨hq,t0⟩);unfold GS VS at V0
   have C1:TQ ⟨u,B⟩ op i r (t,D)=if ZH ⟨u,B⟩ (YP r.digits r.lo r.hi)=2 then(t|||1<<<i,D)else if ZH ⟨u,B⟩ (YP r.digits r.lo r.hi)=1 then(t,D|||1<<<i)else(t,D):=by
    unfold TQ;rw[hb];rfl
   rw[C1]at H;have l:=T0.o;have X0:=G0.o.whole E0.o;have x0:=Zc l 0;have x1:=Zc l 1;have x2:=Zc l 2;have x3:=Zc l 3;have x4:=Zc l 4;have x5:=Zc l 5;have x6:=Zc l 6;have x7:=Zc l 7;have x8:=Zc l 8;have x9:=Zc l 9;have f2:=Zc l 10;have g2:=Zc l 11;have i2:=Zc l 12;have k2:=Zc l 13;have p0:=Zc X0 0;have p1:=Zc X0 1;clear l X0 C1 K0 t0;go_wp2_with fail;refine(I0.o _).mono ?_;rintro e w2 ⟨rfl,hw⟩;replace hw:=hw.symm;subst hw;go_wp2_with fail;refine V0.o.mono ?_;rintro e w3 ⟨rfl,e0⟩;have Y0:=Za (G0.o.trans (Fr.of_below e0));generalize ZH ⟨u,B⟩ (YP r.digits r.lo r.hi)=al at*;clear e0 x0 x1 x2 x3 x4 x5 x6 x7 x8 x9 f2 g2 i2 k2 p0 p1 V0;by_cases h2:al=2
   ·subst h2
    rw[if_pos rfl]at H;go_wp2_with fail;refine(B1.o t _ a0).mono ?_;rintro e w2 ⟨rfl,hw⟩;replace hw:=hw.symm;subst hw;go_wp2_with fail;go_roundg (N-(i+1))
    case measure=>omega
    exact⟨i+1,_,D,by omega,rfl,by go_num,rfl,rfl,xX _ _ a0 H0,k0,⟨Y0.o,H.o⟩⟩
   rw[if_neg h2]at H
   have G2:¬(al:Int)=2:=by omega
   by_cases h1:al=1
   ·subst h1
    rw[if_pos rfl]at H;go_wp2_with fail;refine(B1.o D _ k0).mono ?_;rintro e w2 ⟨rfl,hw⟩;replace hw:=hw.symm;subst hw;go_wp2_with fail;go_roundg (N-(i+1))
    case measure=>omega
    exact⟨i+1,t,_,by omega,rfl,by go_num,rfl,rfl,a0,xX _ _ k0 H0,⟨Y0.o,H.o⟩⟩
   rw[if_neg h1]at H
   have H2:¬(al:Int)=1:=by omega
   go_wp2_with fail;go_roundg (N-(i+1))
   case measure=>omega
   exact⟨i+1,t,D,by omega,rfl,by go_num,rfl,rfl,a0,k0,⟨Y0.o,H.o⟩⟩
 have l2:i=N:=by omega
 subst l2
 have Q1:¬(i:Int)<(i:Int):=by omega
 have Z0:A (Yz ⟨u,B⟩ op 0 R (met,0)=(t,D)):=by
  have e:=HF.o.eq;rw[<-HN.o,AS]at e;exact e.symm
 have L0:=Za (D0.o.trans HF.o.fr);have M0:=Za (Q0.o.keep HF.o.fr);have f0:=Za (HF.o.fr.whole P0.o);have O0:=Za (HF.o.fr.whole E0.o);clear P0 E0 Q0 D0 R0 HF;by_cases hz:D=0
 ·subst hz
  have m2:A (j0 U 148 #[Z (J ⟨G,0,I⟩),V .u64 t] wr fun e w'=>e=z9 (V Y (Vc C t:Nat))/\(∃L,Qw zb w0 w' G M v0 v1 R z (Wv C t) L/\(L.ownBlock=F.ownBlock\/∀k,L.ownBlock=J k->wr.heap.size<=k))/\Fr (fun k=>k=G\/k=M\/F.ownBlock=J k) wr w'):=
   JB w0 wr G M v0 v1 R z C F t M0.o hM hG M0.o.few (by have:=HN.o;omega) a0 HO.o P1.o
  go_wp2_with fail;refine m2.o.mono ?_;rintro e w5 ⟨rfl,⟨L,b0,c0⟩,b1⟩
  have I2:w0.heap.size<=b:=by rw[<-HB.o];exact HS.o.fr.size
  have D1:¬(b+1=G\/b+1=M\/F.ownBlock=J (b+1)):=by
   rintro(e|e|e)
   ·omega
   ·omega
   obtain⟨xs,hp,_⟩:=HS.o.pg
   have:=(hp.lt _ e).2;have:=HB.o;omega
  have l:=b1.whole f0.o D1;have T0:=Za l;have y0:=Zc l 0;have y1:=Zc l 1;have yf:=bF l
  have Q:A (U1 zb w0 w G M v0 v1 R z (ZG R (n+1) ⟨u,B⟩ met op C) F (z9 (j2 #[Z I,V Y (Vc C t:Nat)])) ((w5.setCell ⟨b+1,0,I⟩ (Z I)).setCell ⟨b+1,1,I⟩ (V Y (Vc C t:Nat)))):=by
   have hS:Fr (fun k=>k=b+1) w5 ((w5.setCell ⟨b+1,0,I⟩ (Z I)).setCell ⟨b+1,1,I⟩ (V Y (Vc C t:Nat))):=((Fr.refl (fun k=>k=b+1) w5).setCell (p:=⟨b+1,0,I⟩) (E rfl) _).setCell (p:=⟨b+1,1,I⟩) (E rfl) _
   have hT:ZG R (n+1) ⟨u,B⟩ met op C=(.leaf (Vc C t),Wv C t):=by
    unfold ZG;rw[Z0.o,if_pos rfl]
   rw[hT];refine⟨⟨_,_,rfl,rfl⟩,⟨L,b0.wrote hS ?_,?_⟩,?_⟩
   ·rintro k rfl
    exact⟨by omega,_,_,l,E rfl⟩
   ·rcases c0 with e|e
    ·exact E e
    exact O fun k hk=>z8 L0.o.size (e k hk)
   have f1:=(L0.o.mono).trans b1
   exact f1.monoNew hS (fun k hk=>O (by have:=HB.o;omega))
  rw[HP.o]at Q;clear b0 c0 b1 l D1;go_wp2_with fail
  obtain⟨s0,s1⟩:((w5.setCell ⟨b+1,0,I⟩ (Z I)).setCell ⟨b+1,1,I⟩ (V Y (Vc C t:Nat))).cell? ⟨b+1,0,I⟩=J (Z I)/\((w5.setCell ⟨b+1,0,I⟩ (Z I)).setCell ⟨b+1,1,I⟩ (V Y (Vc C t:Nat))).cell? ⟨b+1,1,I⟩=J (V Y (Vc C t:Nat)):=by
   constructor
   ·rw[cO _ _ _ _ (by simp)];exact cS _ _ _ y0
   exact cS _ _ _ (by rw[cO _ _ _ _ (by simp)];exact y1)
  refine bodyPost_ret (v:=j2 #[Z I,V Y (Vc C t:Nat)]) (by simp[results,Tryz.results93,go_sem,s0,s1]) rfl Q.o
 have J2:¬(D:Int)=0:=by omega
 have L2:u<6:=Sa (q:=⟨u,B⟩) (met:=met) (op:=op) (fun r hr=>(m1.o r hr).1) (by rw[Z0.o];exact hz);obtain⟨l0,N0,m0⟩:=SA wr (y8 I1 248) (y8 #[Z (J ⟨wr.heap.size,0,I⟩),V Y 0] 133);unfold I1 at l0 N0 m0;go_upto_region 15 with fail;generalize(wr.alloc _).alloc _=W2 at*;obtain⟨K,c1⟩:∃K,wr.heap.size=K:=⟨_,rfl⟩;have M2:=Za c1;rw[c1]at N0 m0 ⊢
 have N2:b+1<K:=by
  have:=(iA.1 f0.o).1;omega
 have O2:K+1<W2.heap.size:=(iA.1 m0.o).1
 have P2:w0.heap.size<=b:=by rw[<-HB.o];exact HS.o.fr.size
 have T:A (∀k,b<=k->k≠K->¬(k=G\/k=M\/F.ownBlock=J k\/k=K)):=by
  rintro k hk n2 (e|e|e|e)
  ·omega
  ·omega
  ·obtain⟨xs,hp,_⟩:=HS.o.pg
   have:=(hp.lt _ e).2;have:=HB.o;omega
  exact n2 e
 have E1:=Za (M0.o.keep l0.o);have i0:=Za (l0.o.whole O0.o);have F1:=Za (l0.o.whole f0.o);have G1:=Za (L0.o.trans l0.o);have o2:A (vY zb w0 W2 G M K v0 v1 R z (fun d P=>ZG R n (Z3.longer ⟨u,B⟩ d) t D P) C F 0 W2):=⟨⟨F,E1.o,E rfl⟩,Zt,⟨_,N0.o,rfl,fun j hj=>by omega⟩⟩;clear c1 l0 N0 O0 f0 L0 M0 E1;go_wp2_with fail
 go_loopg [50] 10 (fun m kv wx=>∃d,d<=10/\m=10-d/\kv=V Y (d:Nat)/\A (vY zb w0 W2 G M K v0 v1 R z (fun d P=>ZG R n (Z3.longer ⟨u,B⟩ d) t D P) C F d wx))
 case atStart=>exact⟨0,by omega,rfl,rfl,o2⟩
 obtain⟨d,hd,rfl,rfl,HK⟩:=hrel;by_cases S0:d<10
 ·have C2:(d:Int)<10:=by omega
  have D2:(0:Int)<=(d:Int):=by omega
  obtain⟨L,b0,c0⟩:=HK.o.gs;have H1:=Za b0;have p2:=Za c0;have q0:=bC (HK.o.fr.whole i0.o (T.o b (by omega) (by omega))) 0 _ rfl;have q1:=bC (HK.o.fr.whole i0.o (T.o b (by omega) (by omega))) 1 _ rfl;have q2:=bC (HK.o.fr.whole m0.o (T.o (K+1) (by omega) (by omega))) 0 _ rfl;clear b0 c0;obtain⟨d0,A0⟩:∃x,x=u+1:=⟨_,rfl⟩;obtain⟨B0,C0⟩:∃x,x=B*10+d:=⟨_,rfl⟩
  have J1:A (Z3.longer ⟨u,B⟩ d=⟨d0,B0⟩):=by
   show _=_
   unfold Z3.longer;rw[A0,C0]
  have d1:A (B0<10^d0/\7<=n+d0/\d0<=6):=by
   refine⟨?_,?_,by omega⟩
   ·have e:=HX.o
    rw[A0,C0,Nat.pow_succ];omega
   have e:=H7.o
   omega
  have t0:B<=1000000:=by
   have e:=HX.o;have:10^u<=10^6:=j6 (by omega) hq;omega
  have r2:A (∀W,F0 wr W->j0 U 149 #[j2 #[V Y u,V Y B],V Y d] W fun e w'=>e=z9 (j2 #[V Y d0,V Y B0])/\A (F0 wr w')):=by
   intro W hW;have e:=Fq ⟨u,B⟩ d W hq t0 S0;refine e.mono ?_;rintro e w' ⟨rfl,e0⟩;rw[J1.o];exact⟨rfl,hW.trans (Fr.of_below e0)⟩
  have s2:A (∀W,F0 wr W->j0 U 93 #[Z (J ⟨G,0,I⟩),j2 #[V Y d0,V Y B0],V .u64 t,V .u64 D] W (U1 zb w0 W G M v0 v1 R z (ZG R n (Z3.longer ⟨u,B⟩ d) t D (YA (fun d P=>ZG R n (Z3.longer ⟨u,B⟩ d) t D P) d C).2) L)):=by
   intro W hW;rw[J1.o];exact O1.o ⟨d0,B0⟩ t D _ L W d1.o.2.1 d1.o.2.2 d1.o.1 a0 k0 (H1.o.keep hW)
  have g1:A (∀W,Fr (fun k=>k=G\/k=M\/F.ownBlock=J k\/k=K) W2 W->W.cell? ⟨b,0,I⟩=J (V Y u)/\W.cell? ⟨b,1,I⟩=J (V Y B)/\W.cell? ⟨K+1,0,I⟩=J (Z (J ⟨K,0,I⟩))):=fun W hW=>
   ⟨bC (hW.whole i0.o (T.o b (by omega) (by omega))) 0 _ rfl,bC (hW.whole i0.o (T.o b (by omega) (by omega))) 1 _ rfl,bC (hW.whole m0.o (T.o (K+1) (by omega) (by omega))) 0 _ rfl⟩
  clear A0 C0 t0;go_wp2_with fail;refine wp_region_held_drew (S:=fun W=>W.cell? ⟨b,0,I⟩=J (V Y u)/\W.cell? ⟨b,1,I⟩=J (V Y B)/\W.cell? ⟨K+1,0,I⟩=J (Z (J ⟨K,0,I⟩))) (by kernel_rfl) ⟨q0,q1,q2⟩ (fun hH=>?_)
  iterate 6 (refine YO 0 hH ?_;try go_frame)
  iterate 2 ((first|refine YO 0 hH ?_|refine YO 1 hH ?_);try go_frame)
  refine ZX 10 hH ?_
  try go_frame
  refine Vv 6 (fun K2 hK=>?_);go_simp;refine(r2.o _ Zt.drew).mono ?_;rintro e wy ⟨rfl,i1⟩;refine hK.out _ _ (g1.o _ (HK.o.fr.trans (i1.o.mono))) (fun hH=>?_);clear hK K2
  try go_frame
  refine Vv 9 (fun K2 hK=>?_);go_simp;refine(s2.o _ i1.o).mono ?_;intro e w8 k1
  obtain⟨pp,kk,rfl⟩:∃(pp:Option Addr)(kk:Nat),e=z9 (j2 #[Z pp,V Y kk]):=by
   obtain⟨⟨a,bb,e1,ht⟩,_⟩:=k1;obtain⟨pp,kk,rfl,rfl⟩:=ht.form;exact⟨pp,kk,e1⟩
  obtain⟨K1,⟨u0,z0⟩,⟨u1,z1⟩,zf,L1⟩:=vY.step HK.o S0 (by omega) (by omega) H1.o p2.o i1.o k1;have J0:=Za K1;have t2:=g1.o _ L1;have Q2:=zf (d*2);have y2:=zf (d*2+1)
  have R2:(w8.setCell ⟨K,d*2,I⟩ (Z pp)).cell? ⟨K,d*2+1,I⟩=J u1:=by rw[cO _ _ _ _ (by simp)];exact z1
  have E2:(w8.setCell ⟨K,d*2,I⟩ (Z pp)).frozen? ⟨K,d*2+1,I⟩=false:=by simpa using y2
  clear K1 k1 L1 zf;refine hK.out _ _ t2 (fun hH=>?_);clear hK K2
  try go_frame
  refine ZX 11 hH ?_
  try go_frame
  refine Vv 12 (fun K2 hK=>?_);go_simp;refine hK.out _ _ (g1.o _ J0.o.fr) (fun _=>?_);clear hK K2
  try go_frame
  refine wpAnyH_done (by kernel_rfl) ?_ _;go_wp2_with fail;go_roundg (10-(d+1))
  case measure=>omega
  exact⟨d+1,by omega,rfl,by go_num,J0⟩
 have z2:d=10:=by omega
 subst z2;have o0:=HK.o.fr.whole F1.o (T.o (b+1) (by omega) (by omega));have l1:=HK.o.fr.whole m0.o (T.o (K+1) (by omega) (by omega));have y0:=Zc o0 0;have y1:=Zc o0 1;have S2:=bF o0 0;have T2:=bF o0 1;have n0:=Zc l1 0;have n1:=Zc l1 1
 have Q:A (U1 zb w0 w G M v0 v1 R z (ZG R (n+1) ⟨u,B⟩ met op C) F (z9 (j2 #[Z (J ⟨K,0,I⟩),V Y 0])) ((wr.setCell ⟨b+1,0,I⟩ (Z (J ⟨K,0,I⟩))).setCell ⟨b+1,1,I⟩ (V Y 0))):=by
  have hS:Fr (fun k=>k=b+1) wr ((wr.setCell ⟨b+1,0,I⟩ (Z (J ⟨K,0,I⟩))).setCell ⟨b+1,1,I⟩ (V Y 0)):=((Fr.refl (fun k=>k=b+1) wr).setCell (p:=⟨b+1,0,I⟩) (E rfl) _).setCell (p:=⟨b+1,1,I⟩) (E rfl) _
  have hT:ZG R (n+1) ⟨u,B⟩ met op C=(.node (YA (fun d P=>ZG R n (Z3.longer ⟨u,B⟩ d) t D P) 10 C).1,(YA (fun d P=>ZG R n (Z3.longer ⟨u,B⟩ d) t D P) 10 C).2):=by
   rw[ZG,Z0.o,if_neg hz]
  rw[hT];obtain⟨L,b0,c0⟩:=HK.o.gs;obtain⟨cs,hc,A2,hk⟩:=HK.o.ar;have V2:=HB.o;refine⟨⟨_,_,rfl,⟨K,cs,rfl,by omega,hS.whole hc (by omega),A2,fun j hj=>?_⟩⟩,⟨L,b0.wrote hS ?_,?_⟩,?_⟩
  ·obtain⟨x,y,e1,e2,e3⟩:=hk j hj
   exact⟨x,y,e1,e2,Xf.low (by omega) _ _ (e3.keep' hS (fun K' hl=>by omega))⟩
  ·rintro k rfl
   exact⟨by omega,_,_,o0,E rfl⟩
  ·rcases c0 with e|e
   ·exact E e
   exact O fun k hk=>z8 G1.o.size (e k hk)
  have f1:Fr (fun k=>k=G\/k=M\/F.ownBlock=J k) w wr:=by
   refine Fr.monoNew (S:=fun k=>k=G\/k=M\/F.ownBlock=J k) (G1.o.mono) HK.o.fr ?_;rintro k (e|e|e|e)
   ·exact E (E e)
   ·exact E (O (E e))
   ·exact E (O (O e))
   exact O (by omega)
  exact f1.monoNew hS (fun k hk=>O (by omega))
 rw[HP.o]at Q;clear o0 l1;go_wp2_with fail
 obtain⟨s0,s1⟩:((wr.setCell ⟨b+1,0,I⟩ (Z (J ⟨K,0,I⟩))).setCell ⟨b+1,1,I⟩ (V Y 0)).cell? ⟨b+1,0,I⟩=J (Z (J ⟨K,0,I⟩))/\((wr.setCell ⟨b+1,0,I⟩ (Z (J ⟨K,0,I⟩))).setCell ⟨b+1,1,I⟩ (V Y 0)).cell? ⟨b+1,1,I⟩=J (V Y 0):=by
  constructor
  ·rw[cO _ _ _ _ (by simp)];exact cS _ _ _ y0
  exact cS _ _ _ (by rw[cO _ _ _ _ (by simp)];exact y1)
 refine bodyPost_ret (v:=j2 #[Z (J ⟨K,0,I⟩),V Y 0]) (by simp[results,Tryz.results93,go_sem,s0,s1]) rfl Q.o
theorem I2 {f:Nat}(w0:C)(G M:Nat)(v0 v1:q8)(R:List Ze)(a:Nat->Nat)(g:M<w0.heap.size)(i:G<w0.heap.size)(b:R.length<=8)(j:∀k,k<R.length->a k<R.length)(l:∀r,r∈R->r.mcc.length<=4000/\r.cur.length<=4000)(m:∀r,r∈R->QO r/\r.lo<=1000000):
  ∀(n:Nat)(q:Z3)(met op:Nat)(c:List Nat)(e:q8)(w:C),7<=n+q.d->q.d<=6->q.x<10^q.d->met<256->op<256->Qw f w0 w G M v0 v1 R a c e->j0 U 93 #[Z (J ⟨G,0,I⟩),VS q,V .u64 met,V .u64 op] w (U1 f w0 w G M v0 v1 R a (ZG R n q met op c) e)
 |0,_,_,_,_,_,_,h7,hq,_,_,_,_=>by omega
 |n+1,q,met,op,c,e,w,h7,hq,hx,hm,hop,h=>CG w0 G M v0 v1 R a g i b j l m n (I2 w0 G M v0 v1 R a g i b j l m n) q met op c e w h7 hq hx hm hop h
structure tK (w:C)(va:Option Addr)(n c:Nat)(ord:Nat->Nat)(G M:Nat)(oa:Option Addr)(oc:Nat)(w1:C):Prop where
 fr:F0 w w1
 bx:w1.heap[G]?=J (y8 #[P va n c,P oa n oc,P I 0 0,.map (J M)] 178)
 mp:w1.heap[M]?=J (.map #[] 0)
 od:∀k,k<n->∃og,oa=J ⟨og,0,I⟩/\og<w1.heap.size/\og≠G/\og≠M/\w1.cell? ⟨og,k,I⟩=J (V Y (ord k))
 lo:w.heap.size<=G/\w.heap.size<=M
theorem tK.start {e w wc wr s c j G M D E R}(h:tK w s R.length c j G M D E wc)(l:F0 wc wr)(S:e<=w.heap.size)(F:∀i r,R[i]?=J r->∃g t u x y z A,s=J ⟨g,0,I⟩/\g<w.heap.size/\
   (∀o v,[Q r.name,.int .i64 r.rank,.int .i64 r.digits,.int .i64 r.lo,.int .i64 r.hi,.slice t r.mcc.length u,.bool r.am.isSome,.int .i64 (r.am.getD (0,0)).1,.int .i64 (r.am.getD (0,0)).2,.slice x r.cur.length y,.bool r.decline,.bool r.cheapest,.slice z r.routes.length A,.int .i64 r.ahead][o]?=J v->w.cell? ⟨g,i*14+o,I⟩=J v)/\
   w.ownsRow e 3 1 (.slice t r.mcc.length u) r.mcc.length (Zg r.mcc)/\w.ownsRow e 3 1 (.slice x r.cur.length y) r.cur.length (Zg r.cur)/\w.ownsRow e 3 1 (.slice z r.routes.length A) r.routes.length (Zg r.routes)):
  Qw e wr wr G M (.slice s R.length c) (.slice D R.length E) R j [] (.slice I 0 0)/\G<wr.heap.size/\M<wr.heap.size:=by
 have f:=h.fr.trans l;have T:=h.lo;have n:=l.whole h.bx;have q:=l.whole h.mp;refine⟨⟨⟨z8 S f.size,⟨s,c,rfl,fun i r hi=>?_⟩,⟨D,E,rfl,fun k b=>?_⟩⟩,Zt,n,⟨.map [],?_,⟨isMap_empty,fun m _=>⟨by simp[Maps.has_eq],by simp⟩⟩⟩,⟨[],World.ownsRow_nil _ _ _ _,by simp⟩,by simp,by simp⟩,(Array.getElem?_eq_some_iff.1 n).1,(Array.getElem?_eq_some_iff.1 q).1⟩
 ·obtain⟨g,t,u,x,y,z,A,K,d,N,L,B,O⟩:=F i r hi
  have a:∀k,k<w.heap.size->¬(k=G\/k=M):=fun k b=>by omega
  exact⟨g,t,u,x,y,z,A,K,nL d f.size,a g d,fun o v V=>(f.cell (p:=⟨g,i*14+o,I⟩) d).trans (N o v V),⟨oF L f,fun k b=>a k (L.lt k b).2⟩,⟨oF B f,fun k b=>a k (B.lt k b).2⟩,⟨oF O f,fun k b=>a k (O.lt k b).2⟩⟩
 ·obtain⟨P,K,d,N,L,B⟩:=h.od k b
  exact⟨P,K,nL d l.size,by omega,(l.cell (p:=⟨P,k,I⟩) d).trans B⟩
 obtain⟨es,ck,C,W,X,Y⟩:=World.ownsMap_made (H:=Unit) wr U 183 (plainElem U 3)
 rw[aN]at C;injection C with C;injection C with Z a2;subst Z a2;exact⟨#[],0,q,W,X,Y⟩
structure X7 (zb:Nat)(w:C)(T:Nat)(vr:q8)(R:List Ze)(ord:Nat->Nat):Prop where
 tz:zb<=T
 bx:∃vn vp a b,w.heap[T]?=J (y8 #[vr,vn,vp,a,b] 135)/\w.ownsRow zb 9 1 vn R.length ((R.map Ze.name).map Q)/\(∃xs,w.ownsRow zb 129 1 vp (ZG R 7 ⟨0,0⟩ 0 (2^R.length-1) []).2.length xs/\∀(j m:Nat),(ZG R 7 ⟨0,0⟩ 0 (2^R.length-1) []).2[j]?=J m->∃vj,xs[j]?=J vj/\Z2 zb w zb vj (ZI R m (X6 R.length ord)))/\Xf w zb (ZG R 7 ⟨0,0⟩ 0 (2^R.length-1) []).1 (j2 #[a,b])
theorem Rl {a w w' S base v l}(h:Z2 a w base v l)(d:a<=base)(b:Fr S w w')(c:∀k,S k->k<a):Z2 a w' base v l:=by
 obtain⟨e,f,g⟩:=h;exact⟨e,oF f b (fun k i=>nL (c k i) d),g.keep (fun v n m j=>oF j b c)⟩
theorem X7.fr {g w w' S T i R c}(h:X7 g w T i R c)(d:Fr S w w')(f:∀k,S k->k<g:=by simp):X7 g w' T i R c:=by
 have l:=h.tz;obtain⟨n,o,a,b,p,q,⟨r,s,t⟩,u⟩:=h.bx;refine⟨l,n,o,a,b,d.whole p (fun e=>by have:=f T e;omega),oF q d f,⟨r,oF s d f,fun j m v=>?_⟩,u.keep' d (fun K A e=>by have:=f K e;omega)⟩;obtain⟨x,y,z⟩:=t j m v;exact⟨x,y,Rl z (k4 _) d f⟩
theorem AT {g w wc wr a T G M u L v0 v1 x h R b l i}{o:Nat}(hz:g<=w.heap.size)(q:F0 w wc)(hT:wc.heap.size=T)(hG:w.heap.size<=G)(hM:w.heap.size<=M)(W:R.map Ze.name=l)(y:F0 wc wr)(N:wr.heap[T]?=J (y8 #[L,x,P I 0 0,Z I,V Y 0] 135))(z:wr.ownsRow (T+1) 9 1 x l.length (l.map Q))(S:Qw g wr wr G M v0 v1 R b [] u)(c:u.ownBlock=I)(A:T≠G)(B:T≠M)(X:Xf a wr.heap.size (ZG R 7 ⟨0,0⟩ 0 (2^R.length-1) []).1 (j2 #[Z i,V Y o]))(hg:Qw g wr a G M v0 v1 R b (ZG R 7 ⟨0,0⟩ 0 (2^R.length-1) []).2 h)(d:Fr (fun k=>k=G\/k=M\/u.ownBlock=J k) wr a):
  w.heap.size<=T/\X7 g (((a.setCell ⟨T,3,I⟩ (Z i)).setCell ⟨T,4,I⟩ (V Y o)).setCell ⟨T,2,I⟩ h) T L R b/\F0 w (((a.setCell ⟨T,3,I⟩ (Z i)).setCell ⟨T,4,I⟩ (V Y o)).setCell ⟨T,2,I⟩ h):=by
 have a0:T<wr.heap.size:=(iA.1 N).1
 have C:w.heap.size<=T:=by have:=q.size;omega
 have r:=d.whole N (by rintro(e|e|e)<;>first|exact A e|exact B e|(rw[c]at e;cases e));have t:Fr (fun k=>k=T) a (((a.setCell ⟨T,3,I⟩ (Z i)).setCell ⟨T,4,I⟩ (V Y o)).setCell ⟨T,2,I⟩ h):=(((Fr.refl (fun k=>k=T) a).setCell (p:=⟨T,3,I⟩) (E rfl) _).setCell (p:=⟨T,4,I⟩) (E rfl) _).setCell (p:=⟨T,2,I⟩) (E rfl) _;have e1:=heap_setCell_same a T 3 _ _ (Z i) r;have e2:=heap_setCell_same _ T 4 _ _ (V Y o) e1;have e3:=heap_setCell_same _ T 2 _ _ h e2;obtain⟨D,⟨es,ck,hm,_⟩,_⟩:=S.mp;obtain⟨xs,F,H⟩:=hg.pg;refine⟨C,⟨by omega,x,h,Z i,V Y o,?_,?_,⟨xs,?_,fun j m hj=>?_⟩,?_⟩,?_⟩
 ·simpa using e3
 ·have n8:=oA z d (by
   rintro k f (e|e|e)
   ·subst e
    exact oN z S.bx (by decide) f
   ·subst e
    exact Ma z hm f
   rw[c]at e
   cases e)
  have U:=oS (base:=T+1) (oF n8 t (fun k f=>by omega)) (show g<=T+1 by omega);rw[<-W,g7]at U;exact U
 ·exact oS (base:=wr.heap.size) (oF F t (fun k f=>by omega)) (by omega)
 ·obtain⟨vj,a1,a2⟩:=H j m hj
  refine⟨vj,a1,Sf a2 t ?_⟩;rintro e s v n ys he hr k f rfl;exact oN hr r (by rcases he with rfl|rfl<;>decide) f
 ·exact Xf.low (show g<=wr.heap.size by omega) _ _ (X.keep' t (fun K hK=>by omega))
 exact(((q.trans y).monoNew d (by
  rintro k (e|e|e)
  ·exact O (by omega)
  ·exact O (by omega)
  rw[c]at e
  cases e))).monoNew t (fun k f=>O (by omega))
theorem RL:(U.info? 9).map (fun i=>(i.zero,i.size,i.bytes))=J (J (k6 ByteArray.empty),1,16):=by kernel_rfl
def Zv (R:List Ze)(i:Nat):Nat:=(R[i]?.map Ze.rank).getD 0
structure ug (wc:C)(T:Nat)(vr:q8)(l:List ByteArray)(vn:q8)(wx:C):Prop where
 fr:F0 wc wx
 bx:wx.heap[T]?=J (y8 #[vr,vn,P I 0 0,Z I,V Y 0] 135)
 nm:wx.ownsRow (T+1) 9 1 vn l.length (l.map Q)
theorem ug.more {wc n wr s b T w l q r g cap x}(h:ug wc T w l (P q l.length r) n)(z:wc.heap.size<=T)(t:F0 n wr)(u:F0 wr s)(f:b.ownsRow (T+1) 9 1 (P (J ⟨g,0,I⟩) (l.length+1) cap) (l.length+1) (l.map Q++[k6 x]))(a:s.grownBy b (B q l.length r).ownBlock):
  ug wc T w (l++[x]) (P (J ⟨g,0,I⟩) (l.length+1) cap) (b.setCell ⟨T,1,I⟩ (P (J ⟨g,0,I⟩) (l.length+1) cap))/\b.cell? ⟨T,1,I⟩=J (P q l.length r)/\b.frozen? ⟨T,1,I⟩=false/\(∀X o v,X<wr.heap.size->n.heap.size<=X->wr.cell? ⟨X,o,I⟩=J v->b.cell? ⟨X,o,I⟩=J v):=by
 have i:=t.trans u
 have c:∀k,(B q l.length r).ownBlock=J k->T+1<=k/\k<n.heap.size:=fun k j=>h.nm.lt k j
 have m:=(Fr.refl _ s).grown a (fun k j=>E j);have d:=m.whole (i.whole h.bx) (fun e=>by have:=c T e;omega);refine⟨⟨?_,?_,?_⟩,Zc d 1,bF d 1,fun X o v y A C=>?_⟩
 ·exact((h.fr.trans i).grown a (fun k j=>O (by have:=c k j;omega))).setCell (p:=⟨T,1,I⟩) (O z) _
 ·have e:=heap_setCell_same b T 1 _ _ (P (J ⟨g,0,I⟩) (l.length+1) cap) d
  simpa using e
 ·rw[lA,k0]
  exact oB f (by simp) _
 exact(m.cell (p:=⟨X,o,I⟩) (nL y u.size) (fun e=>by have:=c X e;omega)).trans ((u.cell (p:=⟨X,o,I⟩) y).trans C)
theorem AU (i)(h:i<=8):p8.wrap (p8.wrap (2^i)-1)=((2^i-1:Nat):Int):=by
 have:i=0\/i=1\/i=2\/i=3\/i=4\/i=5\/i=6\/i=7\/i=8:=by omega
 rcases this with rfl|rfl|rfl|rfl|rfl|rfl|rfl|rfl|rfl<;>decide
theorem AW {zb}(w Bk ra rn rc C n c R)(hN:R.length=n)(hn:n<=8)(p0:∀k,k<n->Zx (Zv R) n k<n)(O0:∀r,r∈R->r.mcc.length<=4000/\r.cur.length<=4000)(q0:∀r,r∈R->QO r/\r.lo<=1000000)(hz:zb<=w.heap.size)(r0:w.cell? ⟨Bk,0,I⟩=J (P ra rn rc))(F:w.cell? ⟨Bk,1,I⟩=J (P C n c))(s0:∀i r,R[i]?=J r->∃g O mc ca cc pa pc,C=J ⟨g,0,I⟩/\g<w.heap.size/\
   (∀o v,[Q r.name,V Y r.rank,V Y r.digits,V Y r.lo,V Y r.hi,P O r.mcc.length mc,j1 r.am.isSome,V Y (r.am.getD (0,0)).1,V Y (r.am.getD (0,0)).2,P ca r.cur.length cc,j1 r.decline,j1 r.cheapest,P pa r.routes.length pc,V Y r.ahead][o]?=J v->w.cell? ⟨g,i*14+o,I⟩=J v)/\
   w.ownsRow zb 3 1 (P O r.mcc.length mc) r.mcc.length (Zg r.mcc)/\w.ownsRow zb 3 1 (P ca r.cur.length cc) r.cur.length (Zg r.cur)/\w.ownsRow zb 3 1 (P pa r.routes.length pc) r.routes.length (Zg r.routes)):
  j0 U 51 #[Z (J ⟨Bk,0,I⟩)] w fun e w'=>(∃T,e=z9 (Z (J ⟨T,0,I⟩))/\w.heap.size<=T/\X7 zb w' T (P ra rn rc) R (Zx (Zv R) n))/\F0 w w':=by
 have t0:A (∀i r,R[i]?=J r->∃g O mc ca cc pa pc,C=J ⟨g,0,I⟩/\g<w.heap.size/\
   (∀o v,[Q r.name,V Y r.rank,V Y r.digits,V Y r.lo,V Y r.hi,P O r.mcc.length mc,j1 r.am.isSome,V Y (r.am.getD (0,0)).1,V Y (r.am.getD (0,0)).2,P ca r.cur.length cc,j1 r.decline,j1 r.cheapest,P pa r.routes.length pc,V Y r.ahead][o]?=J v->w.cell? ⟨g,i*14+o,I⟩=J v)/\
   w.ownsRow zb 3 1 (P O r.mcc.length mc) r.mcc.length (Zg r.mcc)/\w.ownsRow zb 3 1 (P ca r.cur.length cc) r.cur.length (Zg r.cur)/\w.ownsRow zb 3 1 (P pa r.routes.length pc) r.routes.length (Zg r.routes)):=s0
 have HN:=Za hN;obtain⟨rk,h0⟩:∃rk:Nat->Nat,rk=Zv R:=⟨_,rfl⟩;have P0:=Za h0;rw[<-h0]at p0
 have hr:∀i,i<n->∃g,C=J ⟨g,0,I⟩/\g<w.heap.size/\w.cell? ⟨g,i*14+1,I⟩=J (V Y (rk i)):=by
  intro i hi;have e:R[i]?=J R[i]:=gE (by omega);obtain⟨g,O,mc,ca,cc,pa,pc,d,e2,e3,_⟩:=s0 i _ e;refine⟨g,d,e2,?_⟩;rw[h0,Zv,e];exact e3 1 _ rfl
 have v0:A (∀W,F0 w W->j0 U 92 #[P C n c] W fun e w'=>(∃E H,e=z9 (P E n H)/\A (E4 w' W.heap.size E n (Zx rk n)))/\A (F0 W w')):=by
  intro W hW;refine Fv W C n c rk hn (fun i hi=>?_);obtain⟨g,d,e2,e3⟩:=hr i hi;exact⟨g,d,nL e2 hW.size,(hW.cell (p:=⟨g,i*14+1,I⟩) e2).trans e3⟩
 have d1:=@run_makeMap U;obtain⟨ii,w0,y0,z0,A0⟩:=info_parts RL;have HZ:=Za hz;go_enter Tryz.func51,Tryz.ntmps51;go_upto_region 1 with fail
 go_cut [3] (fun v w1=>∃G M E H,v=Z (J ⟨G,0,I⟩)/\A (tK w C n c (Zx rk n) G M E H w1))
 case first=>
  refine wp_region_held_drew (S:=fun W=>W.cell? ⟨Bk,1,I⟩=J (P C n c)) (by kernel_rfl) F (fun h=>?_)
  have u:A (∀W,F0 w W->W.cell? ⟨Bk,1,I⟩=J (P C n c)):=fun W hW=>(hW.cell (p:=⟨Bk,1,I⟩) (bL w _ F)).trans F
  iterate 8 (refine YO 0 h ?_;try go_frame)
  refine Xz [8,9] ?_;refine Zb rfl (fun x f=>?_) ?_
  ·go_simp
   refine(v0.o _ Zt.drew).mono ?_;rintro e y ⟨⟨E,H,rfl,i0⟩,a0⟩;have j:=Za ((Zt.drew).trans a0.o);refine f.out _ _ (u.o _ j.o) (fun h=>?_)
   try go_frame
   refine Vv 9 (fun x f=>?_);go_simp;refine f.out _ _ (u.o _ (j.o.alloc _)) (fun h=>?_)
   try go_frame
   refine ZX 10 h ?_
   try go_frame
   refine Vv 11 (fun x f=>?_);go_simp;refine f.out _ _ (u.o _ ((j.o.alloc _).alloc _)) (fun h=>?_)
   try go_frame
   refine ZX 12 h ?_
   try go_frame
   refine wpAnyH_done (by kernel_rfl) ?_ _;go_wp2_with fail;go_meet;refine⟨y.heap.size+1,y.heap.size,E,H,by simp,⟨(j.o.alloc _).alloc _,?_,?_,fun k hk=>?_,?_⟩⟩
   ·have e:=aN (y.alloc (.map #[] 0)) (y8 #[P C n c,P E n H,P I 0 0,.map (J y.heap.size)] 178)
    rw[show(y.alloc (.map #[] 0)).heap.size=y.heap.size+1 from by simp]at e;exact e
   ·exact((Fr.refl (fun _=>False) _).alloc _).whole (aN y _)
   ·obtain⟨og,d,e2,e3,e4⟩:=i0.o (by omega)
    refine⟨og,d,by simp;omega,by omega,by omega,?_⟩;exact((((Fr.refl (fun _=>False) y).alloc _).alloc _).cell (p:=⟨og,k,I⟩) e3 (by simp)).trans (e4.1 k hk)
   have:=j.o.size
   omega
  refine Zb rfl (fun x f=>?_) y9
  try rw[if_pos (by rfl)]
  go_simp;refine f.out _ _ (u.o _ ((Zt.drew).alloc _)) (fun h=>?_)
  try go_frame
  refine Vv 8 (fun x f=>?_);go_simp;refine(v0.o _ ((Zt.drew).alloc _)).mono ?_;rintro e y ⟨⟨E,H,rfl,i0⟩,a0⟩;have j:=Za ((((Fr.refl (fun _=>False) w).drew).alloc (.map #[] 0)).trans a0.o);refine f.out _ _ (u.o _ j.o) (fun h=>?_)
  try go_frame
  refine ZX 10 h ?_
  try go_frame
  refine Vv 11 (fun x f=>?_);go_simp;refine f.out _ _ (u.o _ (j.o.alloc _)) (fun h=>?_)
  try go_frame
  refine ZX 12 h ?_
  try go_frame
  refine wpAnyH_done (by kernel_rfl) ?_ _;go_wp2_with fail;go_meet;have B0:y.heap[w.heap.size]?=J (.map #[] 0):=a0.o.whole (aN w.drew (.map #[] 0));have f1:=(iA.1 B0).1;refine⟨y.heap.size,w.heap.size,E,H,rfl,⟨j.o.alloc _,aN y _,((Fr.refl (fun _=>False) _).alloc _).whole B0,fun k hk=>?_,?_⟩⟩
  ·obtain⟨og,d,e2,e3,e4⟩:=i0.o (by omega)
   have e5:w.heap.size+1<=og:=by simpa using e2
   refine⟨og,d,by simp;omega,by omega,by omega,?_⟩;exact(((Fr.refl (fun _=>False) y).alloc _).cell (p:=⟨og,k,I⟩) e3).trans (e4.1 k hk)
  omega
 obtain⟨G,M,E,H,rfl,q⟩:=hcut;have b0:=(q.o.fr.cell (p:=⟨Bk,0,I⟩) (bL w _ r0)).trans r0;have b1:=(q.o.fr.cell (p:=⟨Bk,1,I⟩) (bL w _ F)).trans F;have l0:A (ug wc wc.heap.size _ [] _ (wc.alloc (y8 #[P ra rn rc,P I 0 0,P I 0 0,Z I,V Y 0] 135))):=⟨Zt.alloc _,aN wc _,oZ _ _ _ _⟩;go_upto_region 3 with fail;generalize wc.alloc _=W1 at*;obtain⟨T,hT⟩:∃T,wc.heap.size=T:=⟨_,rfl⟩;have HT:=Za hT;rw[hT]at l0 ⊢;have g1:=(l0.o.fr.cell (p:=⟨Bk,1,I⟩) (bL wc _ b1)).trans b1;have C0:=Za b1;go_wp2_with fail
 go_loopg [30] n (fun m kv wx=>∃i vn,i<=n/\m=n-i/\kv=V Y (i:Nat)/\A (ug wc T (P ra rn rc) ((R.take i).map Ze.name) vn wx))
 case atStart=>exact⟨0,_,k5 _,rfl,rfl,l0⟩
 obtain⟨i,vn,hi,rfl,rfl,t⟩:=hrel;by_cases h1:i<n
 ·have Q0:(i:Int)<(n:Int):=by omega
  obtain⟨r,hr⟩:∃r,R[i]?=J r:=⟨_,gE (by have:=HN.o;omega)⟩;have D0:=Za hr;obtain⟨g,O,mc,ca,cc,pa,pc,eg,R0,c0,_⟩:=t0.o i r hr;subst eg
  have b:∀o v,[Q r.name,V Y r.rank,V Y r.digits,V Y r.lo,V Y r.hi,P O r.mcc.length mc,j1 r.am.isSome,V Y (r.am.getD (0,0)).1,V Y (r.am.getD (0,0)).2,P ca r.cur.length cc,j1 r.decline,j1 r.cheapest,P pa r.routes.length pc,V Y r.ahead][o]?=J v->wr.cell? ⟨g,i*14+o,I⟩=J v:=fun o v ho=>((q.o.fr.trans t.o.fr).cell (p:=⟨g,i*14+o,I⟩) R0).trans (c0 o v ho)
  have S0:=b 0 _ rfl;have i1:=b 1 _ rfl;have v2:=b 2 _ rfl;have v3:=b 3 _ rfl;have v4:=b 4 _ rfl;have v5:=b 5 _ rfl;have v6:=b 6 _ rfl;have v7:=b 7 _ rfl;have v8:=b 8 _ rfl;have v9:=b 9 _ rfl;have k1:=b 10 _ rfl;have l1:=b 11 _ rfl;have m1:=b 12 _ rfl;have n1:=b 13 _ rfl;rw[k8]at S0;obtain⟨z,d0⟩:=Vx wr (Lm r.name r.rank r.digits r.lo r.hi O r.mcc.length mc r.am.isSome (r.am.getD (0,0)).1 (r.am.getD (0,0)).2 ca r.cur.length cc r.decline r.cheapest pa r.routes.length pc r.ahead);unfold Lm at z d0;go_upto_region 6 with fail;generalize wr.alloc _=K at*;obtain⟨X,hX⟩:∃X,wr.heap.size=X:=⟨_,rfl⟩;have HX:=Za hX;rw[hX]at d0 ⊢;obtain⟨l,hl⟩:∃l,(R.take i).map Ze.name=l:=⟨_,rfl⟩;have HL:=Za hl
  have o1:l.length<=8:=by rw[<-hl,g7,j8];omega
  rw[hl]at t;obtain⟨la,lc,e3⟩:=oL t.o.nm;subst e3;have x0:=Zc d0.o 0;have e0:=(iA.1 d0.o).1;have t1:=bC (z.o.whole t.o.bx) 1 _ rfl;have E0:=Za (oF t.o.nm z.o)
  have p1:T+1<=K.heap.size:=by have:=(iA.1 (z.o.whole t.o.bx)).1;omega
  refine wp_region_held_drew (S:=fun W=>W.cell? ⟨X,0,I⟩=J (k6 r.name)) (by kernel_rfl) x0 (fun h=>?_)
  iterate 4 (refine YO 0 h ?_;try go_frame)
  iterate 2 ((first|refine YO 0 h ?_|refine YO 1 h ?_);try go_frame)
  refine Xz [4,7] ?_;refine Zb rfl (fun x f=>?_) ?_
  ·try rw[if_pos (by rfl)]
   go_simp;refine f.out _ _ h (fun _=>?_)
   try go_frame
   refine Xz [7] ?_;refine Zb rfl (fun x f=>?_) y9
   try rw[if_pos (by rfl)]
   go_simp;refine f.out _ _ ((((Fr.refl (fun _=>False) K).alloc _).cell (p:=⟨X,0,I⟩) e0).trans x0) (fun h=>?_)
   try go_frame
   refine Xz [8] ?_;refine Zb rfl (fun x f=>?_) y9;refine step_append_lies _ rfl (.tmp 38) (.tmp 41) 28 rfl (T+1) 9 ii _ 1 16 Tryz.underlying28 w0 y0 z0 A0 rfl (by decide) (P la l.length lc) l.length (l.map Q) rfl ?h1C ⟨K.heap.size,0,I⟩ 1 1 [k6 r.name] rfl rfl ?h2C ?h3C (by decide) ?h4C ?h5C ?h6C _ rfl ?_
   case h1C=>exact(E0.o.alloc _).drew
   case h2C=>exact q9 (aN K _)
   case h3C=>simp[j3]
   case h4C=>unfold maxLen;omega
   case h5C=>omega
   case h6C=>simp;omega
   intro g2 L w8 N s T0 _;obtain⟨m0,d2,df,n0⟩:=t.o.more (j9 HT.o) z.o (((Fr.refl (fun _=>False) K).alloc _).drew) N s;have o0:=Za m0;have x8:=n0 X 0 _ e0 (j9 HX.o) x0;refine f.out _ _ x8 (fun h=>?_)
   try go_frame
   iterate 2 (refine YO 0 h ?_;try go_frame)
   refine Vv 11 (fun x f=>?_);go_simp;refine f.out _ _ ?_ (fun _=>?_)
   ·rw[cO _ _ _ _ (by intro e;injection e with d e2;omega)]
    exact x8
   try go_frame
   refine wpAnyH_done (by kernel_rfl) ?_ _;go_wp2_with fail;go_roundg (n-(i+1))
   case measure=>omega
   refine⟨i+1,P (J ⟨g2,0,I⟩) (l.length+1) L,by omega,rfl,by go_num,?_⟩
   have e:(R.take (i+1)).map Ze.name=l++[r.name]:=by rw[j7,D0.o,k0,HL.o];rfl
   rw[e];exact o0
  refine Zb rfl (fun x f=>?_) y9
  try rw[if_pos (by rfl)]
  go_simp;refine f.out _ _ ((((Fr.refl (fun _=>False) K).alloc _).cell (p:=⟨X,0,I⟩) e0).trans x0) (fun h=>?_)
  try go_frame
  refine Xz [4] ?_;refine Zb rfl (fun x f=>?_) y9
  try rw[if_pos (by rfl)]
  have q1:(K.alloc (y8 #[k6 r.name] 9)).cell? ⟨T,1,I⟩=J (P la l.length lc):=by rw[World.cell?_alloc_lt _ _ _ (bL K _ t1)];exact t1
  go_simp;refine f.out _ _ h (fun _=>?_)
  try go_frame
  refine Xz [8] ?_;refine Zb rfl (fun x f=>?_) y9;refine step_append_lies _ rfl (.tmp 38) (.tmp 41) 28 rfl (T+1) 9 ii _ 1 16 Tryz.underlying28 w0 y0 z0 A0 rfl (by decide) (P la l.length lc) l.length (l.map Q) rfl ?h1D ⟨K.heap.size,0,I⟩ 1 1 [k6 r.name] rfl rfl ?h2D ?h3D (by decide) ?h4D ?h5D ?h6D _ rfl ?_
  case h1D=>exact(E0.o.alloc _).drew
  case h2D=>exact q9 (aN K _)
  case h3D=>simp[j3]
  case h4D=>unfold maxLen;omega
  case h5D=>omega
  case h6D=>simp;omega
  intro g2 L w8 N s T0 _;obtain⟨m0,d2,df,n0⟩:=t.o.more (j9 HT.o) z.o (((Fr.refl (fun _=>False) K).alloc _).drew) N s;have o0:=Za m0;have x8:=n0 X 0 _ e0 (j9 HX.o) x0;refine f.out _ _ x8 (fun h=>?_)
  try go_frame
  iterate 2 (refine YO 0 h ?_;try go_frame)
  refine Vv 11 (fun x f=>?_);go_simp;refine f.out _ _ ?_ (fun _=>?_)
  ·rw[cO _ _ _ _ (by intro e;injection e with d e2;omega)]
   exact x8
  try go_frame
  refine wpAnyH_done (by kernel_rfl) ?_ _;go_wp2_with fail;go_roundg (n-(i+1))
  case measure=>omega
  refine⟨i+1,P (J ⟨g2,0,I⟩) (l.length+1) L,by omega,rfl,by go_num,?_⟩
  have e:(R.take (i+1)).map Ze.name=l++[r.name]:=by rw[j7,D0.o,k0,HL.o];rfl
  rw[e];exact o0
 have V0:i=n:=by omega
 subst V0
 have Q0:¬(i:Int)<(i:Int):=by omega
 have W0:=Za ((t.o.fr.cell (p:=⟨Bk,1,I⟩) (bL wc _ C0.o)).trans C0.o);have s1:=W0.o;have v1:=AU i hn
 have G0:2^i-1<256:=by
  have:2^i<=2^8:=j6 (by omega) hn;omega
 have B:A (Qw zb wr wr G M (P C i c) (P E i H) R (Zx rk i) [] (P I 0 0)/\G<wr.heap.size/\M<wr.heap.size):=by
  have e:=HN.o;subst e;exact q.o.start t.o.fr HZ.o t0.o
 have X0:A (j0 U 93 #[Z (J ⟨G,0,I⟩),j2 #[V Y 0,V Y 0],V .u64 0,V .u64 ((2^i-1:Nat):Int)] wr (U1 zb wr wr G M (P C i c) (P E i H) R (Zx rk i) (ZG R 7 ⟨0,0⟩ 0 (2^i-1) []) (P I 0 0))):=by
  have e:=HN.o;exact I2 wr G M _ _ R (Zx rk i) B.o.2.2 B.o.2.1 (by omega) (by rw[e];exact p0) O0 q0 7 ⟨0,0⟩ 0 (2^i-1) [] (P I 0 0) wr (by simp) (by simp) (by simp) (by omega) G0 B.o.1
 go_wp2_with fail;refine X0.o.mono ?_;intro e w8 f0
 obtain⟨pp,kk,rfl⟩:∃(pp:Option Addr)(kk:Nat),e=z9 (j2 #[Z pp,V Y kk]):=by
  obtain⟨⟨a,bb,d,ht⟩,_⟩:=f0;obtain⟨pp,kk,rfl,rfl⟩:=ht.form;exact⟨pp,kk,d⟩
 have Y0:=Za f0
 have g0:T≠G:=by
  rintro rfl;have d:=B.o.1.bx;rw[t.o.bx]at d;injection d with d;injection d with _ d _;exact absurd d (by decide)
 have H0:T≠M:=by
  rintro rfl;obtain⟨D,⟨es,ck,d,_⟩,_⟩:=B.o.1.mp;rw[t.o.bx]at d
  cases d
 have bT:=f0.2.2.whole t.o.bx (by rintro(e|e|e)<;>first|exact g0 e|exact H0 e|simp[j4]at e);obtain⟨I0,J0,_⟩:=f0.2.1;obtain⟨x1,Z0,_⟩:=J0.pg;obtain⟨K0,L0,e8⟩:=oL Z0;subst e8;have c2:=Zc J0.bx 2;have z2:=Zc bT 2;have z3:=Zc bT 3;have z4:=Zc bT 4;have y1:=bF bT 2;have z1:=bF bT 3;have A1:=bF bT 4;have B1:=Za bT
 have C1:((w8.setCell ⟨T,3,I⟩ (Z pp)).setCell ⟨T,4,I⟩ (V Y kk)).cell? ⟨G,2,I⟩=J (P K0 (ZG R 7 ⟨0,0⟩ 0 (2^i-1) []).2.length L0):=by
  rw[cO _ _ _ _ (by intro e;injection e with d;exact g0 d),cO _ _ _ _ (by intro e;injection e with d;exact g0 d)];exact c2
 go_wp2_with fail;go_ret;have M0:=HN.o;subst M0;have hm:=t.o;rw[List.take_length]at hm;obtain⟨⟨a,bb,d,ht⟩,⟨I0,N0,_⟩,a1⟩:=Y0.o;injection d with d;injection d with d
 obtain⟨ea,eb⟩:Value.pointer pp=a/\Value.int Y kk=bb:=by simpa using d
 subst ea eb
 have c1:I0=P K0 (ZG R 7 ⟨0,0⟩ 0 (2^R.length-1) []).2.length L0:=by
  have:=Zc N0.bx 2;rw[c2]at this;injection this with this;exact this.symm
 subst c1;obtain⟨r1,r2,r3⟩:=AT HZ.o q.o.fr HT.o q.o.lo.1 q.o.lo.2 rfl hm.fr hm.bx hm.nm B.o.1 rfl g0 H0 ht N0 a1;rw[P0.o]at r2;exact⟨⟨T,rfl,r1,r2⟩,r3⟩
