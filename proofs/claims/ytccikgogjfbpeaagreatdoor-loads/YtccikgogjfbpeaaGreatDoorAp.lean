import Derived.Test.YtccikgogjfbpeaaGreatDoorAo
open Go.Value renaming int->I,slice->V,string->U,bool->E,pointer->F,slice->z9,string->q4,ownBlock->q7,oneCell'->q8,agg->j2,agg->p5
open Go.IntKind renaming i64->J
open Option renaming none->Y,some->Z
open Go.Obj renaming cells->O
open Go.RowKit renaming Hid->H
open Bool renaming and_eq_true->G,or_eq_true->j6,eq_iff_iff->k9,or_false->g8
open Nat renaming le_refl->X,le_trans->y5,add_zero->j3,mul_le_mul_right->j8,mul_pos->k6,pow_pos->k7
open Go.AllReadyH renaming nil->z6
open Go.Proofs.Tryz renaming prog->z7
open List renaming mem_singleton->z8,length_map->y9,append_nil->q0,mem_append->q3,length->j0,find?_eq_none->j1,replicate->j7,mem_map_of_mem->j9,find?_append->k0,any_eq_true->k8,map_append->g6,any_cons->g7,mem_map->g9,any_nil->p4
open Go.Ending renaming returned->y4
open Go.World renaming ownsRow->y6,news_of_block->y7,putObj_heap_other->j5
open Go renaming World->y8,Value->q2,Calls->q9
open Or renaming inr->q1,inl->j4
open _root_.ByteArray renaming empty->q5
open Int renaming toNat_of_nonneg->q6
namespace Go.Proofs.YtccikgogjfbpeaaGreatDoor
set_option maxRecDepth 30000
set_option maxHeartbeats 8000000
open Go.RowKit
def vN (w:y8)(A:SJ)(e:Ending)(w':y8):Prop:=(∃b d f g,e=y4 (j2 #[V b.a A.s0.length b.c,V d.a A.s1.length d.c,V f.a A.s2.length f.c,V g.a A.s3.length g.c])/\PW w' A b d f g/\Tt w.heap.size w'.heap.size b d f g)/\F0 w w'
theorem Rw (w r n b d c f g h)(a:Tf n r)(i:Tg r)(j:Zu w b r.mcc)(k:Zu w c r.cur):
  q9 z7 114 #[j2 #[U r.name,I J r.rank,I J r.digits,I J r.lo,I J r.hi,V b r.mcc.length d,E r.am.isSome,I J (r.am.getD (0,0)).1,I J (r.am.getD (0,0)).2,V c r.cur.length f,E r.decline,E r.cheapest,V g r.routes.length h,I J r.ahead]] w (vN w (Ud r)):=by
 refine(MK w r.name r.rank r.digits r.lo r.hi b d r.mcc r.am.isSome (r.am.getD (0,0)).1 (r.am.getD (0,0)).2 c f r.cur r.decline r.cheapest g r.routes.length h r.ahead a.bn.1 a.bn.2.2 (nL a.bn.2.1 (xy a.bn.1)) j (y5 i.m4 (by decide)) k (y5 i.c4 (by decide))).mono ?_;rintro e w' ⟨⟨l,m,o,p,A,rfl,rfl,q,s⟩,t⟩;exact⟨⟨l,m,o,p,rfl,q,s⟩,t⟩
structure Qw (w:y8)(ov:q2)(As:List SJ)(es:List Td)(wr:y8):Prop where
 ar:es.map Td.A=As
 ro:wr.ownsRow w.heap.size 215 4 ov es.length (Vh es)
 ok:∀e,e∈es->e.ok wr/\∀x,x=e.x0\/x=e.x1\/x=e.x2\/x=e.x3->∀g o,x.a=Z ⟨g,o,Y⟩->g<wr.heap.size/\ov.ownBlock≠Z g
 fr:F0 w wr
theorem Qw.more {w wr a d f es}(h:Qw w d f es wr)(b:F0 wr a):Qw w d f es a:=
 ⟨h.ar,oF h.ro b (by simp),fun e c=>⟨(h.ok e c).1.fr b,fun x i g o j=>⟨nL ((h.ok e c).2 x i g o j).1 b.size,((h.ok e c).2 x i g o j).2⟩⟩,h.fr.trans b⟩
theorem Qw.app {w wr i z q r s J es A j l m n g2 d}(h:Qw w (V q r s) J es wr)(K:F0 wr i)(E:PW i A j l m n)(p:Tt wr.heap.size i.heap.size j l m n)(t:z.ownsRow w.heap.size 215 4 (V (Z ⟨g2,0,Y⟩) (es.length+1) d) (es.length+1) (Vh es++Pg ⟨A,j,l,m,n⟩))(f:(i.alloc (O #[Xp j A.s0,Xp l A.s1,Xp m A.s2,Xp n A.s3] 215)).grownBy z (z9 q r s).ownBlock)(F:(z9 q r s).ownBlock=Z g2\/(i.alloc (O #[Xp j A.s0,Xp l A.s1,Xp m A.s2,Xp n A.s3] 215)).heap.size<=g2):
  Qw w (V (Z ⟨g2,0,Y⟩) (es.length+1) d) (J++[A]) (es++[⟨A,j,l,m,n⟩]) z:=by
 have G:=h.more K;have B:Fr (fun k=>(z9 q r s).ownBlock=Z k) i z:=(Zt.alloc _).grown f (fun k H=>.inl H)
 have L:i.heap.size<(i.alloc (O #[Xp j A.s0,Xp l A.s1,Xp m A.s2,Xp n A.s3] 215)).heap.size:=by simp
 have u:∀g,g<i.heap.size->(z9 q r s).ownBlock≠Z g->(z9 (Z ⟨g2,0,Y⟩) (es.length+1) d).ownBlock≠Z g:=by
  intro g N I e
  have b:g2=g:=by simpa[q7]using e
  subst b;rcases F with C|C
  ·exact I C
  omega
 refine⟨by simp[h.ar],?_,fun e v=>?_,(G.fr.alloc _).grown f (fun k H=>.inr (G.ro.lt k H).1)⟩
 ·rw[OA,lA]
  exact t
 rcases q3.1 v with v|v
 ·obtain⟨C,D⟩:=G.ok e v
  exact⟨PW.frS C B (fun x c g o b _=>(D x c g o b).2),fun x c g o b=>⟨nL (D x c g o b).1 B.size,u g (D x c g o b).1 (D x c g o b).2⟩⟩
 rw[z8.1 v]
 have y:∀x,x=j\/x=l\/x=m\/x=n->∀g o,x.a=Z ⟨g,o,Y⟩->(z9 q r s).ownBlock≠Z g:=fun x c g o b M=>by
  have:=(h.ro.lt g M).2;have:=(p x c g o b).1;omega
 exact⟨PW.frS E B (fun x c g o b _=>y x c g o b),fun x c g o b=>⟨nL (p x c g o b).2 B.size,u g (p x c g o b).2 (y x c g o b)⟩⟩
theorem En (w va c N f d nr)(h:vM w va d)(hN:d.length=N)(h8:N<=8)(y0:f<N)(z0:∀r,r∈d->Tf nr r/\Tg r):
  q9 z7 181 #[V va N c,I J (f:Nat)] w fun e w'=>(∃a cc es,e=y4 (V a es.length cc)/\es.map Td.A=Um d f N/\V5 w' a es)/\F0 w w':=by
 obtain⟨ii,hi,n0,o0,p0⟩:=info_parts RU;have HR:=Za h;have HN:=Za hN;have q0:=Za z0
 have H0:(f:Int)<(N:Int):=by omega
 have A0:=Za y0;go_enter Tryz.func181,Tryz.ntmps181;go_wp2_with fail
 go_loopg [5,10] N (fun m ov iv wr=>∃k es,k<=N/\m=N-k/\iv=I J (k:Nat)/\H (Qw w ov (Um d f k) es wr))
 case atStart=>exact⟨0,[],by omega,rfl,rfl,rfl,oZ _ _ _ _,by simp,Fr.refl _ _⟩
 obtain⟨k,es,hk,rfl,rfl,s⟩:=hrel;by_cases I0:k<N
 ·have B0:(k:Int)<(N:Int):=by omega
  obtain⟨oa,oc,ho⟩:=oL s.o.ro;subst ho;obtain⟨r,hr⟩:∃r,d[k]?=Z r:=⟨_,gE (show k<d.length by have:=HN.o;omega)⟩;obtain⟨q,hq⟩:∃q,d[f]?=Z q:=⟨_,gE (show f<d.length by have:=HN.o;have:=A0.o;omega)⟩;obtain⟨g,ma,mc,ca,cc,pa,pc,ea,K,h1,h2⟩:=(HR.o.fr s.o.fr) k r hr;obtain⟨g',_,_,_,_,_,_,r0,C0,_,_⟩:=(HR.o.fr s.o.fr) f q hq
  have eg:g'=g:=by rw[ea]at r0;injection r0 with e;injection e with e;exact e.symm
  subst eg ea;have p1:=C0 1 _ rfl;have v0:=K 0 _ rfl;have v1:=K 1 _ rfl;have v2:=K 2 _ rfl;have v3:=K 3 _ rfl;have v4:=K 4 _ rfl;have v5:=K 5 _ rfl;have v6:=K 6 _ rfl;have v7:=K 7 _ rfl;have v8:=K 8 _ rfl;have v9:=K 9 _ rfl;have J0:=K 10 _ rfl;have K0:=K 11 _ rfl;have L0:=K 12 _ rfl;have M0:=K 13 _ rfl;rw[j3]at v0;have t0:=Za h1;have w0:=Za h2;have C:=Za hr;have D0:=Za hq;go_upto_region 5 with fail;obtain⟨l,t⟩:=VA wr (O #[U r.name,I J r.rank,I J r.digits,I J r.lo,I J r.hi,V ma r.mcc.length mc,E r.am.isSome,I J (r.am.getD (0,0)).1,I J (r.am.getD (0,0)).2,V ca r.cur.length cc,E r.decline,E r.cheapest,V pa r.routes.length pc,I J r.ahead] 120);generalize wr.alloc _=W at*;obtain⟨Q,hQ⟩:∃Q,wr.heap.size=Q:=⟨_,rfl⟩;rw[hQ]at t;rw[hQ];have HQ:=Za hQ;have p2:=(l.o.cell (p:=⟨g',f*14+1,Y⟩) (bL wr _ p1) (by simp)).trans p1;obtain⟨c0,c1,c2,c3,c4,c5,c6,c7,c8,c9,u,v,y,z⟩:=ZZ t.o;obtain⟨b,hb⟩:∃b,Bq d f k=b:=⟨_,rfl⟩
  have L:(decide (q.rank<r.rank)||(decide (r.rank=q.rank)&&decide (k<f)))=b:=by rw[<-hb];unfold Bq;rw[C.o,D0.o]
  have HB:=Za hb;clear hb;by_cases g1:q.rank<r.rank
  ·have d1:decide (q.rank<r.rank)=true:=by simp[g1]
   have eb:b=true:=by rw[<-L];simp[g1]
   subst eb
   go_quiet (fail)
   have i:H (F0 wr (W.drewN nq)):=l.o.trans ⟨rfl,rfl,rfl,X _,fun _ _ _=>rfl⟩;have k0:H ((W.drewN nq).heap[Q]?=Z (O #[U r.name,I J r.rank,I J r.digits,I J r.lo,I J r.hi,V ma r.mcc.length mc,E r.am.isSome,I J (r.am.getD (0,0)).1,I J (r.am.getD (0,0)).2,V ca r.cur.length cc,E r.decline,E r.cheapest,V pa r.routes.length pc,I J r.ahead] 120)):=t.o;clear p2 c0 c1 c2 c3 c4 c5 c6 c7 c8 c9 u v y z t l;generalize W.drewN nq=w2 at*;obtain⟨c0,c1,c2,c3,c4,c5,c6,c7,c8,c9,u,v,y,z⟩:=ZZ k0.o;have a0:=q0.o r (mG C.o);have b0:=Za (Rw w2 r nr ma mc ca cc pa pc a0.1 a0.2 (t0.o.fr i.o) (w0.o.fr i.o (by simp)))
   go_wp2_with (go_at_call 114;refine b0.o.mono ?_)
   rintro e w5 ⟨⟨M,P,R,S,rfl,d0,D⟩,e0⟩
   have HE:H (Um d f (k+1)=Um d f k++[Ud r]):=by
    show _=_
    conv=>lhs;unfold Um;rw[C.o]
    simp[HB.o]
   generalize Ud r=A at*;have l0:=Za d0
   have m0:H (Tt wr.heap.size w5.heap.size M P R S):=fun x hx g o e=>⟨y5 i.o.size (D x hx g o e).1,(D x hx g o e).2⟩
   have F:=Za (i.o.trans e0);have f0:=Za (s.o.more F.o).ro;obtain⟨T,n⟩:∃T,es.length=T:=⟨_,rfl⟩
   have E0:T<=8:=by
    have h1:=congrArg j0 s.o.ar;have h2:=Pm d f k;rw[y9]at h1;omega
   have g0:=Za n;rw[n]at f0;rw[n];clear d0 D e0 b0 c0 c1 c2 c3 c4 c5 c6 c7 c8 c9 u v y z n
   go_wp2_with (at_builtin;refine wpList_append_lies _ rfl (.tmp 38) (.tmp 41) 217 rfl w.heap.size 215 ii _ 4 96 Tryz.underlying217 hi n0 o0 p0 rfl (by decide) (V oa T oc) T (Vh es) rfl ?h1a ⟨w5.heap.size,0,Y⟩ 1 1 [V M.a A.s0.length M.c,V P.a A.s1.length P.c,V R.a A.s2.length R.c,V S.a A.s3.length S.c] rfl rfl ?h2a ?h3a (by decide) ?h4a ?h5a ?h6a _ rfl ?h7a)
   case h1a=>exact f0.o.alloc _
   case h2a=>exact y7 (aN w5 (O #[V M.a A.s0.length M.c,V P.a A.s1.length P.c,V R.a A.s2.length R.c,V S.a A.s3.length S.c] 215))
   case h3a=>simp[q8]
   case h4a=>unfold maxLen;omega
   case h5a=>omega
   case h6a=>have:=F.o.size;have:=s.o.fr.size;simp;omega
   intro g2 h0 w8 B j i0 _
   have G:H (Qw w (V (Z ⟨g2,0,Y⟩) (T+1) h0) (Um d f (k+1)) (es++[⟨A,M,P,R,S⟩]) w8):=by
    show Qw _ _ _ _ _
    rw[HE.o,<-g0.o];rw[<-g0.o]at B j i0;exact s.o.app F.o l0.o m0.o B j (i0.imp id (fun e=>by rw[e];simp))
   go_wp2_with fail;go_roundg (N-(k+1))
   case measure=>omega
   exact⟨k+1,_,by omega,rfl,by go_num,G⟩
  have d1:decide (q.rank<r.rank)=false:=by simp[g1]
  by_cases g2:r.rank=q.rank
  ·have d2:((r.rank:Int)==(q.rank:Int))=true:=by simp[g2]
   have d3:decide (r.rank=q.rank)=true:=by simp[g2]
   by_cases g3:k<f
   ·have d4:decide (k<f)=true:=by simp[g3]
    have eb:b=true:=by rw[<-L];simp[g2,g3]
    subst eb;clear L g1 g2 g3
    go_quiet (fail)
    have i:H (F0 wr (W.drewN nq)):=l.o.trans ⟨rfl,rfl,rfl,X _,fun _ _ _=>rfl⟩;have k0:H ((W.drewN nq).heap[Q]?=Z (O #[U r.name,I J r.rank,I J r.digits,I J r.lo,I J r.hi,V ma r.mcc.length mc,E r.am.isSome,I J (r.am.getD (0,0)).1,I J (r.am.getD (0,0)).2,V ca r.cur.length cc,E r.decline,E r.cheapest,V pa r.routes.length pc,I J r.ahead] 120)):=t.o;clear p2 c0 c1 c2 c3 c4 c5 c6 c7 c8 c9 u v y z t l;generalize W.drewN nq=w2 at*;obtain⟨c0,c1,c2,c3,c4,c5,c6,c7,c8,c9,u,v,y,z⟩:=ZZ k0.o;have a0:=q0.o r (mG C.o);have b0:=Za (Rw w2 r nr ma mc ca cc pa pc a0.1 a0.2 (t0.o.fr i.o) (w0.o.fr i.o (by simp)))
    go_wp2_with (go_at_call 114;refine b0.o.mono ?_)
    rintro e w5 ⟨⟨M,P,R,S,rfl,d0,D⟩,e0⟩
    have HE:H (Um d f (k+1)=Um d f k++[Ud r]):=by
     show _=_
     conv=>lhs;unfold Um;rw[C.o]
     simp[HB.o]
    generalize Ud r=A at*;have l0:=Za d0
    have m0:H (Tt wr.heap.size w5.heap.size M P R S):=fun x hx g o e=>⟨y5 i.o.size (D x hx g o e).1,(D x hx g o e).2⟩
    have F:=Za (i.o.trans e0);have f0:=Za (s.o.more F.o).ro;obtain⟨T,n⟩:∃T,es.length=T:=⟨_,rfl⟩
    have E0:T<=8:=by
     have h1:=congrArg j0 s.o.ar;have h2:=Pm d f k;rw[y9]at h1;omega
    have g0:=Za n;rw[n]at f0;rw[n];clear d0 D e0 b0 c0 c1 c2 c3 c4 c5 c6 c7 c8 c9 u v y z n
    go_wp2_with (at_builtin;refine wpList_append_lies _ rfl (.tmp 38) (.tmp 41) 217 rfl w.heap.size 215 ii _ 4 96 Tryz.underlying217 hi n0 o0 p0 rfl (by decide) (V oa T oc) T (Vh es) rfl ?h1b ⟨w5.heap.size,0,Y⟩ 1 1 [V M.a A.s0.length M.c,V P.a A.s1.length P.c,V R.a A.s2.length R.c,V S.a A.s3.length S.c] rfl rfl ?h2b ?h3b (by decide) ?h4b ?h5b ?h6b _ rfl ?h7b)
    case h1b=>exact f0.o.alloc _
    case h2b=>exact y7 (aN w5 (O #[V M.a A.s0.length M.c,V P.a A.s1.length P.c,V R.a A.s2.length R.c,V S.a A.s3.length S.c] 215))
    case h3b=>simp[q8]
    case h4b=>unfold maxLen;omega
    case h5b=>omega
    case h6b=>have:=F.o.size;have:=s.o.fr.size;simp;omega
    intro g2 h0 w8 B j i0 _
    have G:H (Qw w (V (Z ⟨g2,0,Y⟩) (T+1) h0) (Um d f (k+1)) (es++[⟨A,M,P,R,S⟩]) w8):=by
     show Qw _ _ _ _ _
     rw[HE.o,<-g0.o];rw[<-g0.o]at B j i0;exact s.o.app F.o l0.o m0.o B j (i0.imp id (fun e=>by rw[e];simp))
    go_wp2_with fail;go_roundg (N-(k+1))
    case measure=>omega
    exact⟨k+1,_,by omega,rfl,by go_num,G⟩
   have d4:decide (k<f)=false:=by simp[g3]
   have eb:b=false:=by rw[<-L];simp[g2,g3]
   subst eb
   go_quiet (fail)
   have i:H (F0 wr (W.drewN nq)):=l.o.trans ⟨rfl,rfl,rfl,X _,fun _ _ _=>rfl⟩
   have G:H (Qw w (V oa es.length oc) (Um d f (k+1)) es (W.drewN nq)):=by
    show Qw _ _ _ _ _
    have e:Um d f (k+1)=Um d f k:=by
     conv=>lhs;unfold Um;rw[C.o]
     simp[HB.o]
    rw[e];exact s.o.more i.o
   clear p2 c0 c1 c2 c3 c4 c5 c6 c7 c8 c9 u v y z t l;generalize W.drewN nq=w2 at*;go_wp2_with fail;go_roundg (N-(k+1))
   case measure=>omega
   exact⟨k+1,_,by omega,rfl,by go_num,G⟩
  have d2:((r.rank:Int)==(q.rank:Int))=false:=by simp;omega
  have d3:decide (r.rank=q.rank)=false:=by simp[g2]
  have eb:b=false:=by rw[<-L];simp[g1,g2]
  subst eb;clear L g1 g2
  go_quiet (fail)
  have i:H (F0 wr (W.drewN nq)):=l.o.trans ⟨rfl,rfl,rfl,X _,fun _ _ _=>rfl⟩
  have G:H (Qw w (V oa es.length oc) (Um d f (k+1)) es (W.drewN nq)):=by
   show Qw _ _ _ _ _
   have e:Um d f (k+1)=Um d f k:=by
    conv=>lhs;unfold Um;rw[C.o]
    simp[HB.o]
   rw[e];exact s.o.more i.o
  clear p2 c0 c1 c2 c3 c4 c5 c6 c7 c8 c9 u v y z t l;generalize W.drewN nq=w2 at*;go_wp2_with fail;go_roundg (N-(k+1))
  case measure=>omega
  exact⟨k+1,_,by omega,rfl,by go_num,G⟩
 have B0:¬(k:Int)<(N:Int):=by omega
 have ek:k=N:=by omega
 have G0:=Za ek;obtain⟨oa,oc,ho⟩:=oL s.o.ro;subst ho;go_wp2_with fail;go_ret;obtain⟨a',c',e1,h1,_⟩:=DA s.o.ro (fun e he=>(s.o.ok e he).1);rw[e1];refine⟨⟨a',c',es,rfl,?_,h1⟩,s.o.fr⟩;rw[s.o.ar,G0.o]
def zK (A:SJ)(a:List SJ):Bool:=El A (a.map fun B=>⟨B,⟨Y,0⟩,⟨Y,0⟩,⟨Y,0⟩,⟨Y,0⟩⟩)
theorem Gc {A}(b:∀side s,s∈A.at side->s.1<=s.2)(a):zK A a=true↔∃p,V8 A 4 p=true/\∀B,B∈a->V8 B 4 p=false:=by
 unfold zK;rw[Ga b];simp
theorem xD {A}(a:∀side s,s∈A.at side->s.1<=s.2)(es):El A es=zK A (es.map Td.A):=by
 rw[k9,Ga a,Gc a];simp
def RE (a:List Ze)(j:Nat):Bool:=match a[j]? with
 |some r=>zK (Ud r) (Um a j a.length)
 |none=>false
def WR (a:List Ze):Nat->List ByteArray
 |0=>[]
 |k+1=>WR a k++(match a[k]? with|some r=>if RE a k then[]else[r.name]|none=>[])
theorem MS (a:List Ze):∀k,(WR a k).length<=k
 |0=>X _
 |k+1=>by
  have:=MS a k;unfold WR;rw[lA]
  split
  ·split<;>simp<;>omega
  simp;omega
def SB (l:List ByteArray):List q2:=l.map q4
theorem Br (w B va c N a nr)(hB:w.cell? ⟨B,1,Y⟩=Z (V va N c))(h:vM w va a)(hN:a.length=N)(h8:N<=8)(r0:∀r,r∈a->Tf nr r/\Tg r):
  q9 z7 140 #[F (Z ⟨B,0,Y⟩)] w fun e w'=>(∃v,e=y4 v/\w'.ownsRow w.heap.size 9 1 v (WR a N).length (SB (WR a N))/\(WR a N=[]->v=V Y 0 0))/\F0 w w':=by
 obtain⟨ij,I0,J0,K0,L0⟩:=info_parts RR;have HR:=Za h;have HN:=Za hN;have e0:=Za r0;have t0:=Za hB;clear h hN r0;go_enter Tryz.func140,Tryz.ntmps140;go_wp2_with fail;clear hB
 go_loopg [3,11] N (fun m ov iv wr=>∃k,k<=N/\m=N-k/\iv=I J (k:Nat)/\H (wr.ownsRow w.heap.size 9 1 ov (WR a k).length (SB (WR a k)))/\H (WR a k=[]->ov=V Y 0 0)/\H (F0 w wr))
 case atStart=>exact⟨0,by omega,rfl,rfl,oZ _ _ _ _,fun _=>rfl,Zt⟩
 obtain⟨k,hk,rfl,rfl,HO,HZ,C⟩:=hrel;obtain⟨oa,oc,ho⟩:=oL HO.o;subst ho;by_cases M0:k<N
 ·have N0:(k:Int)<(N:Int):=by omega
  obtain⟨r,hr⟩:∃r,a[k]?=Z r:=⟨_,gE (show k<a.length by have:=HN.o;omega)⟩;obtain⟨g,ma,mc,ca,cc,pa,pc,ea,f,h1,h2⟩:=(HR.o.fr C.o) k r hr;subst ea;have v0:=f 0 _ rfl;have v1:=f 1 _ rfl;have v2:=f 2 _ rfl;have v3:=f 3 _ rfl;have v4:=f 4 _ rfl;have v5:=f 5 _ rfl;have v6:=f 6 _ rfl;have v7:=f 7 _ rfl;have v8:=f 8 _ rfl;have v9:=f 9 _ rfl;have O0:=f 10 _ rfl;have P0:=f 11 _ rfl;have Q0:=f 12 _ rfl;have R0:=f 13 _ rfl;rw[j3]at v0;have S0:=Za h1;have T0:=Za h2;have b1:=Za hr;have d:=Za (e0.o r (mG hr))
  have f0:H (WR a (k+1)=WR a k++(if RE a k then[]else[r.name])):=by show _=_;conv=>lhs;unfold WR;rw[hr]
  have V0:H (RE a k=zK (Ud r) (Um a k N)):=by show _=_;unfold RE;rw[hr,HN.o]
  clear f h1 h2 hr;obtain⟨y,w0⟩:=VA wr (O #[U r.name,I J r.rank,I J r.digits,I J r.lo,I J r.hi,V ma r.mcc.length mc,E r.am.isSome,I J (r.am.getD (0,0)).1,I J (r.am.getD (0,0)).2,V ca r.cur.length cc,E r.decline,E r.cheapest,V pa r.routes.length pc,I J r.ahead] 120);go_upto_region 5 with fail;generalize wr.alloc _=w1 at*;obtain⟨Q,hQ⟩:∃Q,wr.heap.size=Q:=⟨_,rfl⟩;rw[hQ]at w0;rw[hQ];have HQ:=Za hQ;clear v0 v1 v2 v3 v4 v5 v6 v7 v8 v9 O0 P0 Q0 R0 hQ
  have g0:H (∀W,F0 w1 W->W.heap[Q]?=Z (O #[U r.name,I J r.rank,I J r.digits,I J r.lo,I J r.hi,V ma r.mcc.length mc,E r.am.isSome,I J (r.am.getD (0,0)).1,I J (r.am.getD (0,0)).2,V ca r.cur.length cc,E r.decline,E r.cheapest,V pa r.routes.length pc,I J r.ahead] 120)/\W.cell? ⟨B,1,Y⟩=Z (V (Z ⟨g,0,Y⟩) N c)):=fun W hf=>
   ⟨hf.whole w0.o,(((C.o.trans y.o).trans hf).cell (p:=⟨B,1,Y⟩) (bL w _ t0.o)).trans t0.o⟩
  refine wp_region_held_drew (S:=fun W=>W.heap[Q]?=Z (O #[U r.name,I J r.rank,I J r.digits,I J r.lo,I J r.hi,V ma r.mcc.length mc,E r.am.isSome,I J (r.am.getD (0,0)).1,I J (r.am.getD (0,0)).2,V ca r.cur.length cc,E r.decline,E r.cheapest,V pa r.routes.length pc,I J r.ahead] 120)/\W.cell? ⟨B,1,Y⟩=Z (V (Z ⟨g,0,Y⟩) N c)) (by kernel_rfl) (g0.o _ Zt.drew) (fun z=>?_);refine US 0 (v:=?v0z) ?y0z z ?r0z
  case y0z=>
   rintro w ⟨b,s1⟩;obtain⟨K,c1,L,c3,c4,c5,c6,c7,c8,c9,l,t,u,x⟩:=ZZ b;clear b;go_simp
   with_reducible rfl
  try go_frame
  refine US 1 (v:=?v1z) ?y1z z ?r1z
  case y1z=>
   rintro w ⟨b,s1⟩;obtain⟨K,c1,L,c3,c4,c5,c6,c7,c8,c9,l,t,u,x⟩:=ZZ b;clear b;go_simp
   with_reducible rfl
  try go_frame
  refine US 2 (v:=?v2z) ?y2z z ?r2z
  case y2z=>
   rintro w ⟨b,s1⟩;obtain⟨K,c1,L,c3,c4,c5,c6,c7,c8,c9,l,t,u,x⟩:=ZZ b;clear b;go_simp
   with_reducible rfl
  try go_frame
  refine US 3 (v:=?v3z) ?y3z z ?r3z
  case y3z=>
   rintro w ⟨b,s1⟩;obtain⟨K,c1,L,c3,c4,c5,c6,c7,c8,c9,l,t,u,x⟩:=ZZ b;clear b;go_simp
   with_reducible rfl
  try go_frame
  refine US 4 (v:=?v4z) ?y4z z ?r4z
  case y4z=>
   rintro w ⟨b,s1⟩;obtain⟨K,c1,L,c3,c4,c5,c6,c7,c8,c9,l,t,u,x⟩:=ZZ b;clear b;go_simp
   with_reducible rfl
  try go_frame
  refine US 5 (v:=?v5z) ?y5z z ?r5z
  case y5z=>
   rintro w ⟨b,s1⟩;obtain⟨K,c1,L,c3,c4,c5,c6,c7,c8,c9,l,t,u,x⟩:=ZZ b;clear b;go_simp
   with_reducible rfl
  try go_frame
  refine XC [6] ?_;refine Zb rfl (fun K2 hK=>?_) z6
  try rw[if_pos (by rfl)]
  go_simp;refine(En w1.drew (Z ⟨g,0,Y⟩) c N k a nr (HR.o.fr ((C.o.trans y.o).trans Zt.drew)) HN.o h8 M0 e0.o).mono ?_;rintro e w2 ⟨⟨a2,L,es,rfl,h0,x0⟩,y0⟩;have M:H (F0 w1 w2):=(Zt.drew).trans y0;have i0:=Za h0;have z0:=Za x0
  have a0:es.length<=10:=by
   have h1:=congrArg j0 h0;have h2:=Pm a k N;rw[y9]at h1;omega
  have HL:=Za a0;obtain⟨n2,k0⟩:∃n,es.length=n:=⟨_,rfl⟩;have A0:=Za k0;rw[k0];clear y0 h0 x0 a0 k0;refine hK.out _ _ (g0.o _ M.o) (fun z=>?_);clear hK K2
  try go_frame
  refine XC [7] ?_;refine Zb rfl (fun K2 hK=>?_) z6
  try rw[if_pos (by rfl)]
  go_simp
  have B0:∀e,e∈es->∀i s,i<4->s∈e.A.at i->s.1<=10000000000/\s.2<=10000000000:=fun e he i s _ hs=>by
   have h1:e.A∈Um a k N:=by rw[<-i0.o];exact j9 he
   obtain⟨j,q,_,hq,_,eq⟩:=(Pn a k e.A N).1 h1;rw[eq]at hs;have h2:=e0.o q (mG hq);exact(Qv h2.1 h2.2 i s hs).2
  have P:=Za (Gb w2 r.name r.rank r.digits r.lo r.hi ma mc r.mcc r.am.isSome (r.am.getD (0,0)).1 (r.am.getD (0,0)).2 ca cc r.cur r.decline r.cheapest pa r.routes.length pc r.ahead a2 L es d.o.1.bn.1 d.o.1.bn.2.2 (nL d.o.1.bn.2.1 (xy d.o.1.bn.1)) (S0.o.fr (y.o.trans M.o)) (y5 d.o.2.m4 (by decide)) (T0.o.fr (y.o.trans M.o)) (y5 d.o.2.c4 (by decide)) z0.o HL.o B0);unfold GY at P;rw[A0.o]at P;refine P.o.mono ?_;rintro e w3 ⟨rfl,C0⟩
  have eb:El (RY r.digits r.lo r.hi r.mcc r.am.isSome (r.am.getD (0,0)).1 (r.am.getD (0,0)).2 r.cur) es=RE a k:=by
   rw[V0.o,<-i0.o];exact xD (A:=Ud r) (fun i s hs=>(Qv d.o.1 d.o.2 i s hs).1) es
  rw[eb];have l0:=Za (M.o.trans C0);clear C0 eb P B0 A0 HL i0 z0;refine hK.out _ _ (g0.o _ l0.o) (fun z=>?_);clear hK K2
  try go_frame
  have D0:=Za ((C.o.trans y.o).trans l0.o);have m0:=Za (oF HO.o (y.o.trans l0.o));obtain⟨R,T⟩:∃R,(WR a k).length=R:=⟨_,rfl⟩
  have d1:R<=8:=by have:=MS a k;omega
  have n0:=Za T;rw[T]at m0;rw[T];clear T
  cases D:RE a k with
  |true=>
   refine US 8 (v:=?v8t) ?y8t z ?r8t
   case y8t=>
    rintro w ⟨b,s1⟩;obtain⟨K,c1,L,c3,c4,c5,c6,c7,c8,c9,l,t,u,x⟩:=ZZ b;clear b;go_simp
    with_reducible rfl
   try go_frame
   refine wpAnyH_done (by kernel_rfl) ?_ _
   have X:H (w3.ownsRow w.heap.size 9 1 (V oa R oc) (WR a (k+1)).length (SB (WR a (k+1)))):=by show y6 _ _ _ _ _ _ _;rw[f0.o,D,if_pos rfl,q0,n0.o];exact m0.o
   have W0:H (WR a (k+1)=[]->z9 oa R oc=V Y 0 0):=by
    show _->_
    rw[f0.o,D,if_pos rfl,q0];have:=HZ.o;rw[n0.o]at this;exact this
   clear D z;go_wp2_with fail;go_roundg (N-(k+1))
   case measure=>omega
   exact⟨k+1,by omega,rfl,by go_num,X,W0,D0⟩
  |false=>
   refine US 8 (v:=?v8f) ?y8f z ?r8f
   case y8f=>
    rintro w ⟨b,s1⟩;obtain⟨K,c1,L,c3,c4,c5,c6,c7,c8,c9,l,t,u,x⟩:=ZZ b;clear b;go_simp
    with_reducible rfl
   try go_frame
   refine wpAnyH_done (by kernel_rfl) ?_ _
   have E0:H (WR a (k+1)=WR a k++[r.name]):=by show _=_;rw[f0.o,D];rfl
   obtain⟨h3,_⟩:=z;have K:=(ZZ h3).1;have G0:=Za (VD r.name w3 d.o.1.nm);clear D h3
   go_wp2_with (go_at_call 96;refine G0.o.mono ?_)
   rintro e w4 ⟨rfl,o0⟩;have H0:=Za (D0.o.trans o0);have X:=Za (oF m0.o o0);clear o0 K G0
   go_wp2_with (at_builtin;refine wpList_append_lies _ rfl (.tmp 25) (.tmp 29) 28 rfl w.heap.size 9 ij _ 1 16 Tryz.underlying28 I0 J0 K0 L0 rfl (by decide) (V oa R oc) R (SB (WR a k)) rfl ?h1 ⟨w4.heap.size,0,Y⟩ 1 1 [U r.name] rfl rfl ?h2 ?h3 (by decide) ?h4 ?h5 ?h6 _ rfl ?h7)
   case h1=>exact X.o.alloc _
   case h2=>exact y7 (aN w4 (O #[U r.name] 9))
   case h3=>simp[q8]
   case h4=>unfold maxLen;omega
   case h5=>omega
   case h6=>have:=H0.o.size;simp;omega
   intro g2 b0 w8 d0 G X0 _;have Y0:=Za ((H0.o.alloc _).grown G (fun k hk=>q1 (X.o.lt k hk).1))
   have Z0:H (w8.ownsRow w.heap.size 9 1 (V (Z ⟨g2,0,Y⟩) (R+1) b0) (WR a (k+1)).length (SB (WR a (k+1)))):=by
    show y6 _ _ _ _ _ _ _
    rw[E0.o,List.length_append,n0.o,show SB (WR a k++[r.name])=SB (WR a k)++[U r.name]from by simp[SB]];exact d0
   have a1:H (WR a (k+1)=[]->z9 (Z ⟨g2,0,Y⟩) (R+1) b0=V Y 0 0):=fun h=>by rw[E0.o]at h;simp at h
   clear d0 G X0;go_wp2_with fail;go_roundg (N-(k+1))
   case measure=>omega
   exact⟨k+1,by omega,rfl,by go_num,Z0,a1,Y0⟩
 have N0:¬(k:Int)<(N:Int):=by omega
 have ek:k=N:=by omega
 have p0:=Za ek;clear ek;go_wp2_with fail;go_ret;have e1:=HO.o;have e2:=HZ.o;rw[p0.o]at e1 e2;exact⟨⟨_,rfl,by rw[p0.o];exact e1,fun h=>by have:=e2 h;rw[p0.o];exact this⟩,C.o⟩
open Go.Shelf
theorem Gd {side A es es'}(h:es.map Td.A=es'.map Td.A):Xy side A es=Xy side A es':=by
 have e:∀Yr es,st1 side Yr es=Yr.1::(es.map Td.A).flatMap fun B=>YC Yr (B.at side):=fun Yr es=>by
  unfold st1;rw[List.flatMap_map]
 have a:Y0 side (A.at side) es=Y0 side (A.at side) es':=by
  unfold Y0
  congr 1
  funext s
  rw[e,e,h]
 unfold Xy;rw[a]
theorem KI {A:SJ}:∀(k:Nat){es es':List Td},es.map Td.A=es'.map Td.A->X1 A k es=X1 A k es'
 |0,es,es',h=>by
  have:=congrArg j0 h;rw[y9,y9]at this;simp only[X1,this]
 |k+1,es,es',h=>by
  have e:∀n,X1 A k (Vl (3-k) n es)=X1 A k (Vl (3-k) n es'):=fun n=>by
   refine KI k ?_
   have f:∀l:List Td,(Vl (3-k) n l).map Td.A=(l.map Td.A).filter fun B=>Xx B (3-k) n:=fun l=>by
    unfold Vl;rw[List.filter_map];rfl
   rw[f,f,h]
  simp only[X1];rw[Gd h]
  congr 1
  funext n
  rw[e n]
def Ra (A B:SJ):Option (RD×Nat):=(X1 A 4 [⟨B,⟨Y,0⟩,⟨Y,0⟩,⟨Y,0⟩,⟨Y,0⟩⟩]).find? fun y=>decide (0<y.2)
theorem KJ {A B}(b:∀side s,s∈A.at side->s.1<=s.2){y}(h:Ra A B=Z y):V8 A 4 y.1=true/\V8 B 4 y.1=true:=by
 unfold Ra at h;have c:=List.find?_some h;obtain⟨d,a⟩:=U8 b 4 (by omega) _ y (List.mem_of_find?_eq_some h);refine⟨d,?_⟩
 cases e:V8 B 4 y.1 with
 |true=>rfl
 |false=>
  simp[e]at a;simp[a]at c
theorem Bt {A B}(c:∀side s,s∈A.at side->s.1<=s.2)(h:Ra A B=Y)(p):¬(V8 A 4 p=true/\V8 B 4 p=true):=by
 rintro⟨d,e⟩;unfold Ra at h;rw[j1]at h;obtain⟨y,b,f⟩:=Qt 4 (by omega) [⟨B,⟨Y,0⟩,⟨Y,0⟩,⟨Y,0⟩,⟨Y,0⟩⟩] p d;obtain⟨_,a⟩:=U8 c 4 (by omega) _ y b;have g:=f ⟨B,⟨Y,0⟩,⟨Y,0⟩,⟨Y,0⟩,⟨Y,0⟩⟩ (by simp);have i:=h y b;simp only[List.filter_cons,List.filter_nil]at a;rw[g,e]at a;simp at a i;omega
structure ux (w0:y8)(A A2:SJ)(B:Nat)(x0 x1 x2 x3:G0)(a:Option Addr)(c:Nat)(es:List Td)(wx:y8):Prop where
 em:es.map Td.A=[A2]
 sz:wx.heap.size=B+3
 lo:w0.heap.size<=B
 b0:wx.heap[B]?=Z (O #[I J ((0:Nat):Int)] 3)
 b1:wx.heap[B+1]?=Z (O #[Xp x0 A.s0,Xp x1 A.s1,Xp x2 A.s2,Xp x3 A.s3] 215)
 b2:wx.heap[B+1+1]?=Z (O #[V a 1 c] 217)
 ar:PW wx A x0 x1 x2 x3
 nw:Tt w0.heap.size wx.heap.size x0 x1 x2 x3
 ars:V5 wx a es
 an:∀g o,a=Z ⟨g,o,Y⟩->w0.heap.size<=g/\g<wx.heap.size
 en:∀e,e∈es->Tt w0.heap.size wx.heap.size e.x0 e.x1 e.x2 e.x3
 fr:F0 w0 wx
theorem Tt.more {m n a b c d f i}(h:Tt m n c d f i)(k:a<=m)(l:n<=b):Tt a b c d f i:=fun x j g o e=>⟨y5 k (h x j g o e).1,nL (h x j g o e).2 l⟩
theorem zL {w A b d f g}(h:PW w A b d f g):V5 (w.alloc (O #[V b.a A.s0.length b.c,V d.a A.s1.length d.c,V f.a A.s2.length f.c,V g.a A.s3.length g.c] 215)) (Z ⟨w.heap.size,0,Y⟩) [⟨A,b,d,f,g⟩]:=by
 intro k e i;have l:=aN w (O #[V b.a A.s0.length b.c,V d.a A.s1.length d.c,V f.a A.s2.length f.c,V g.a A.s3.length g.c] 215)
 cases k with
 |succ k=>simp at i
 |zero=>
  simp at i;subst i;refine⟨PW.fr h (Zt.alloc _),w.heap.size,0,rfl,fun j v m=>?_⟩;rw[show 0+0*4+j=j from by omega];exact bC l j v (by simpa[Pg,Xp]using m)
attribute [local go_sem] Oper.semAt_some
structure Ge (w0:y8)(A A2:SJ)(x0 x1 x2 x3:G0)(a:Option Addr)(es:List Td)(W:y8):Prop where
 em:es.map Td.A=[A2]
 ar:PW W A x0 x1 x2 x3
 nw:Tt w0.heap.size W.heap.size x0 x1 x2 x3
 ars:V5 W a es
 an:∀g o,a=Z ⟨g,o,Y⟩->w0.heap.size<=g/\g<W.heap.size
 en:∀e,e∈es->Tt w0.heap.size W.heap.size e.x0 e.x1 e.x2 e.x3
 fr:F0 w0 W
theorem Ge.pays {w0 W A k d f i j a es}(h:Ge w0 A k d f i j a es W):
  q9 z7 113 #[j2 #[V d.a A.s0.length d.c,V f.a A.s1.length f.c,V i.a A.s2.length i.c,V j.a A.s3.length j.c],V a 1 1] W fun e w'=>∃B,e=y4 (.func (.func 212) #[] #[F (Z ⟨B,0,Y⟩),F (Z ⟨B+1+1,0,Y⟩),F (Z ⟨B+1,0,Y⟩)])/\ux w0 A k B d f i j a 1 es w':=by
 refine(Pk A d f i j a 1 1 W).mono ?_;rintro e w' ⟨B,rfl,l,m,n,p,q,b⟩;exact⟨B,rfl,h.em,m,y5 h.fr.size l,n,p,q,h.ar.fr b,h.nw.more (X _) b.size,h.ars.fr b,fun g o e=>⟨(h.an g o e).1,nL (h.an g o e).2 b.size⟩,fun e r=>(h.en e r).more (X _) b.size,h.fr.trans b⟩
theorem Ge.mk1 {w0 d A b l m n p h i j k}(r:PW d A l m n p)(s:Tt w0.heap.size d.heap.size l m n p)(t:PW d b h i j k)(n2:Tt w0.heap.size d.heap.size h i j k)(q:F0 w0 d):
  Ge w0 A b l m n p (Z ⟨d.heap.size,0,Y⟩) [⟨b,h,i,j,k⟩] (d.alloc (O #[V h.a b.s0.length h.c,V i.a b.s1.length i.c,V j.a b.s2.length j.c,V k.a b.s3.length k.c] 215)):=by
 have f:=(Lt d (O #[V h.a b.s0.length h.c,V i.a b.s1.length i.c,V j.a b.s2.length j.c,V k.a b.s3.length k.c] 215)).1;refine⟨rfl,r.fr f,s.more (X _) f.size,zL t,fun g o e=>?_,fun e u=>?_,q.trans f⟩
 ·cases e
  exact⟨q.size,by simp⟩
 rw[z8.1 u]
 exact n2.more (X _) f.size
theorem uy {W P b c t u v0 v1 v2 v3}(i:W.heap[P+1+1]?=Z (O #[v0,v1,v2,v3] t))(j:W.heap[P+1+1+1]?=Z (O #[E c] u))(a d e f):
    ((((((W.setCell ⟨P+1+1,0,Y⟩ (I J (a:Nat))).setCell ⟨P+1+1,1,Y⟩ (I J (d:Nat))).setCell ⟨P+1+1,2,Y⟩ (I J (e:Nat))).setCell ⟨P+1+1,3,Y⟩ (I J (f:Nat))).setCell ⟨P+1+1+1,0,Y⟩ (E b)).heap[P+1+1]?=Z (O #[I J (a:Nat),I J (d:Nat),I J (e:Nat),I J (f:Nat)] t))/\
    ((((((W.setCell ⟨P+1+1,0,Y⟩ (I J (a:Nat))).setCell ⟨P+1+1,1,Y⟩ (I J (d:Nat))).setCell ⟨P+1+1,2,Y⟩ (I J (e:Nat))).setCell ⟨P+1+1,3,Y⟩ (I J (f:Nat))).setCell ⟨P+1+1+1,0,Y⟩ (E b)).heap[P+1+1+1]?=Z (O #[E b] u))/\
    Fr (fun k=>k=P+1+1\/k=P+1+1+1) W (((((W.setCell ⟨P+1+1,0,Y⟩ (I J (a:Nat))).setCell ⟨P+1+1,1,Y⟩ (I J (d:Nat))).setCell ⟨P+1+1,2,Y⟩ (I J (e:Nat))).setCell ⟨P+1+1,3,Y⟩ (I J (f:Nat))).setCell ⟨P+1+1+1,0,Y⟩ (E b)):=by
  have t1:=heap_setCell_same W (P+1+1) 0 _ _ (I J (a:Nat)) i;have l:=heap_setCell_same _ (P+1+1) 1 _ _ (I J (d:Nat)) t1;have m:=heap_setCell_same _ (P+1+1) 2 _ _ (I J (e:Nat)) l;have n:=heap_setCell_same _ (P+1+1) 3 _ _ (I J (f:Nat)) m
  have g:Fr (fun k=>k=P+1+1) W ((((W.setCell ⟨P+1+1,0,Y⟩ (I J (a:Nat))).setCell ⟨P+1+1,1,Y⟩ (I J (d:Nat))).setCell ⟨P+1+1,2,Y⟩ (I J (e:Nat))).setCell ⟨P+1+1,3,Y⟩ (I J (f:Nat))):=
    ((((Fr.refl (fun k=>k=P+1+1) W).setCell (p:=⟨P+1+1,0,Y⟩) (.inl rfl) _).setCell (p:=⟨P+1+1,1,Y⟩) (.inl rfl) _).setCell (p:=⟨P+1+1,2,Y⟩) (.inl rfl) _).setCell (p:=⟨P+1+1,3,Y⟩) (.inl rfl) _
  have g3:=g.whole j (by show¬P+1+1+1=P+1+1;omega);refine⟨?_,heap_setCell_same _ (P+1+1+1) 0 _ _ (E b) g3,(g.mono (fun k h=>.inl h)).setCell (p:=⟨P+1+1+1,0,Y⟩) (.inl (.inr rfl)) _⟩;exact((Fr.refl (fun k=>k=P+1+1+1) _).setCell (p:=⟨P+1+1+1,0,Y⟩) (.inl rfl) _).whole n (by show¬P+1+1=P+1+1+1;omega)
theorem DC {n w w2 W S P}{y:RD×Nat}{b v d f g i a}(x:P+1+1+1<w2.heap.size)(c:F0 w w2)(j:∀k,S k->w.heap.size<=k)(l:Fr S w2 W)(m:W.heap[w2.heap.size]?=Z (.deferred (Z [])))(o:W.heap[P+1+1]?=Z (O #[I J (y.1.p0:Nat),I J (y.1.p1:Nat),I J (y.1.p2:Nat),I J (y.1.p3:Nat)] 139))(p:W.heap[P+1+1+1]?=Z (O #[E b] 4))(q:v=.tuple #[KH y.1,E b]):
  LeavesInM Fence.wide n z7 Tryz.f67 (d::f::g::i::F (Z ⟨P+1+1,0,Y⟩)::F (Z ⟨P+1+1+1,0,Y⟩)::a).toArray (fun e w'=>e=y4 v/\F0 w w') [{target:=.collected w2.heap.size,args:=#[]}] .returning W:=by
 refine Vb [w2.heap.size] W (by simp) (fun D h=>by rw[z8.1 h];exact m) ?_;have g2:(W.putObj w2.heap.size (.deferred Y)).heap[P+1+1]?=_:=(j5 (by omega)).trans o;have g3:(W.putObj w2.heap.size (.deferred Y)).heap[P+1+1+1]?=_:=(j5 (by omega)).trans p;have r:=Zc g2 0;have c1:=Zc g2 1;have s:=Zc g2 2;have t:=Zc g2 3;have u:=Zc g3 0;refine⟨.tuple #[KH y.1,E b],?_,by rw[q],?_⟩
 ·show(results _ _).run _ (W.putObj w2.heap.size (.deferred Y))=_
  simp[results,Tryz.results67,go_sem,r,c1,s,t,u,KH];rfl
 exact c.monoNew (l.mono (T:=fun k=>S k\/k=w2.heap.size) (fun _ h=>.inl h)|>.trans (Qu (.inr rfl) _)) (fun k h=>.inr (h.elim (j k) (fun e=>by have:=c.size;omega)))
def vO (o:Option (RD×Nat)):q2:=match o with
 |some y=>.tuple #[KH y.1,E true]
 |none=>.tuple #[KH ⟨0,0,0,0⟩,E false]
theorem sn (w a b c d):∃W P,(((w.alloc a).alloc b).alloc c).alloc d=W/\w.heap.size=P/\H (F0 w W)/\H (W.heap.size=P+4)/\H (W.heap[P]?=Z a)/\H (W.heap[P+1]?=Z b)/\H (W.heap[P+1+1]?=Z c)/\H (W.heap[P+1+1+1]?=Z d):=by
 obtain⟨f,g,h,i⟩:=Ac w a b c;obtain⟨e,j⟩:=Lt (((w.alloc a).alloc b).alloc c) d;refine⟨_,_,rfl,rfl,f.trans e,?_,e.whole g,e.whole h,e.whole i,?_⟩
 ·show _=_;simp
 show _=_;simpa using j
set_option maxRecDepth 100000 in
theorem Eo (w r q nr ma mc ca cc pa pc a0 i0 e0 l0 m0 n0)(h1:Tf nr r/\Tg r)(h2:Tf nr q/\Tg q)(i1:Zu w ma r.mcc)(i2:Zu w ca r.cur)(i3:Zu w a0 q.mcc)(i4:Zu w e0 q.cur):
    q9 z7 67 #[j2 (yE r ma mc ca cc pa pc),j2 (yE q a0 i0 e0 l0 m0 n0)] w fun e w'=>e=y4 (vO (Ra (Ud r) (Ud q)))/\F0 w w':=by
  obtain⟨w0,P,Y0,hP,D,A0,B0,C0,D0,E0⟩:=sn w (O (yE r ma mc ca cc pa pc) 120) (O (yE q a0 i0 e0 l0 m0 n0) 120) (O #[I J 0,I J 0,I J 0,I J 0] 139) (O #[E false] 4);have H0:=Za (fun W (d:F0 w0 W)=>Rw W r nr ma mc ca cc pa pc h1.1 h1.2 (i1.fr (D.o.trans d)) (i2.fr (D.o.trans d)));have I0:=Za (fun W (d:F0 w0 W)=>Rw W q nr a0 i0 e0 l0 m0 n0 h2.1 h2.2 (i3.fr (D.o.trans d)) (i4.fr (D.o.trans d)));have G:=Za (fun W (d:F0 w0 W)=>And.intro (d.whole B0.o) (d.whole C0.o));have J0:H (∀i,(Ud r).at i≠[]):=DB _ _ _ _ _ _ _ _
  have K0:H (∀i s,s∈(Ud q).at i->s.1<=10000000000/\s.2<=10000000000):=fun i s hs=>(Qv h2.1 h2.2 i s hs).2
  have L0:=Za hP;clear h1 h2 i1 i2 i3 i4;generalize Ud r=A at*;generalize Ud q=A2 at*;refine(callsIn_wide (n:=5)).1 ?_;refine callsIn_of_wp_marks Tryz.func67 rfl trivial ?_ rfl;simp only[Tryz.ntmps67,List.size_toArray,List.length_cons,List.length_nil,Nat.reduceAdd,Nat.reduceSub,Array.replicate_succ,Array.replicate_zero,List.push_toArray,List.append_toArray,List.nil_append,List.cons_append];refine(wpIn_wide (n:=5)).2 (zH ?_);go_upto_region 1 with fail;clear Y0 hP
  go_cut [13]from 8 to 13 (fun v wx=>∃(B:Nat)(x0 x1 x2 x3:G0)(a:Option Addr)(es:List Td),v=.func (.func 212) #[] #[F (Z ⟨B,0,Y⟩),F (Z ⟨B+1+1,0,Y⟩),F (Z ⟨B+1,0,Y⟩)]/\H (ux w0 A A2 B x0 x1 x2 x3 a 1 es wx))
  case first=>
    have u:H (F0 w0 w0.drew):=Zt.drew;refine wp_region_held_drew (S:=fun W=>W.heap[P]?=Z (O #[U r.name,I J r.rank,I J r.digits,I J r.lo,I J r.hi,V ma r.mcc.length mc,E r.am.isSome,I J (r.am.getD (0,0)).1,I J (r.am.getD (0,0)).2,V ca r.cur.length cc,E r.decline,E r.cheapest,V pa r.routes.length pc,I J r.ahead] 120)/\W.heap[P+1]?=Z (O #[U q.name,I J q.rank,I J q.digits,I J q.lo,I J q.hi,V a0 q.mcc.length i0,E q.am.isSome,I J (q.am.getD (0,0)).1,I J (q.am.getD (0,0)).2,V e0 q.cur.length l0,E q.decline,E q.cheapest,V m0 q.routes.length n0,I J q.ahead] 120)) (by kernel_rfl) (G.o _ u.o) (fun hH=>?_);refine US 0 (v:=?v0z) ?y0z hH ?r0z
    case y0z=>
      rintro w ⟨s0,s1⟩;obtain⟨c0,c1,c2,c3,c4,c5,c6,c7,c8,c9,Z0,a1,f1,k1⟩:=ZZ s0;obtain⟨d0,d1,d2,d3,d4,d5,d6,d7,d8,d9,l1,m1,n1,o1⟩:=ZZ s1;clear s0 s1;go_simp
      with_reducible rfl
    try go_frame
    refine US 2 (v:=?v2z) ?y2z hH ?r2z
    case y2z=>
      rintro w ⟨s0,s1⟩;obtain⟨c0,c1,c2,c3,c4,c5,c6,c7,c8,c9,Z0,a1,f1,k1⟩:=ZZ s0;obtain⟨d0,d1,d2,d3,d4,d5,d6,d7,d8,d9,l1,m1,n1,o1⟩:=ZZ s1;clear s0 s1;go_simp
      with_reducible rfl
    try go_frame
    refine XC [1] ?_;refine Zb rfl (fun K2 L=>?_) z6
    try rw[if_pos (by rfl)]
    go_simp;refine(H0.o _ u.o).mono ?_;rintro e wa ⟨⟨x0,x1,x2,x3,rfl,f0,g0⟩,d⟩;have q1:=Za f0;have r1:=Za g0;have o0:=Za (u.o.trans d);clear f0 g0 d;refine L.out _ _ (G.o _ o0.o) (fun hH=>?_);clear L K2
    try go_frame
    refine XC [3] ?_;refine Zb rfl (fun K2 L=>?_) z6
    try rw[if_pos (by rfl)]
    go_simp;refine(I0.o _ o0.o).mono ?_;rintro e wb ⟨⟨y0,y1,y2,y3,rfl,f0,g0⟩,d⟩;have M0:=Za (o0.o.trans d);have HP:=Za (Ge.mk1 (w0:=w0) (q1.o.fr d) (r1.o.more u.o.size d.size) f0 (g0.more o0.o.size (X _)) M0.o);clear f0 g0 d;refine L.out _ _ (G.o _ M0.o) (fun hH=>?_);clear L K2
    try go_frame
    refine XC [4] ?_;refine Zb rfl (fun K2 L=>?_) z6
    try rw[if_pos (by rfl)]
    go_simp;refine L.out _ _ (G.o _ HP.o.fr) (fun hH=>?_);clear L K2
    try go_frame
    refine XC [5] ?_;refine Zb rfl (fun K2 L=>?_) z6
    try rw[if_pos (by rfl)]
    go_simp;refine HP.o.pays.mono ?_;rintro e wd ⟨B,rfl,N0⟩;have h0:=Za N0;clear N0;refine L.out _ _ (G.o _ h0.o.fr) (fun hH=>?_);clear L K2
    try go_frame
    refine wpAnyH_done (by kernel_rfl) ?_ _;go_wp2_with fail;go_meet;exact⟨B,_,_,_,_,_,_,rfl,h0⟩
  obtain⟨B,x0,x1,x2,x3,a,es,rfl,h0⟩:=hcut;generalize wc=w2 at*;go_wp2_with fail;generalize p5 (yE r _ _ _ _ _ _)=t1;generalize p5 (yE q _ _ _ _ _ _)=v1;have c:=h0.o;have e1:=L0.o;have e2:=A0.o;have e3:=c.lo;have e5:=c.sz;have o2:=c.fr.whole D0.o;have o3:=c.fr.whole E0.o
  obtain⟨S,q0⟩:∃S:Nat->Prop,S=fun k=>k=P+1+1\/k=P+1+1+1:=⟨_,rfl⟩
  have O0:S (P+1+1):=by rw[q0];exact .inl rfl
  have Q0:S (P+1+1+1):=by rw[q0];exact .inr rfl
  have r0:∀k,S k->k<P+4/\P<=k:=fun k hk=>by rw[q0]at hk;rcases hk with h|h<;>omega
  have l:Hy z7 212 #[F (Z ⟨B,0,Y⟩),F (Z ⟨B+1+1,0,Y⟩),F (Z ⟨B+1,0,Y⟩)] Bj (Tu S w2.heap.size) (X1 A 4 es) w2:=by
    have nR:∀i,w0.heap.size<=i->i<B+3->¬Tu S w2.heap.size i:=by
      rintro i g1 g2 (h|h|h)
      · have:=r0 i h;omega
      · omega
      omega
    have w1:es.length=1:=by have:=congrArg j0 c.em;simpa using this
    refine P0 A x0 x1 x2 x3 (fun i _=>J0.o i) 4 (X _) B (B+1+1) (B+1) 1 _ a es w2 (by omega) (fun e he i s _ hs=>?_) (fun W d=>?_)
    · have:e.A∈es.map Td.A:=j9 he
      rw[c.em,z8]at this;rw[this]at hs;exact K0.o i s hs
    have ba:=d.whole c.b1 (nR _ (by omega) (by omega))
    refine⟨bC (d.whole c.b0 (nR _ (by omega) (by omega))) 0 _ rfl,?_,Zc ba 0,Zc ba 1,Zc ba 2,Zc ba 3,?_,?_⟩
    · rw[w1];exact bC (d.whole c.b2 (nR _ (by omega) (by omega))) 0 _ rfl
    · exact c.ar.frS d (fun x hx g o e R0=>nR g (c.nw x hx g o e).1 (by omega))
    refine c.ars.frS d (fun g o e R0=>nR g (c.an g o e).1 (by omega)) (fun e he=>?_)
    obtain⟨k,hk⟩:=List.mem_iff_getElem?.1 he;exact PW.frS (c.ars k e hk).1 d (fun x hx g o e' R0=>nR g (c.en e he x hx g o e').1 (by omega))
  obtain⟨xs,v0⟩:∃xs,X1 A 4 es=xs:=⟨_,rfl⟩;rw[v0]at l
  have S0:H (Ra A A2=xs.find? fun y=>decide (0<y.2)):=by
    show _=_
    unfold Ra;rw[<-v0,KI (A:=A) 4 (es:=es) (es':=[⟨A2,⟨Y,0⟩,⟨Y,0⟩,⟨Y,0⟩,⟨Y,0⟩⟩]) c.em]
  have p:H (P+1+1+1<w2.heap.size):=by show _<_;omega
  have T0:=Za (D.o.trans c.fr)
  have V0:H (∀k,S k->w.heap.size<=k):=fun k hk=>by have:=r0 k hk;omega
  have W0:=Za O0;have X0:=Za Q0
  have t0:∀k,S k->k<w2.heap.size:=fun k hk=>by have:=r0 k hk;omega
  clear q0 O0 Q0 r0 v0 e1 e2 e3 e5 c h0 K0 J0 G H0 I0 B0 C0 D0 E0 D A0 L0;refine(wpIn_wide (n:=2)).1 ?_;refine PZ (n:=0) (S:=S) rfl (enters_of Tryz.func212 (by kernel_rfl) rfl) l Zt (fun _=>rfl) t0
    (fun pre W=>(∀y,y∈pre->y.2=0)/\(W.heap[P+1+1]?=Z (O #[I J 0,I J 0,I J 0,I J 0] 139)/\(W.heap[P+1+1+1]?=Z (O #[E false] 4)/\Fr S w2 W)))
    (fun co pre W=>∃j y,(co=.ret/\pre=j++[y]/\(∀z,z∈j->z.2=0)/\0<y.2)/\(W.heap[P+1+1]?=Z (O #[I J (y.1.p0:Nat),I J (y.1.p1:Nat),I J (y.1.p2:Nat),I J (y.1.p3:Nat)] 139)/\(W.heap[P+1+1+1]?=Z (O #[E true] 4)/\Fr S w2 W)))
    (YD.and (YD.pure (fun(pre:List (RD×Nat))=>∀y,y∈pre->y.2=0)) (YD.and (YD.block (by have:=p.o;omega)) (YD.and (YD.block p.o) (YD.fr (X _)))))
    (fun co s W W' hs d=>by
      obtain⟨j,y,g1,g2,g3,R⟩:=hs
      exact⟨j,y,g1,YD.block (β:=Unit) (M:=w2.heap.size) (by have:=p.o;omega) () W W' g2 d,YD.block (β:=Unit) (M:=w2.heap.size) p.o () W W' g3 d,YD.fr (β:=Unit) (M:=w2.heap.size) (X _) () W W' R d⟩)
    ⟨by simp,o2,o3,Zt⟩
    (fun x m a' W=>∃Bx,m<=Bx/\W.heap[Bx]?=Z (O #[I J (x.1.p0:Nat),I J (x.1.p1:Nat),I J (x.1.p2:Nat),I J (x.1.p3:Nat)] 139)/\a'={tmps:=#[t1,v1,F (Z ⟨P,0,Y⟩),F (Z ⟨P+1,0,Y⟩),F (Z ⟨P+1+1,0,Y⟩),F (Z ⟨P+1+1+1,0,Y⟩),F (Z ⟨Bx,0,Y⟩),I J (x.2:Nat),u8,u9,u10,u11,u12,.func (.func 212) #[] #[F (Z ⟨B,0,Y⟩),F (Z ⟨B+1+1,0,Y⟩),F (Z ⟨B+1,0,Y⟩)],KH x.1,I J (x.2:Nat),undef,undef,undef,undef],defers:=[]})
    (fun x m a' s A B row hs hg hr=>by obtain⟨Bx,g1,g2,g3⟩:=hs;exact⟨Bx,g1,R4 (C:=w2.heap.size) () A B row g2 hg hr,g3⟩) ?assign ?body ?done ?stop
  case assign=>
    rintro pre x W K hp ⟨g1,g2,g3,R⟩ L;unfold Bj KH
    gi_wp2
    have f:=(Lt W (O #[I J (x.1.p0:Nat),I J (x.1.p1:Nat),I J (x.1.p2:Nat),I J (x.1.p3:Nat)] 139)).1;exact L _ _ (f.mono (fun _ h=>h.elim)) ⟨g1,f.whole g2,f.whole g3,R.trans (f.mono (fun _ h=>h.elim))⟩ ⟨W.heap.size,X _,aN W _,rfl⟩
  case body=>
    rintro pre x m a' W hp hm ⟨g1,g2,g3,R⟩ ⟨Bx,A1,hb,rfl⟩;have HI:=Za g1;have HF:=Za R;have N:=Za g2;have Q:=Za g3;have B1:=Za hb;clear l o2 o3 t0 g1 R;by_cases hx:0<x.2
    · have hz:(0:Int)<(x.2:Int):=by omega
      have HX:=Za hx;have y0:=Zc hb 0;have y1:=Zc hb 1;have y2:=Zc hb 2;have y3:=Zc hb 3;have c0:=Zc g2 0;have c1:=Zc g2 1;have c2:=Zc g2 2;have c3:=Zc g2 3;have z0:=bF g2 0;have z1:=bF g2 1;have z2:=bF g2 2;have z3:=bF g2 3;have d0:=Zc g3 0;have d1:=bF g3 0;clear hb g2 g3
      gi_wp2
      obtain⟨k2,k3,k4⟩:=uy (b:=true) N.o Q.o x.1.p0 x.1.p1 x.1.p2 x.1.p3;have k5:=k4.mono (T:=S) (by rintro k (rfl|rfl);exact W0.o;exact X0.o);exact⟨k5.mono (fun k h=>.inl h),pre,x,⟨rfl,rfl,HI.o,HX.o⟩,k2,k3,HF.o.trans k5⟩
    have hz:¬(0:Int)<(x.2:Int):=by omega
    have HX:=Za hx;clear hx hb g2 g3
    have HK:H (∀y,y∈pre++[x]->y.2=0):=fun y hy=>by
      rcases q3.1 hy with hy|hy
      · exact HI.o y hy
      rw[z8.1 hy];have:=HX.o;omega
    gi_wp2
    exact⟨Zt,fun a b h=>HK.o (a,b) h,N.o,Q.o,HF.o⟩
  case done=>
    rintro W ⟨g1,g2,g3,R⟩ hD;have HI:=Za g1;have HF:=Za R;have N:=Za g2;have Q:=Za g3;have HD:=Za hD;have c0:=Zc g2 0;have c1:=Zc g2 1;have c2:=Zc g2 2;have c3:=Zc g2 3;have z0:=bF g2 0;have z1:=bF g2 1;have z2:=bF g2 2;have z3:=bF g2 3;have d0:=Zc g3 0;have d1:=bF g3 0;clear g1 g2 g3 R hD l o2 o3 t0;go_wp2_with fail;obtain⟨k2,k3,k4⟩:=uy (b:=false) N.o Q.o 0 0 0 0;have k5:=k4.mono (T:=S) (by rintro k (rfl|rfl);exact W0.o;exact X0.o);refine DC (S:=S) (y:=(⟨0,0,0,0⟩,0)) p.o T0.o V0.o (HF.o.trans k5) (k4.whole HD.o (by rintro(h|h)<;>(have:=p.o;omega))) k2 k3 ?_
    rw[S0.o,show(xs.find? fun y=>decide (0<y.2))=Y from by
      rw[j1];intro y hy
      simp[HI.o y hy]]
    rfl
  rintro co pre W hp ⟨j,y,⟨rfl,rfl,g1,g2⟩,g3,R,g5⟩ hD;have HI:=Za (show(∀z,z∈j->z.2=0)/\0<y.2 from⟨g1,g2⟩);have HF:=Za g5;have N:=Za g3;have Q:=Za R;have HD:=Za hD;have HP:=Za hp;clear g1 g2 g3 R g5 hD l o2 o3 t0 hp
  gi_wp2
  refine DC (S:=S) (y:=y) p.o T0.o V0.o HF.o HD.o N.o Q.o ?_
  rw[S0.o,show(xs.find? fun y=>decide (0<y.2))=Z y from by
    obtain⟨t,ht⟩:=HP.o;rw[<-ht,k0,k0]
    have e:(j.find? fun y=>decide (0<y.2))=Y:=by
      rw[j1];intro z hz;simp[HI.o.1 z hz]
    rw[e]
    simp[HI.o.2]]
  rfl
def TF (y:RD):WF:=⟨ZR (TQ y.p0 6),(y.p1:Nat),(y.p2:Nat),(y.p3:Nat)⟩
theorem DD:∀(k u:Nat),u<10^(k+1)->Lib.nDigits u<=k+1
 |0,u,h=>by rw[Lib.nDigits_small (by simpa using h)];exact X _
 |k+1,u,h=>by
  by_cases a:u<10
  ·rw[Lib.nDigits_small a];omega
  rw[Lib.nDigits_big a]
  have:u/10<10^(k+1):=by rw[Nat.div_lt_iff_lt_mul (by decide)];rw[Nat.pow_succ]at h;exact h
  have:=DD k (u/10) this;omega
theorem tf {n}(h:n<1000000):(Yb n).length<=6:=by
 unfold Yb;rw[Lib.decDigits_length];exact DD 5 n h
theorem zM (y w)(A:QS w)(B:y.p0<1000000):
  q9 z7 115 #[KH y] w fun e w'=>e=y4 (UL (TF y))/\F0 w w':=by
 obtain⟨w0,c⟩:∃w0,(w.alloc (O #[I J (y.p0:Nat),I J (y.p1:Nat),I J (y.p2:Nat),I J (y.p3:Nat)] 139)).alloc (O #[U ⟨#[]⟩,I J 0,I J 0,I J 0] 35)=w0:=⟨_,rfl⟩;obtain⟨P,u⟩:∃P,w.heap.size=P:=⟨_,rfl⟩
 have h:H (F0 w w0):=by show Fr _ _ _;rw[<-c];exact(Zt.alloc _).alloc _
 have i:H (w0.heap[P]?=Z (O #[I J (y.p0:Nat),I J (y.p1:Nat),I J (y.p2:Nat),I J (y.p3:Nat)] 139)):=by
  show _=_
  rw[<-c,<-u];exact((Fr.refl (fun _=>False) _).alloc _).whole (aN w _)
 have l:H (w0.heap[P+1]?=Z (O #[U ⟨#[]⟩,I J 0,I J 0,I J 0] 35)):=by
  show _=_
  rw[<-c,<-u];have:=aN (w.alloc (O #[I J (y.p0:Nat),I J (y.p1:Nat),I J (y.p2:Nat),I J (y.p3:Nat)] 139)) (O #[U ⟨#[]⟩,I J 0,I J 0,I J 0] 35)
  simpa using this
 have C:=Za (QT y.p0 w0 (by omega) (A.fr h.o));have D:=Za (tf B);have W:=Zc i.o 0
 have b:H (w.heap.size<=P+1):=by show _<=_;omega
 unfold KH;go_enter Tryz.func115,Tryz.ntmps115
 go_wp2_with (go_at_call 106;refine C.o.mono ?_)
 rintro e x ⟨rfl,d⟩;have m:=Za d;have f:=Za (d.whole i.o);have a:=Za (d.whole l.o);go_wp2_with fail
 go_loopg [3] 6 (fun E F G=>∃k,k+(Yb y.p0).length<=6/\E=6-k/\F=U (ZR (j7 k 48++Yb y.p0))/\G=x)
 case atStart=>exact⟨0,by have:=D.o;omega,rfl,rfl,rfl⟩
 obtain⟨k,X,rfl,rfl,g⟩:=hrel;replace g:=g.symm;subst g;obtain⟨s,n⟩:∃s,ZR (j7 k 48++Yb y.p0)=s:=⟨_,rfl⟩
 have K:s.size=k+(Yb y.p0).length:=by rw[<-n,XN];simp
 have z:=Za n;rw[n];by_cases L:k+(Yb y.p0).length<6
 ·have q:(s.size:Int)<6:=by omega
  have r:H ((⟨#[48]⟩:ByteArray)++s=ZR (j7 (k+1) 48++Yb y.p0)):=by
   show _=_
   rw[<-z.o];apply ByteArray.ext;apply Array.ext';simp[ZR,List.replicate_succ]
  go_wp2_with fail;go_roundg (6-(k+1))
  case measure=>omega
  exact⟨k+1,by omega,rfl,by rw[<-r.o],rfl⟩
 have q:¬(s.size:Int)<6:=by omega
 have M:H (s=(TF y).pan):=by
  show s=ZR (TQ y.p0 6)
  rw[<-z.o];unfold TQ;rw[show 6-(Yb y.p0).length=k from by omega]
 have a1:=Zc f.o 1;have a2:=Zc f.o 2;have a3:=Zc f.o 3;have r0:=Zc a.o 0;have r1:=Zc a.o 1;have r2:=Zc a.o 2;have r3:=Zc a.o 3;have z0:=bF a.o 0;have z1:=bF a.o 1;have z2:=bF a.o 2;have z3:=bF a.o 3;go_wp2_with fail;have t1:=heap_setCell_same x (P+1) 0 _ _ (U s) a.o;have N:=heap_setCell_same _ (P+1) 1 _ _ (I J (y.p1:Nat)) t1;have Q:=heap_setCell_same _ (P+1) 2 _ _ (I J (y.p2:Nat)) N;have j:=heap_setCell_same _ (P+1) 3 _ _ (I J (y.p3:Nat)) Q;have R:=Zc j 0;have S:=Zc j 1;have T:=Zc j 2;have V:=Zc j 3;have t:=((((h.o.trans m.o).setCell (p:=⟨P+1,0,Y⟩) (q1 b.o) (U s)).setCell (p:=⟨P+1,1,Y⟩) (q1 b.o) (I J (y.p1:Nat))).setCell (p:=⟨P+1,2,Y⟩) (q1 b.o) (I J (y.p2:Nat))).setCell (p:=⟨P+1,3,Y⟩) (q1 b.o) (I J (y.p3:Nat));refine bodyPost_ret (v:=j2 #[U s,I J (y.p1:Nat),I J (y.p2:Nat),I J (y.p3:Nat)]) (by simp[results,Tryz.results115,go_sem,R,S,T,V]) rfl ⟨?_,t⟩;unfold UL;rw[<-M.o];rfl
def uS (a n2:ByteArray)(p:WF):q2:=j2 #[U a,U n2,U p.pan,I J p.mcc,I J p.am,I J p.cur]
set_option maxRecDepth 100000 in
theorem Gf (w r q y ma mc ca cc pa pc x z A B C D)(h1:r.name.size<=3000)(h2:q.name.size<=3000)(hy:y.p0<1000000)(ht:QS w):
  q9 z7 68 #[j2 (yE r ma mc ca cc pa pc),j2 (yE q x z A B C D),KH y] w fun e w'=>e=y4 (uS r.name q.name (TF y))/\F0 w w':=by
 obtain⟨w0,P,N,hP,E,_,Q,R,V,X⟩:=sn w (O (yE r ma mc ca cc pa pc) 120) (O (yE q x z A B C D) 120) (O #[I J (y.p0:Nat),I J (y.p1:Nat),I J (y.p2:Nat),I J (y.p3:Nat)] 139) (O #[U ⟨#[]⟩,U ⟨#[]⟩,U ⟨#[]⟩,I J 0,I J 0,I J 0] 44)
 have g:H (∀W,Fr (fun k=>k=P+1+1+1) w0 W->W.cell? ⟨P,0,Y⟩=Z (U r.name)/\W.cell? ⟨P+1,0,Y⟩=Z (U q.name)/\W.heap[P+1+1]?=Z (O #[I J (y.p0:Nat),I J (y.p1:Nat),I J (y.p2:Nat),I J (y.p3:Nat)] 139)):=fun W c=>⟨bC (c.whole Q.o (by show¬P=P+1+1+1;omega)) 0 _ rfl,bC (c.whole R.o (by show¬P+1=P+1+1+1;omega)) 0 _ rfl,c.whole V.o (by show¬P+1+1=P+1+1+1;omega)⟩
 have a0:H (∀W,q9 z7 96 #[U r.name] W fun e w'=>e=y4 (U r.name)/\F0 W w'):=fun W=>VD r.name W h1
 have b0:H (∀W,q9 z7 96 #[U q.name] W fun e w'=>e=y4 (U q.name)/\F0 W w'):=fun W=>VD q.name W h2
 have d0:H (∀W,F0 w0 W->q9 z7 115 #[j2 #[I J (y.p0:Nat),I J (y.p1:Nat),I J (y.p2:Nat),I J (y.p3:Nat)]] W fun e w'=>e=y4 (j2 #[U (TF y).pan,I J (TF y).mcc,I J (TF y).am,I J (TF y).cur])/\F0 W w'):=fun W c=>zM y W (ht.fr (E.o.trans c)) hy
 have e0:H (w.heap.size<=P+1+1+1):=by show _<=_;omega
 generalize TF y=d at*;unfold KH;clear h1 h2 hy ht;go_enter Tryz.func68,Tryz.ntmps68;go_upto_region 1 with fail;clear N hP;have l:H (F0 w0 w0.drew):=Zt.drew;refine wp_region_held_drew (S:=fun W=>W.cell? ⟨P,0,Y⟩=Z (U r.name)/\W.cell? ⟨P+1,0,Y⟩=Z (U q.name)/\W.heap[P+1+1]?=Z (O #[I J (y.p0:Nat),I J (y.p1:Nat),I J (y.p2:Nat),I J (y.p3:Nat)] 139)) (by kernel_rfl) (g.o _ (l.o.mono (fun _ h=>h.elim))) (fun j=>?_);refine US 0 (v:=?v0z) ?y0z j ?r0z
 case y0z=>
  rintro w ⟨m,n,a⟩;have F:=Zc a 0;have c1:=Zc a 1;have G:=Zc a 2;have K:=Zc a 3;clear a;go_simp
  with_reducible rfl
 try go_frame
 refine US 1 (v:=?v1z) ?y1z j ?r1z
 case y1z=>
  rintro w ⟨m,n,a⟩;have F:=Zc a 0;have c1:=Zc a 1;have G:=Zc a 2;have K:=Zc a 3;clear a;go_simp
  with_reducible rfl
 try go_frame
 refine US 3 (v:=?v3z) ?y3z j ?r3z
 case y3z=>
  rintro w ⟨m,n,a⟩;have F:=Zc a 0;have c1:=Zc a 1;have G:=Zc a 2;have K:=Zc a 3;clear a;go_simp
  with_reducible rfl
 try go_frame
 refine US 4 (v:=?v4z) ?y4z j ?r4z
 case y4z=>
  rintro w ⟨m,n,a⟩;have F:=Zc a 0;have c1:=Zc a 1;have G:=Zc a 2;have K:=Zc a 3;clear a;go_simp
  with_reducible rfl
 try go_frame
 refine US 6 (v:=?v6z) ?y6z j ?r6z
 case y6z=>
  rintro w ⟨m,n,a⟩;have F:=Zc a 0;have c1:=Zc a 1;have G:=Zc a 2;have K:=Zc a 3;clear a;go_simp
  with_reducible rfl
 try go_frame
 refine XC [2] ?_;refine Zb rfl (fun s i=>?_) z6
 try rw[if_pos (by rfl)]
 go_simp;refine(a0.o _).mono ?_;rintro e wa ⟨rfl,c⟩;have L:=Za (l.o.trans c);clear c;refine i.out _ _ (g.o _ (L.o.mono (fun _ h=>h.elim))) (fun j=>?_);clear i s
 try go_frame
 refine XC [5] ?_;refine Zb rfl (fun s i=>?_) z6
 try rw[if_pos (by rfl)]
 go_simp;refine(b0.o _).mono ?_;rintro e wb ⟨rfl,c⟩;have t:=Za (L.o.trans c);clear c;refine i.out _ _ (g.o _ (t.o.mono (fun _ h=>h.elim))) (fun j=>?_);clear i s
 try go_frame
 refine XC [7] ?_;refine Zb rfl (fun s i=>?_) z6
 try rw[if_pos (by rfl)]
 go_simp;refine(d0.o _ t.o).mono ?_;rintro e wd ⟨rfl,c⟩;have u:=Za (t.o.trans c);clear c;refine i.out _ _ (g.o _ (u.o.mono (fun _ h=>h.elim))) (fun j=>?_);clear i s
 try go_frame
 refine US 8 (v:=?v8z) ?y8z j ?r8z
 case y8z=>
  rintro w ⟨m,n,a⟩;have F:=Zc a 0;have c1:=Zc a 1;have G:=Zc a 2;have K:=Zc a 3;clear a;go_simp
  with_reducible rfl
 try go_frame
 have b:=Za (u.o.whole X.o);have r0:=Zc b.o 0;have r1:=Zc b.o 1;have r2:=Zc b.o 2;have r3:=Zc b.o 3;have r4:=Zc b.o 4;have r5:=Zc b.o 5;have z0:=bF b.o 0;have z1:=bF b.o 1;have z2:=bF b.o 2;have z3:=bF b.o 3;have z4:=bF b.o 4;have z5:=bF b.o 5;refine XC [9] ?_;refine Zb rfl (fun s i=>?_) z6
 try rw[if_pos (by rfl)]
 go_simp;have t0:=heap_setCell_same wd (P+1+1+1) 0 _ _ (U r.name) b.o;have t1:=heap_setCell_same _ (P+1+1+1) 1 _ _ (U q.name) t0;have t2:=heap_setCell_same _ (P+1+1+1) 2 _ _ (U d.pan) t1;have t3:=heap_setCell_same _ (P+1+1+1) 3 _ _ (I J d.mcc) t2;have t4:=heap_setCell_same _ (P+1+1+1) 4 _ _ (I J d.am) t3;have t5:=heap_setCell_same _ (P+1+1+1) 5 _ _ (I J d.cur) t4;have M:=Za (((((((u.o.mono (S:=fun _=>False) (T:=fun k=>k=P+1+1+1) (fun _ h=>h.elim)).setCell (p:=⟨P+1+1+1,0,Y⟩) (.inl rfl) (U r.name)).setCell (p:=⟨P+1+1+1,1,Y⟩) (.inl rfl) (U q.name)).setCell (p:=⟨P+1+1+1,2,Y⟩) (.inl rfl) (U d.pan)).setCell (p:=⟨P+1+1+1,3,Y⟩) (.inl rfl) (I J d.mcc)).setCell (p:=⟨P+1+1+1,4,Y⟩) (.inl rfl) (I J d.am)).setCell (p:=⟨P+1+1+1,5,Y⟩) (.inl rfl) (I J d.cur));have f:=Za t5;clear t0 t1 t2 t3 t4 t5 r0 r1 r2 r3 r4 r5 z0 z1 z2 z3 z4 z5;refine i.out _ _ (g.o _ M.o) (fun j=>?_);clear i s
 try go_frame
 generalize((((((wd.setCell ⟨P+1+1+1,0,Y⟩ (U r.name)).setCell ⟨P+1+1+1,1,Y⟩ (U q.name)).setCell ⟨P+1+1+1,2,Y⟩ (U d.pan)).setCell ⟨P+1+1+1,3,Y⟩ (I J d.mcc)).setCell ⟨P+1+1+1,4,Y⟩ (I J d.am)).setCell ⟨P+1+1+1,5,Y⟩ (I J d.cur))=we at*;refine wpAnyH_done (by kernel_rfl) ?_ _;go_wp2_with fail;have m:=Zc f.o 0;have n:=Zc f.o 1;have a:=Zc f.o 2;have s3:=Zc f.o 3;have s4:=Zc f.o 4;have s5:=Zc f.o 5;refine bodyPost_ret (v:=uS r.name q.name d) (by simp[results,Tryz.results68,go_sem,m,n,a,s3,s4,s5,uS]) rfl ⟨rfl,?_⟩;exact E.o.monoNew M.o (fun k h=>.inr (by have:=e0.o;omega))
abbrev xE:=ByteArray×ByteArray×WF
def G1 (a:List Ze)(i j:Nat):List xE:=match a[i]?,a[j]? with
 |some r,Z q=>(match Ra (Ud r) (Ud q)with|some y=>[(r.name,q.name,TF y.1)]|none=>[])
 |_,_=>[]
def T6 (a:List Ze)(i:Nat):Nat->List xE
 |0=>[]
 |k+1=>T6 a i k++G1 a i (i+1+k)
def TY (a:List Ze):Nat->List xE
 |0=>[]
 |k+1=>TY a k++T6 a k (a.length-(k+1))
def TZ (a:List Ze):List xE:=TY a a.length
def OD (o:xE):List q2:=[U o.1,U o.2.1,U o.2.2.pan,I J o.2.2.mcc,I J o.2.2.am,I J o.2.2.cur]
def XF (l:List xE):List q2:=l.flatMap OD
theorem Gg (l o):XF (l++[o])=XF l++OD o:=by simp[XF]
theorem JU (a:List Ze)(i:Nat):∀k,(T6 a i k).length<=k
 |0=>X _
 |k+1=>by
  have:=JU a i k;unfold T6;rw[lA]
  have:(G1 a i (i+1+k)).length<=1:=by
   unfold G1
   split
   ·split<;>simp
   simp
  omega
theorem Ne (a:List Ze):∀k,(TY a k).length<=k*a.length
 |0=>by simp[TY]
 |k+1=>by
  have b:=Ne a k;have c:=JU a k (a.length-(k+1));unfold TY;rw[lA,Nat.add_mul,Nat.one_mul];omega
theorem vP {n r}(h:Tf n r){A2}(b:Tg r){y}(c:Ra (Ud r) A2=Z y):y.1.p0<1000000:=by
 have d:=(KJ (fun i s e=>(Qv h b i s e).1) c).1
 have f:Xx (Ud r) 0 y.1.p0=true:=by
  have:(Xx (Ud r) 0 y.1.p0&&(Xx (Ud r) 1 y.1.p1&&(Xx (Ud r) 2 y.1.p2&&(Xx (Ud r) 3 y.1.p3&&true))))=true:=d;rw[G]at this;exact this.1
 have a:YZ (WQ r.digits r.lo r.hi) y.1.p0=true:=by
  have:([WQ r.digits r.lo r.hi].any fun s=>YZ s y.1.p0)=true:=f
  simpa using this
 obtain⟨g1,g2,g3⟩:=h.bn;unfold YZ WQ at a;simp only[G,decide_eq_true_eq]at a
 have g:10^r.digits*10^(6-r.digits)=1000000:=by rw[<-Nat.pow_add,show r.digits+(6-r.digits)=6 from by omega]
 have j:=j8 (10^(6-r.digits)) (show r.hi+1<=10^r.digits from g2);have k:0<(r.hi+1)*10^(6-r.digits):=k6 (by omega) (k7 (by decide));omega
theorem R5:(z7.info? 44).map (fun i=>(i.zero,i.size,i.bytes))=Z (Z (j2 #[U q5,U q5,U q5,I J 0,I J 0,I J 0]),6,72):=by kernel_rfl
theorem xF {w:y8}{base e t b n Q v f i}(h:w.ownsRow base e b v n f)(a:w.heap[Q]?=Z (O i t))(c:e≠t):¬v.ownBlock=Z Q:=by
 intro d;rcases h.2 with⟨rfl,_⟩|⟨g,cap,j,rfl,_,k,_⟩
 ·cases d
 have:g=Q:=by simpa[q7]using d
 subst this;rw[k]at a;injection a with a;injection a with _ a _;exact c a
set_option maxRecDepth 100000 in
theorem LP (w B va c N a nr)(hB:w.cell? ⟨B,1,Y⟩=Z (V va N c))(h:vM w va a)(hN:a.length=N)(h8:N<=8)(I1:N<=c)(H0:∀r,r∈a->Tf nr r/\Tg r)(ht:QS w):
  q9 z7 39 #[F (Z ⟨B,0,Y⟩)] w fun e w'=>(∃v,e=y4 v/\w'.ownsRow w.heap.size 44 6 v (TZ a).length (XF (TZ a)))/\F0 w w':=by
 obtain⟨ij,I0,J0,K0,L0⟩:=info_parts R5;have HR:=Za h;have HN:=Za hN;have r0:=Za H0;have HT:=Za ht;have s0:=Za hB;go_enter Tryz.func39,Tryz.ntmps39;go_wp2_with fail
 go_loopg [3,15] N (fun m ov iv wr=>∃k,k<=N/\m=N-k/\iv=I J (k:Nat)/\H (wr.ownsRow w.heap.size 44 6 ov (TY a k).length (XF (TY a k)))/\H (F0 w wr))
 case atStart=>exact⟨0,by omega,rfl,rfl,oZ _ _ _ _,Zt⟩
 obtain⟨i,hi,rfl,rfl,HO,K⟩:=hrel;by_cases J1:i<N
 ·have M0:(i:Int)<(N:Int):=by omega
  have H1:(i:Int)+1<=(N:Int):=by omega
  obtain⟨r,hr⟩:∃r,a[i]?=Z r:=⟨_,gE (show i<a.length by have:=HN.o;omega)⟩;obtain⟨g,ma,mc,ca,cc,pa,pc,ea,d,h1,h2⟩:=HR.o i r hr;subst ea
  replace d:∀o v,[q4 r.name,I J r.rank,I J r.digits,I J r.lo,I J r.hi,V ma r.mcc.length mc,E r.am.isSome,I J (r.am.getD (0,0)).1,I J (r.am.getD (0,0)).2,V ca r.cur.length cc,E r.decline,E r.cheapest,V pa r.routes.length pc,I J r.ahead][o]?=Z v->wr.cell? ⟨g,i*14+o,Y⟩=Z v:=fun o v ho=>(K.o.cell (p:=⟨g,i*14+o,Y⟩) (bL w _ (d o v ho))).trans (d o v ho)
  have v0:=d 0 _ rfl;have v1:=d 1 _ rfl;have v2:=d 2 _ rfl;have v3:=d 3 _ rfl;have v4:=d 4 _ rfl;have v5:=d 5 _ rfl;have v6:=d 6 _ rfl;have v7:=d 7 _ rfl;have v8:=d 8 _ rfl;have v9:=d 9 _ rfl;have K1:=d 10 _ rfl;have L1:=d 11 _ rfl;have M1:=d 12 _ rfl;have N1:=d 13 _ rfl;rw[j3]at v0;have N0:=Za h1;have O0:=Za h2;have P0:=Za hr;have L:=Za (r0.o r (mG hr));have bB:=(K.o.cell (p:=⟨B,1,Y⟩) (bL w _ s0.o)).trans s0.o;obtain⟨h0,t0⟩:=VA wr (O #[U r.name,I J r.rank,I J r.digits,I J r.lo,I J r.hi,V ma r.mcc.length mc,E r.am.isSome,I J (r.am.getD (0,0)).1,I J (r.am.getD (0,0)).2,V ca r.cur.length cc,E r.decline,E r.cheapest,V pa r.routes.length pc,I J r.ahead] 120);go_upto_region 5 with fail;generalize wr.alloc _=w1 at*;obtain⟨Q,hQ⟩:∃Q,wr.heap.size=Q:=⟨_,rfl⟩;rw[hQ]at t0;rw[hQ];have b1:=(h0.o.cell (p:=⟨B,1,Y⟩) (bL wr _ bB)).trans bB;obtain⟨aa,Q0⟩:∃aa:Option Addr,(if c=i+1 then Z ⟨g,0,Y⟩else Z ⟨g,(i+1)*14,Y⟩)=aa:=⟨_,rfl⟩;go_wp2_with fail;obtain⟨M,hM⟩:∃M,N-(i+1)=M:=⟨_,rfl⟩;have HM:=Za hM;have R0:=Za Q0;rw[hM]
  have S0:H (w1.ownsRow w.heap.size 44 6 u3 (TY a i++T6 a i 0).length (XF (TY a i++T6 a i 0))):=by
   show y6 _ _ _ _ _ _ _
   rw[show TY a i++T6 a i 0=TY a i from by simp[T6]];exact oF HO.o h0.o
  have T0:=Za (K.o.trans h0.o)
  go_loopg [3,28] M (fun mm ov jv wx=>∃j,j<=M/\mm=M-j/\jv=I J (j:Nat)/\H (wx.ownsRow w.heap.size 44 6 ov (TY a i++T6 a i j).length (XF (TY a i++T6 a i j)))/\H (wx.heap[Q]?=Z (O #[U r.name,I J r.rank,I J r.digits,I J r.lo,I J r.hi,V ma r.mcc.length mc,E r.am.isSome,I J (r.am.getD (0,0)).1,I J (r.am.getD (0,0)).2,V ca r.cur.length cc,E r.decline,E r.cheapest,V pa r.routes.length pc,I J r.ahead] 120))/\H (F0 w wx))
  case atStart=>exact⟨0,by omega,rfl,rfl,S0,t0,T0⟩
  obtain⟨j,hj,rfl,rfl,P,V0,t⟩:=hrel;generalize wr=wj at*;obtain⟨oa,oc,ho⟩:=oL P.o;subst ho;obtain⟨R,S⟩:∃R,(TY a i++T6 a i j).length=R:=⟨_,rfl⟩
  have O1:R<=100:=by
   rw[<-S,lA];have e1:=Ne a i;have e2:=JU a i j;have e3:=Nat.mul_le_mul (show i<=8 by omega) (show a.length<=8 by have:=HN.o;omega);have e4:=HM.o;omega
  have i0:=Za S;rw[S]at P;rw[S];by_cases P1:j<M
  ·have W0:(j:Int)<(M:Int):=by omega
   have Q1:i+1+j<N:=by have:=HM.o;omega
   have X0:aa=Z ⟨g,(i+1)*14,Y⟩:=by rw[<-R0.o,if_neg (by omega)]
   subst X0;obtain⟨q,hq⟩:∃q,a[i+1+j]?=Z q:=⟨_,gE (show i+1+j<a.length by have:=HN.o;omega)⟩;obtain⟨g',T,W,X,a0,b0,e0,u,Y0,h3,h4⟩:=(HR.o.fr t.o) (i+1+j) q hq;injection u with u;injection u with u _ _;subst u
   have b:∀o v,[q4 q.name,I J q.rank,I J q.digits,I J q.lo,I J q.hi,V T q.mcc.length W,E q.am.isSome,I J (q.am.getD (0,0)).1,I J (q.am.getD (0,0)).2,V X q.cur.length a0,E q.decline,E q.cheapest,V b0 q.routes.length e0,I J q.ahead][o]?=Z v->wj.cell? ⟨g,(i+1)*14+j*14+o,Y⟩=Z v:=fun o v ho=>by
    have:=Y0 o v ho
    rwa [show(i+1+j)*14+o=(i+1)*14+j*14+o from by omega]at this
   have x0:=b 0 _ rfl;have x1:=b 1 _ rfl;have x2:=b 2 _ rfl;have x3:=b 3 _ rfl;have x4:=b 4 _ rfl;have x5:=b 5 _ rfl;have x6:=b 6 _ rfl;have x7:=b 7 _ rfl;have x8:=b 8 _ rfl;have x9:=b 9 _ rfl;have R1:=b 10 _ rfl;have S1:=b 11 _ rfl;have T1:=b 12 _ rfl;have V1:=b 13 _ rfl;rw[j3]at x0;have Z0:=Za h3;have a1:=Za h4;have w0:=Za (r0.o q (mG hq))
   have x:H (T6 a i (j+1)=T6 a i j++(match Ra (Ud r) (Ud q)with|some y=>[(r.name,q.name,TF y.1)]|none=>[])):=by
    show _=_
    conv=>lhs;unfold T6;unfold G1;rw[P0.o,hq]
   obtain⟨l,j0⟩:=VA wj (O #[U q.name,I J q.rank,I J q.digits,I J q.lo,I J q.hi,V T q.mcc.length W,E q.am.isSome,I J (q.am.getD (0,0)).1,I J (q.am.getD (0,0)).2,V X q.cur.length a0,E q.decline,E q.cheapest,V b0 q.routes.length e0,I J q.ahead] 120);go_upto_region 8 with fail;generalize wj.alloc _=w2 at*;obtain⟨Q2,y0⟩:∃Q2,wj.heap.size=Q2:=⟨_,rfl⟩;rw[y0]at j0;rw[y0];have z:=Za (l.o.whole V0.o);obtain⟨c0,c1,c2,c3,c4,c5,c6,c7,c8,c9,f1,g1,i1,j1⟩:=ZZ z.o;obtain⟨d0,d1,d2,d3,d4,d5,d6,d7,d8,d9,k1,l1,m1,n1⟩:=ZZ j0.o;have n:=Za (Eo w2 r q nr ma mc ca cc pa pc T W X a0 b0 e0 L.o w0.o (N0.o.fr (t.o.trans l.o)) (O0.o.fr (t.o.trans l.o)) (Z0.o.fr l.o) (a1.o.fr l.o));have o1:=Za (HT.o.fr (t.o.trans l.o));have z0:=Za (t.o.trans l.o);have A0:=Za (oF P.o l.o)
   cases k0:Ra (Ud r) (Ud q)with
   |none=>
    rw[k0]at n x;unfold vO at n;unfold KH at n
    go_wp2_with (go_at_call 67;refine n.o.mono ?_)
    rintro e w3 rfl A;have s:H (F0 w (w3.alloc (O #[I J 0,I J 0,I J 0,I J 0] 139))):=(z0.o.trans A).alloc _;have r1:=Za ((A.alloc (O #[I J 0,I J 0,I J 0,I J 0] 139)).whole z.o)
    have l0:H ((w3.alloc (O #[I J 0,I J 0,I J 0,I J 0] 139)).ownsRow w.heap.size 44 6 (V oa R oc) (TY a i++T6 a i (j+1)).length (XF (TY a i++T6 a i (j+1)))):=by
     show y6 _ _ _ _ _ _ _
     rw[x.o,q0,i0.o];exact(oF A0.o A).alloc _
    go_wp2_with fail;go_roundg (M-(j+1))
    case measure=>omega
    exact⟨j+1,by omega,rfl,by go_num,l0,r1,s⟩
   |some y=>
    rw[k0]at n x;unfold vO at n;unfold KH at n;have s1:=Za (vP L.o.1 L.o.2 k0)
    go_wp2_with (go_at_call 67;refine n.o.mono ?_)
    rintro e w3 rfl A;have C:=(VA w3 (O #[I J (y.1.p0:Nat),I J (y.1.p1:Nat),I J (y.1.p2:Nat),I J (y.1.p3:Nat)] 139)).2;have s:=Za (A.alloc (O #[I J (y.1.p0:Nat),I J (y.1.p1:Nat),I J (y.1.p2:Nat),I J (y.1.p3:Nat)] 139));go_upto_region 9 with fail;generalize w3.alloc _=w4 at*;obtain⟨Q3,B0⟩:∃Q3,w3.heap.size=Q3:=⟨_,rfl⟩;rw[B0]at C;rw[B0];have f0:=Za (s.o.whole z.o);have C0:=Za (s.o.whole j0.o);obtain⟨c0,c1,c2,c3,c4,c5,c6,c7,c8,c9,f1,g1,i1,j1⟩:=ZZ f0.o;obtain⟨d0,d1,d2,d3,d4,d5,d6,d7,d8,d9,k1,l1,m1,n1⟩:=ZZ C0.o;have p0:=Zc C.o 0;have p1:=Zc C.o 1;have p2:=Zc C.o 2;have p3:=Zc C.o 3;have m0:=Za (Gf w4 r q y.1 ma mc ca cc pa pc T W X a0 b0 e0 L.o.1.nm w0.o.1.nm s1.o (o1.o.fr s.o));have l0:=Za (oF A0.o s.o);have t1:=Za (z0.o.trans s.o);obtain⟨G,y1⟩:∃G,TF y.1=G:=⟨_,rfl⟩;rw[y1]at m0 x;unfold uS KH at m0
    go_wp2_with (go_at_call 68;refine m0.o.mono ?_)
    rintro e w5 ⟨rfl,n0⟩;have o0:=Za (oF l0.o n0);have D0:=Za (t1.o.trans n0);have z1:=Za D0.o.size;have g0:=Za (n0.whole f0.o)
    go_wp2_with (at_builtin;refine wpList_append_lies _ rfl (.tmp 39) (.tmp 44) 41 rfl w.heap.size 44 ij _ 6 72 Tryz.underlying41 I0 J0 K0 L0 rfl (by decide) (V oa R oc) R (XF (TY a i++T6 a i j)) rfl ?h1 ⟨w5.heap.size,0,Y⟩ 1 1 [U r.name,U q.name,U G.pan,I J G.mcc,I J G.am,I J G.cur] rfl rfl ?h2 ?h3 (by decide) ?h4 ?h5 ?h6 _ rfl ?h7)
    case h1=>exact o0.o.alloc _
    case h2=>exact y7 (aN w5 (O #[U r.name,U q.name,U G.pan,I J G.mcc,I J G.am,I J G.cur] 44))
    case h3=>simp[q8]
    case h4=>unfold maxLen;omega
    case h5=>omega
    case h6=>have:=z1.o;simp;omega
    intro g2 E0 w8 G0 D W1 _;have A1:H (F0 w w8):=(D0.o.alloc _).grown D (fun k hk=>q1 (o0.o.lt k hk).1)
    have B1:H (w8.heap[Q]?=Z (O #[U r.name,I J r.rank,I J r.digits,I J r.lo,I J r.hi,V ma r.mcc.length mc,E r.am.isSome,I J (r.am.getD (0,0)).1,I J (r.am.getD (0,0)).2,V ca r.cur.length cc,E r.decline,E r.cheapest,V pa r.routes.length pc,I J r.ahead] 120)):=by
     have f:Fr (fun k=>(z9 oa R oc).ownBlock=Z k) w5 w8:=(Zt.alloc _).grown D (fun k hk=>.inl hk);exact f.whole g0.o (xF o0.o g0.o (by decide))
    have C1:H (w8.ownsRow w.heap.size 44 6 (V (Z ⟨g2,0,Y⟩) (R+1) E0) (TY a i++T6 a i (j+1)).length (XF (TY a i++T6 a i (j+1)))):=by
     show y6 _ _ _ _ _ _ _
     rw[x.o,<-List.append_assoc,lA,i0.o,Gg];exact G0
    go_wp2_with fail;go_roundg (M-(j+1))
    case measure=>omega
    exact⟨j+1,by omega,rfl,by go_num,C1,B1,A1⟩
  have W0:¬(j:Int)<(M:Int):=by omega
  have ej:j=M:=by omega
  have D1:H (wj.ownsRow w.heap.size 44 6 (V oa R oc) (TY a (i+1)).length (XF (TY a (i+1)))):=by
   show y6 _ _ _ _ _ _ _
   have e:TY a (i+1)=TY a i++T6 a i j:=by
    conv=>lhs;unfold TY
    rw[HN.o,HM.o,ej]
   rw[e,i0.o];exact P.o
  have E1:=t;go_wp2_with fail;go_roundg (N-(i+1))
  case measure=>omega
  exact⟨i+1,by omega,rfl,by go_num,D1,E1⟩
 have M0:¬(i:Int)<(N:Int):=by omega
 have ei:i=N:=by omega
 have F1:=Za ei;go_wp2_with fail;go_ret;refine⟨⟨_,rfl,?_⟩,K.o⟩;have e:=HO.o;unfold TZ;rw[HN.o,<-F1.o];exact e
theorem vQ {x}(h:x<=999999):ZR (TQ x 6)=LM x:=by
 have b:(LM x).size=6:=Nb x 6;obtain⟨c,d⟩:=Mz h
 have f:Zd ⟨0,LM x,0⟩=x:=by
  have e:=d;rw[Zy,List.take_of_length_le (show(LM x).data.toList.length<=6 from Nat.le_of_eq (Nb x 6))]at e;exact e
 have e:=(QO ⟨0,LM x,0⟩ ⟨by show(LM x).size<=9;omega,fun k g=>?_⟩ (by show 1<=(LM x).size;omega)).1
 ·rw[f]at e
  dsimp only at e
  rw[b]at e;exact congrArg ZR e
 have a:k<(LM x).data.toList.length:=by simpa using g
 have:=(UP c).2.2 _ (List.getElem_mem a)
 show 48<=ZD (LM x) k/\ZD (LM x) k<=57
 rw[ZD,gD,gE a,Option.getD_some];omega
theorem KK {l m n}(a:∀x,x∈l->x<=m)(h:((Yl l m).any fun s=>YZ s n)=true):n<=m:=by
 obtain⟨s,b,hi⟩:=k8.1 h;unfold YZ at hi;simp only[G,decide_eq_true_eq]at hi;rcases MR b with⟨_,rfl⟩|⟨k,c,rfl⟩
 ·exact hi.2
 have:=a k c
 have:=hi.2
 dsimp only at this
 omega
theorem Gh {l m n}(c:n<=m):((Yl l m).any fun s=>YZ s n)=(decide (l=[])||Uo l (n:Int)):=by
 rw[k9,k8,j6,V3,decide_eq_true_eq];unfold Yl YZ
 split
 ·rename_i e
  simp[e];omega
 rename_i e
 constructor
 ·rintro⟨s,a,h⟩
  obtain⟨x,b,rfl⟩:=g9.1 a;simp at h
  obtain rfl:x=n:=by omega
  exact q1 b
 exact fun h=>⟨(n,n),g9.2 ⟨n,h.resolve_left e,rfl⟩,by simp⟩
theorem Tv {r}(y)(h:y.p0<=999999/\y.p1<=9999/\y.p2<=1000000000/\y.p3<=999):V8 (Ud r) 4 y=V2 r (SI y.p0 y.p1 y.p2 y.p3):=by
 obtain⟨a,b,i,c⟩:=h;have d:Xx (Ud r) 1 y.p1=(decide (r.mcc=[])||Uo r.mcc (y.p1:Int)):=Gh b;have e:Xx (Ud r) 3 y.p3=(decide (r.cur=[])||Uo r.cur (y.p3:Int)):=Gh c
 have f:Xx (Ud r) 0 y.p0=(decide (sL r<=y.p0)&&decide (y.p0<sH r)):=by
  show([WQ r.digits r.lo r.hi].any fun s=>YZ s y.p0)=_
  have:0<sH r:=k6 (by omega) (k7 (by decide));simp only[g7,p4,g8,YZ,WQ]
  congr 1
  exact decide_eq_decide.2 (show y.p0<=sH r-1↔_ by omega)
 have g:Xx (Ud r) 2 y.p2=Mk r (SI y.p0 y.p1 y.p2 y.p3):=by
  show([if r.am.isSome=true then((r.am.getD (0,0)).1,(r.am.getD (0,0)).2)else(0,1000000000)].any fun s=>YZ s y.p2)=_
  unfold Mk YZ SI
  cases r.am with
  |none=>simp;omega
  |some j=>
   simp only[Option.isSome_some,if_true,Option.getD_some,g7,p4,g8]
   congr 1<;>exact decide_eq_decide.2 (by omega)
 show(Xx (Ud r) 0 y.p0&&(Xx (Ud r) 1 y.p1&&(Xx (Ud r) 2 y.p2&&(Xx (Ud r) 3 y.p3&&true))))=_
 rw[Uv,Uc,f,d,g,e,show(SI y.p0 y.p1 y.p2 y.p3).pan=LM y.p0 from rfl,(Mz a).2,Bool.and_true];rfl
theorem KL {n r}(h:Tf n r)(e:Tg r){p}(f:V8 (Ud r) 4 p=true):p.p0<=999999/\p.p1<=9999/\p.p2<=1000000000/\p.p3<=999:=by
 have a:(Xx (Ud r) 0 p.p0&&(Xx (Ud r) 1 p.p1&&(Xx (Ud r) 2 p.p2&&(Xx (Ud r) 3 p.p3&&true))))=true:=f;simp only[G]at a;obtain⟨g,i,j,c,_⟩:=a;refine⟨?_,KK e.mx i,?_,KK e.cx c⟩
 ·have c:YZ (WQ r.digits r.lo r.hi) p.p0=true:=by
   have:([WQ r.digits r.lo r.hi].any fun s=>YZ s p.p0)=true:=g
   simpa using this
  unfold YZ WQ at c;simp only[G,decide_eq_true_eq]at c;have:=(My h).2;unfold sH at this;have d:0<(r.hi+1)*10^(6-r.digits):=k6 (by omega) (k7 (by decide));omega
 have b:YZ (if r.am.isSome=true then((r.am.getD (0,0)).1,(r.am.getD (0,0)).2)else(0,1000000000)) p.p2=true:=by
  have:([if r.am.isSome=true then((r.am.getD (0,0)).1,(r.am.getD (0,0)).2)else(0,1000000000)].any fun s=>YZ s p.p2)=true:=j
  simpa using this
 unfold YZ at b;simp only[G,decide_eq_true_eq]at b
 cases d:r.am with
 |none=>rw[d]at b;simpa using b.2
 |some k=>
  rw[d]at b;have:=h.am k d;have l:=b.2;simp at l;omega
theorem xG {p}(a:Y6 p=true):∃y:RD,(y.p0<=999999/\y.p1<=9999/\y.p2<=1000000000/\y.p3<=999)/\∀r,V2 r (SI y.p0 y.p1 y.p2 y.p3)=V2 r p:=by
 rw[Xw]at a;simp only[G,V1,decide_eq_true_eq]at a;obtain⟨b,⟨c,f⟩,⟨d,g⟩,e,h⟩:=a;have i:=JJ b;refine⟨⟨Zy p.pan,p.mcc.toNat,p.am.toNat,p.cur.toNat⟩,⟨by show Zy p.pan<=_;omega,by show p.mcc.toNat<=_;omega,by show p.am.toNat<=_;omega,by show p.cur.toNat<=_;omega⟩,fun r=>?_⟩;rw[Uv,Uv]
 show(decide (sL r<=Zy (LM (Zy p.pan)))&&decide (Zy (LM (Zy p.pan))<sH r)&&Uc r (SI _ _ _ _))=_
 rw[(Mz (show Zy p.pan<=999999 by omega)).2];unfold Uc Mk SI;rw[q6 c,q6 d,q6 e]
theorem wF {y:RD}(h:y.p0<=999999/\y.p1<=9999/\y.p2<=1000000000/\y.p3<=999):Y6 (SI y.p0 y.p1 y.p2 y.p3)=true:=by
 rw[Xw,SI,(Mz h.1).1];simp[V1];omega
theorem Gi {n r q}(h:Tf n r)(b:Tg r){y}(d:Ra (Ud r) (Ud q)=Z y):Y6 (TF y.1)=true/\V2 r (TF y.1)=true/\V2 q (TF y.1)=true:=by
 obtain⟨c,f⟩:=KJ (fun i s g=>(Qv h b i s g).1) d;have a:=KL h b c
 have e:TF y.1=SI y.1.p0 y.1.p1 y.1.p2 y.1.p3:=by rw[TF,SI,vQ a.1]
 rw[e];exact⟨wF a,(Tv _ a).symm.trans c,(Tv _ a).symm.trans f⟩
theorem DE {a b m}(h:Qq a b=true)(c:∀x,x∈a->x<=m)(e:∀x,x∈b->x<=m):∃x,x<=m/\(decide (a=[])||Uo a (x:Int))=true/\(decide (b=[])||Uo b (x:Int))=true:=by
 simp only[j6,decide_eq_true_eq,V3];rcases(Du a b).1 h with rfl|rfl|⟨x,d,f⟩
 ·cases b with
  |nil=>exact⟨0,by omega,j4 rfl,j4 rfl⟩
  |cons x r=>exact⟨x,e x (by simp),j4 rfl,q1 (by simp)⟩
 ·cases a with
  |nil=>exact⟨0,by omega,j4 rfl,j4 rfl⟩
  |cons x r=>exact⟨x,c x (by simp),q1 (by simp),j4 rfl⟩
 exact⟨x,c x d,q1 d,q1 f⟩
theorem DF {a b x}(c:(decide (a=[])||Uo a x)=true)(d:(decide (b=[])||Uo b x)=true)(e:0<=x):Qq a b=true:=by
 obtain⟨k,rfl⟩:=Int.eq_ofNat_of_zero_le e;simp only[j6,decide_eq_true_eq,V3]at c d;rw[Du];rcases c with h|h
 ·exact j4 h
 exact q1 (d.imp id fun f=>⟨k,h,f⟩)
theorem Ep {r p}(a:0<=p.am)(b:p.am<=1000000000):Mk r p=true↔((aL r:Int)<=p.am/\p.am<=(aH r:Int)):=by
 unfold Mk aL aH
 cases r.am<;>simp<;>omega
theorem DG {n r s}(j:Tf n r)(a:Tg r)(f:Tg s):vD r s=true↔∃y,Ra (Ud r) (Ud s)=Z y:=by
 constructor
 ·intro h
  unfold vD at h;simp only[G,decide_eq_true_eq]at h;obtain⟨c,b,k,z⟩:=h;obtain⟨x,l,m,o⟩:=DE b a.mx f.mx;obtain⟨u,u1,u2,u3⟩:=DE k a.cx f.cx
  have A:aH r<=1000000000:=by
   unfold aH
   cases e:r.am with
   |none=>simp
   |some q=>have:=j.am q e;simp;omega
  have B:=(My j).2;have g:(max (sL r) (sL s))<=999999/\x<=9999/\max (aL r) (aL s)<=1000000000/\u<=999:=⟨by omega,l,by omega,u1⟩
  cases t:Ra (Ud r) (Ud s)with
  |some y=>exact⟨y,rfl⟩
  |none=>
   refine absurd ?_ (Bt (fun i s v=>(Qv j a i s v).1) t ⟨max (sL r) (sL s),x,max (aL r) (aL s),u⟩);rw[Tv _ g,Tv _ g,Uv,Uv];have w:=(Mz g.1).2
   have C:∀r,aL r<=max (aL r) (aL s)->True:=fun _ _=>trivial
   simp only[Uc,G,decide_eq_true_eq];rw[show Zy (SI (max (sL r) (sL s)) x (max (aL r) (aL s)) u).pan=max (sL r) (sL s)from w,Ep (by show(0:Int)<=((_:Nat):Int);omega) (by show((max (aL r) (aL s):Nat):Int)<=_;omega),Ep (by show(0:Int)<=((_:Nat):Int);omega) (by show((max (aL r) (aL s):Nat):Int)<=_;omega)]
   show((_/\_)/\_/\(((_:Nat):Int)<=((_:Nat):Int)/\((_:Nat):Int)<=_)/\_)/\(_/\_)/\_/\(((_:Nat):Int)<=((_:Nat):Int)/\((_:Nat):Int)<=_)/\_
   exact⟨⟨⟨by omega,by omega⟩,m,⟨by omega,by omega⟩,u2⟩,⟨by omega,by omega⟩,o,⟨by omega,by omega⟩,u3⟩
 rintro⟨y,g⟩
 obtain⟨d,c,b⟩:=Gi j a g;generalize TF y.1=p at*;rw[Xw]at d;simp only[G,V1,decide_eq_true_eq]at d;rw[Uv,Uc]at c b;simp only[G,decide_eq_true_eq]at c b;rw[Ep d.2.2.1.1 d.2.2.1.2]at c b;unfold vD;simp only[G,decide_eq_true_eq];exact⟨by omega,DF c.2.1 b.2.1 d.2.1.1,DF c.2.2.2 b.2.2.2 d.2.2.2.1,by omega⟩
theorem Gj {R p j r}(d:R[j]?=Z r):Qr R p=Z j↔V2 r p=true/\∀i q,R[i]?=Z q->(r.rank<q.rank\/(q.rank=r.rank/\i<j))->V2 q p=false:=by
 have a:=Uu (Zv R) (YY R p (Zy p.pan)) R.length
 have rk:∀{i q},R[i]?=Z q->Zv R i=q.rank:=fun h=>by simp[Zv,h]
 unfold Qr
 constructor
 ·intro h
  rw[h]at a
  dsimp only at a
  rw[Tq R p j r d]at a;refine⟨a.2.1,fun i q c t=>?_⟩
  cases o:V2 q p with
  |false=>rfl
  |true=>
   have hi:=(iG.1 c).1
   have g:i≠j:=fun e=>by subst e;rw[d]at c;injection c with c;subst c;omega
   have:=a.2.2 i hi (by rw[Tq R p i q c];exact o) g;unfold Sz at this;rw[rk c,rk d]at this;omega
 rintro⟨l,s⟩
 have f:=(iG.1 d).1
 cases m:YG (Zv R) (YY R p (Zy p.pan)) R.length with
 |none=>
  rw[m]at a;have:=a j f;rw[Tq R p j r d,l]at this
  cases this
 |some b=>
  rw[m]at a
  dsimp only at a
  by_cases e:b=j
  ·rw[e]
  have c:=gE a.1
  have n:=a.2.2 j f (by rw[Tq R p j r d];exact l) (fun h=>e h.symm);have k:=a.2.1;rw[Tq R p b _ c]at k;unfold Sz at n;rw[rk c,rk d]at n;rw[s b _ c (by omega)]at k
  cases k
theorem xH {rts R}(k:Yy rts R)(l:∀r,r∈R->Tg r){j r}(a:R[j]?=Z r):RE R j=true↔∃p,Y6 p=true/\Qr R p=Z j:=by
 have g:=mG a;unfold RE;rw[a]
 dsimp only
 rw[Gc (fun i s n=>(Qv (k.rl r g) (l r g) i s n).1)]
 constructor
 ·rintro⟨y,d,h⟩
  have b:=KL (k.rl r g) (l r g) d;rw[Tv y b]at d;refine⟨_,wF b,(Gj a).2 ⟨d,fun i q c e=>?_⟩⟩;rw[<-Tv y b];refine h _ ((Pn R j _ R.length).2 ⟨i,q,(iG.1 c).1,c,?_,rfl⟩);unfold Bq;rw[c,a]
  simpa using e
 rintro⟨p,o,f⟩
 obtain⟨d,h⟩:=(Gj a).1 f;obtain⟨y,b,m⟩:=xG o;refine⟨y,by rw[Tv y b,m];exact d,fun B t=>?_⟩;obtain⟨i,q,_,c,e,rfl⟩:=(Pn R j _ R.length).1 t;rw[Tv y b,m];refine h i q c ?_;unfold Bq at e;rw[c,a]at e
 simpa using e
def G2 (v b c d e:q2)(a:Nat):Obj:=O #[v,V Y 0 0,b,c,d,e,I J (a:Nat)] 58
def Cl (c:Nat->Nat)(v:q2)(t:Nat):Prop:=∀k,v.ownBlock=Z k->c k=t
def Wz (w:y8)(c a:Nat->Nat):Prop:=∀k,k<w.heap.size->a k=c k
abbrev SK (Q:List Nat)(c:Nat->Nat)(w w':y8):Prop:=Fr (fun k=>c k∈Q) w w'
theorem Wz.trans {w w' c a d}(h:Wz w c a)(k:Wz w' a d)(b:w.heap.size<=w'.heap.size):Wz w c d:=fun i hi=>(k i (nL hi b)).trans (h i hi)
theorem SK.cls {Q w a w2 c c1 S}(h:SK Q c w a)(b:Wz w c c1)(k:Fr S a w2)(d:∀i,S i->c1 i∈Q):SK Q c w w2:=
 h.monoNew k fun i hi=>(Nat.lt_or_ge i w.heap.size).imp (fun e=>b i e▸d i hi) id
def G3 (s:Nat)(m:ByteArray):List q2:=if s=1 then[U m]else[U m,U m,U q5,I J 0,I J 0,I J 0]
def uT (c:Nat->Nat)(w:y8)(t:Nat)(d:TypeId)(s:Nat)(e:Ie):Prop:=
 ∀k,k<e.n->∃g,e.a=Z ⟨g,0,Y⟩/\c g=t/\∃b,w.heap[g]?=Z (O b d)/\∀j v,(G3 s e.m)[j]?=Z v->b[k*s+j]?=Z v
theorem uT.keep {c a w w' t b s e S}(h:uT c w t b s e)(i:Fr S w w')(j:Wz w c a)(l:∀k,S k->c k≠t):uT a w' t b s e:=by
 intro k m;obtain⟨g,n,d,o,f,p⟩:=h k m;exact⟨g,n,(j g (iA.1 f).1).trans d,o,i.whole f (fun h=>l g h d),p⟩
structure LQ (c:Nat->Nat)(w:y8)(L tn tm tl:Nat)(tR tE:TypeId)(s:Nat)(nv mv:q2)(es pend:List Ie):Prop where
 nm:w.ownsRow (L+1) tR 1 nv (es++pend).length ((es++pend).map Ie.val)
 nc:Cl c nv tn
 ma:w.ownsRow (L+1) 9 1 mv es.length (es.map fun e=>q4 e.m)
 mc:Cl c mv tm
 el:∀e,e∈es++pend->uT c w tl tE s e
theorem XV {c d w w' b t n s e v f S}(h:w.ownsRow b e s v n f)(g:Cl c v t)(i:Fr S w w')(j:Wz w c d)(l:∀k,S k->c k≠t):w'.ownsRow b e s v n f/\Cl d v t:=
 ⟨oA h i fun k a m=>l k m (g k a),fun k a=>(j k (h.lt k a).2).trans (g k a)⟩
theorem LQ.keep {c l w w' L tn d f m n s o p es a S}(h:LQ c w L tn d f m n s o p es a)(g:Fr S w w')(i:Wz w c l)(j:∀k,S k->c k≠tn/\c k≠d/\c k≠f):LQ l w' L tn d f m n s o p es a:=by
 obtain⟨q,r⟩:=XV h.nm h.nc g i fun k b=>(j k b).1
 obtain⟨t,u⟩:=XV h.ma h.mc g i fun k b=>(j k b).2.1
 exact⟨q,r,t,u,fun e v=>(h.el e v).keep g i fun k b=>(j k b).2.2⟩
theorem Po {c w w2 t g v o}(b:Cl c v t)(i:(w.alloc o).grownBy w2 v.ownBlock)(a:v.ownBlock=Z g\/w.heap.size<=g):∃d,Wz w c d/\d g=t/\Fr (fun k=>c k=t) w w2:=by
 refine⟨fun k=>if k=g then t else c k,fun k f=>?_,if_pos rfl,(Zt.alloc o).grown i fun k f=>j4 (b k f)⟩
 dsimp only
 split
 ·rename_i e
  subst e;exact(a.elim (fun h=>b k h) fun h=>by omega).symm
 rfl
theorem P1 {c g n cap t}(h:c g=t):Cl c (V (Z ⟨g,0,Y⟩) n cap) t:=fun k a=>by
 obtain rfl:k=g:=by simpa[q7]using a.symm
 exact h
def yF (c:Nat->Nat)(w:y8)(L f:Nat)(h:TypeId)(s:Nat)(b:q2)(n:Nat)(x:ByteArray)(es:List Ie):Prop:=
 ∃d,w.ownsRow (L+1) h s b n d/\(∀k j v,k<n->(G3 s x)[j]?=Z v->d[k*s+j]?=Z v)/\Cl c b f/\∀e,e∈es->∀k,k<e.n->∀g,e.a=Z ⟨g,0,Y⟩->b.ownBlock=Z g->e.m=x/\e.n<=n
theorem yF.keep {c b w w' L a d s e n x es S}(h:yF c w L a d s e n x es)(f:Fr S w w')(g:Wz w c b)(i:∀k,S k->c k≠a):yF b w' L a d s e n x es:=by
 obtain⟨j,l,m,o,p⟩:=h;obtain⟨q,r⟩:=XV l o f g i;exact⟨j,q,m,r,p⟩
theorem KM {w:y8}{b n c g s e j}(h:w.ownsRow b e s (V (Z ⟨g,0,Y⟩) n c) n j):∃a:Array q2,w.heap[g]?=Z (O a e)/\∀(k:Nat) v,j[k]?=Z v->a[k]?=Z v:=by
 rcases h.2 with⟨f,_⟩|⟨p,l,a,f,_,m,_,_,o,d⟩
 ·simp at f
 simp only[z9.injEq,Option.some.injEq,Addr.mk.injEq,and_true,true_and]at f
 obtain⟨rfl,rfl⟩:=f;refine⟨a,m,fun k v i=>?_⟩;rw[<-d,List.getElem?_take]at i
 split at i
 ·simpa using i
 cases i
theorem LQ.step1 {c w w2 L tn r f t m s u E es i n cap g2 d x o}(h:LQ c w L tn r f t m s u E es [])(H:yF c w L f m s (V i n cap) n x es)(y:tn≠r/\tn≠f)(I:(w.alloc o).grownBy w2 u.ownBlock)(J:w2.ownsRow (L+1) t 1 (V (Z ⟨g2,0,Y⟩) (es.length+1) d) (es.length+1) (es.map Ie.val++[V i n cap]))(z:u.ownBlock=Z g2\/w.heap.size<=g2):
  ∃l,Wz w c l/\LQ l w2 L tn r f t m s (V (Z ⟨g2,0,Y⟩) (es.length+1) d) E es [⟨i,n,cap,x⟩]/\yF l w2 L f m s (V i n cap) n x (es++[⟨i,n,cap,x⟩])/\Fr (fun k=>c k=tn) w w2:=by
 obtain⟨l,p,A,q⟩:=Po h.nc I z
 obtain⟨K,M⟩:=XV h.ma h.mc q p fun k b=>b▸y.1
 obtain⟨N,B,F,G,O⟩:=H.keep q p fun k b=>b▸y.2
 refine⟨l,p,⟨by rw[lA,g6];exact J,P1 A,K,M,fun e a=>?_⟩,⟨N,B,F,G,fun e a k b g P Q=>?_⟩,q⟩
 ·rcases q3.1 a with a|a
  ·exact(h.el e (by simp[a])).keep q p fun k b=>b▸y.2
  obtain rfl:=z8.1 a
  intro k b;obtain⟨g,T,e,_⟩:=B.form (by have:k<n:=b;omega);injection e with e _ R;subst e R;obtain⟨C,A,D⟩:=KM B;exact⟨g,rfl,G g rfl,C,A,fun j v S=>D _ _ (F k j v b S)⟩
 rcases q3.1 a with a|a
 ·exact O e a k b g P Q
 obtain rfl:=z8.1 a
 exact⟨rfl,X _⟩
theorem LQ.step2 {c w w2 L tn b d u j s v q es f y n g2 a x o}(h:LQ c w L tn b d u j s v q es [f])(A:yF c w L d j s y n x (es++[f]))(B:f.m=x)(r:b≠tn/\b≠d)(C:(w.alloc o).grownBy w2 q.ownBlock)(D:w2.ownsRow (L+1) 9 1 (V (Z ⟨g2,0,Y⟩) (es.length+1) a) (es.length+1) ((es.map fun e=>q4 e.m)++[U x]))(t:q.ownBlock=Z g2\/w.heap.size<=g2):
  ∃g,Wz w c g/\LQ g w2 L tn b d u j s v (V (Z ⟨g2,0,Y⟩) (es.length+1) a) (es++[f]) []/\yF g w2 L d j s y n x (es++[f])/\Fr (fun k=>c k=b) w w2:=by
 obtain⟨g,l,E,p⟩:=Po h.mc C t
 obtain⟨F,G⟩:=XV h.nm h.nc p l fun k i=>i▸r.1
 refine⟨g,l,⟨by rw[q0];exact F,G,?_,P1 E,fun e z=>?_⟩,A.keep p l fun k i=>i▸r.2,p⟩
 ·rw[lA,g6]
  simpa[B]using D
 rw[q0]at z
 exact(h.el e z).keep p l fun k i=>i▸r.2
theorem LQ.step3 {c w w2 L tn B i O q s P Q es z n cap g2 o x A}(h:LQ c w L tn B i O q s P Q es [])(l1:w.ownsRow (L+1) q s (V z n cap) n A)(l2:∀k j v,k<n->(G3 s x)[j]?=Z v->A[k*s+j]?=Z v)(R:Cl c (V z n cap) i)(S:∀e,e∈es->∀k,k<e.n->∀g,e.a=Z ⟨g,0,Y⟩->(z9 z n cap).ownBlock=Z g->e.m=x/\e.n<=n)(T:i≠tn/\i≠B)(hs:(G3 s x).length=s)(U:w2.ownsRow (L+1) q s (V (Z ⟨g2,0,Y⟩) (n+1) o) (n+1) (A++G3 s x))(d:(z=Z ⟨g2,0,Y⟩/\Fr (fun k=>k=g2) w w2)\/(w.heap.size<=g2/\F0 w w2)):
  ∃C,Wz w c C/\LQ C w2 L tn B i O q s P Q es []/\yF C w2 L i q s (V (Z ⟨g2,0,Y⟩) (n+1) o) (n+1) x es/\Fr (fun k=>c k=i) w w2:=by
 have D:=l1.1
 have r:∀k j v,k<n+1->(G3 s x)[j]?=Z v->(A++G3 s x)[k*s+j]?=Z v:=fun k j v b E=>by
  have a0:=(iG.1 E).1;have b0:k*s+s=(k+1)*s:=(Nat.succ_mul k s).symm;by_cases t:k<n
  ·have:(k+1)*s<=n*s:=j8 _ t
   rw[List.getElem?_append_left (by omega)];exact l2 k j v t E
  obtain rfl:k=n:=by omega
  rw[aR (by omega),D,Nat.add_sub_cancel_left];exact E
 obtain⟨F,u,G⟩:=KM U
 have H:Fr (fun k=>c k=i) w w2:=d.elim (fun⟨e,f⟩=>f.mono fun k b=>R k (by rw[e,b];rfl)) fun h=>h.2.mono
 have I:Wz w c fun k=>if k=g2 then i else c k:=fun k b=>by
  dsimp only
  split
  ·rename_i e
   subst e;rcases d with⟨e,_⟩|⟨W,_⟩
   ·exact(R k (by rw[e];rfl)).symm
   omega
  rfl
 refine⟨fun k=>if k=g2 then i else c k,I,?_,⟨_,U,r,P1 (if_pos rfl),fun e y k b g l J=>?_⟩,H⟩
 ·obtain⟨h1,h2⟩:=XV h.nm h.nc H I fun k b=>b▸T.1
  obtain⟨h3,h4⟩:=XV h.ma h.mc H I fun k b=>b▸T.2
  refine⟨h1,h2,h3,h4,fun e y k b=>?_⟩;obtain⟨g,l,J,X,K,e4⟩:=h.el e y k b;by_cases M:g=g2
  ·subst M
   rcases d with⟨p,f⟩|⟨W,f⟩
   ·obtain⟨N,hn⟩:=S e (by simpa using y) k b g l (by rw[p];rfl)
    exact⟨g,l,if_pos rfl,F,u,fun j v hv=>G _ _ (r k j v (by omega) (N▸hv))⟩
   have:=(iA.1 K).1
   omega
  exact⟨g,l,(if_neg M).trans J,X,d.elim (fun h=>h.2.whole K M) fun h=>h.2.whole K,e4⟩
 obtain rfl:g=g2:=by simpa[q7]using J.symm
 rcases d with⟨p,f⟩|⟨W,f⟩
 ·obtain⟨N,hn⟩:=S e y k b g l (by rw[p];rfl)
  exact⟨N,by omega⟩
 obtain⟨g',k1,_,X,k3,_⟩:=h.el e (by simpa using y) k b
 rw[k1]at l;injection l with l;injection l with l;have:=(iA.1 k3).1;omega
