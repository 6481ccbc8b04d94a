import Derived.Test.YtccikgogjfbpeaaGreatDoorAk
import Derived.Test.YtccikgogjfbpeaaGreatDoorAl
open Go.Value renaming int->V,slice->Z,pointer->H,string->G,bool->X,slice->y7,agg->q5,oneCell'->j0,string->j7,agg->g6,ownBlock->p5
open Go.IntKind renaming i64->Y,i64->b6
open Option renaming none->U,some->O
open Go.Obj renaming cells->E
open Go.RowKit renaming Hid->F
open Nat renaming le_refl->z6,le_trans->y5,mul_le_mul_right->q7,add_zero->j8,reduceSub->k8,reduceAdd->p7,pow_pos->p9,pow_add->b3,add_mul->b4,one_mul->b5
open Go.Proofs.Tryz renaming prog->z7
open List renaming mem_singleton->z8,mem_append->q3,length_map->q4,mem_iff_getElem?->q6,append_toArray->q8,length->j2,find?_eq_none->j3,push_toArray->j4,cons_append->j6,nil_append->j9,mem_filter->k0,append_nil->k6,replicate->k7,mem_map_of_mem->k9,size_toArray->g7,find?_append->g8,length_cons->g9,length_nil->p4,mem_cons->p6
open Go.AllReadyH renaming nil->z9
open Go.Ending renaming returned->y4
open Go renaming World->y6,Calls->y9,Value->j5
open Go.World renaming putObj_heap_other->y8,ownsRow->q0,news_of_block->q2
open Go.Proofs.Tryz
namespace Go.Proofs.YtccikgogjfbpeaaGreatDoor
set_option linter.defProp false
set_option maxRecDepth 100000
set_option maxHeartbeats 8000000
open Go.RowKit Go.Shelf
attribute [local go_sem] Oper.semAt_some
def sY (Q:Exit->Act->y6->Prop):Exit->Act->y6->Prop
 | .normal,a,w=>Q .normal a w
 | .ret,a,w=>Q .ret a w
 |_,_,_=>False
def wg {P}{c:Code}{Q a w}(h:c.wp P (sY Q) a w):c.wp P Q a w:=wp_mono h (fun e _ _ h=>by
 cases e with
 |normal=>exact h
 |ret=>exact h
 |_=>exact h.elim)
structure wh (S:Nat->Prop)(J:List (Qb×Nat)->y6->Prop)(dn:List (Qb×Nat))(W ws:y6)(Ds:List Nat)(wr:y6):Prop where
 j:J dn wr
 f:Fr S ws wr
 nd:Ds.Nodup
 ds:∀D,D∈Ds->W.heap.size<=D/\wr.heap[D]?=O (.deferred (O []))
def DK (k b)(hk:b+k=3)(Bs Bo z c S A G K M N a r w)(hl:r.length<=10)(n0:A.at b≠[])(hb:∀e,e∈r->∀s,s∈e.A.at b->s.1<=10000000000/\s.2<=10000000000)(h:∀W,Fr S w W->IC W Bs Bo z b A G K M N a c r)(ih:∀n Bs Bo z c S a w,(∀W,Fr S w W->IC W Bs Bo z (b+1) A G K M N a c (Vu b n r))->GO z7 212 #[H (O ⟨Bs,0,U⟩),H (O ⟨Bo,0,U⟩),H (O ⟨z,0,U⟩)] Ay S (X9 A k (Vu b n r)) w):
  GO z7 212 #[H (O ⟨Bs,0,U⟩),H (O ⟨Bo,0,U⟩),H (O ⟨z,0,U⟩)] Ay S (X9 A (k+1) r) w:=by
 rw[xt A k b r hk];obtain⟨L,c0⟩:=ad (XJ b A r);rw[c0];intro n l J Jx W hW hS hJ E0 hY h0;have hs:b<4:=az;have o0:=Za h;have Y0:=Za ih;have HW:=Za hW;have p0:=Za hS;have HJ:=Za hJ;have G0:=Za E0;have HY:=Za hY;have H0:=Za h0;have C1:=Za hb;have D1:=Za n0;have HK:=Za hk;have Z0:=Za c0
 have E1:L.length<=2010:=by rw[<-c0];exact De hl (h W hW).ar (h W hW).ars
 have I0:=Za hl;have F1:((b:Int)==4)=false:=aF;have q0:=Za hs;refine callsIn_of_wp_marks func212 rfl trivial ?_ rfl
 show Code.wpIn _ _ _ _ _ {tmps:=#[.func (.yield l) #[] #[],H (O ⟨Bs,0,U⟩),H (O ⟨Bo,0,U⟩),H (O ⟨z,0,U⟩)]++Array.replicate (f212.ntmps-4) undef,defers:=[]} _
 simp only[ntmps212,k8,Array.replicate_succ,Array.replicate_zero,j4,q8,j9,j6];refine(wpIn_wide (n:=n+1)).2 (wg ?_);obtain⟨W1,d0⟩:=ad (W.alloc (E #[.func (.yield l) #[] #[]] 312))
 have f1:Fr S W W1:=by rw[<-d0];exact Zo.alloc _
 obtain⟨By,r0⟩:=ad W.heap.size
 have o1:W1.heap[By]?=O (E #[.func (.yield l) #[] #[]] 312):=by rw[<-d0,<-r0];exact aN W _
 have j1:J [] W1:=by rw[<-d0];exact hJ.alloc _ h0
 have q1:=h W1 (hW.trans f1);have c1:=q1.s;have c2:=q1.o;have c3:=q1.a0;have c4:=q1.a1;have c5:=q1.a2;have c6:=q1.a3;have e0:=Za f1;have b1:=Za o1;have d1:=Za j1;have t0:=Za (Db W1 b A G K M N a c r hs q1.ar n0 q1.ars hl hb);unfold Xy at t0;clear c0 hk q1 f1 o1 j1 h ih hW hS hJ E0 hY h0 hb n0 hl hs;go_upto_region 3 with fail;have e1:=Za r0;clear d0 r0
 go_wp2_with (go_at_call 213;refine t0.o.mono ?_)
 rintro e ws ⟨⟨g,J0,hg,rfl,v0⟩,w0⟩;rw[Z0.o]at v0 ⊢;have K0:=Za v0
 have HG:F (¬S g):=fun h=>ak (p0.o g h) e0.o.size
 have f0:F (Fr S W1 ws):=w0.mono (fun _ h=>h.elim);have g1:F (J [] ws):=HJ.o _ _ _ d1.o (w0.mono (fun _ h=>h.elim));clear v0 w0 hg t0 c1 c2 c3 c4 c5 c6;go_wp2_with fail;obtain⟨I,hI⟩:∃I:Nat->Act->y6->Prop,∀m a' wr,I m a' wr↔∃(j:Nat)(Ds:List Nat)(u6 u22 u23 u24 u25 u26 u27 u28 u29 u30 u31 u32 u43:j5),j<=L.length/\m=L.length-j/\a'={tmps:=#[.func (.yield l) #[] #[],H (O ⟨Bs,0,U⟩),H (O ⟨Bo,0,U⟩),H (O ⟨z,0,U⟩),H (O ⟨By,0,U⟩),undef,u6,undef,undef,V Y (b:Nat),X false,undef,undef,undef,undef,undef,V Y (b:Nat),q5 #[Z G.a A.s0.length G.c,Z K.a A.s1.length K.c,Z M.a A.s2.length M.c,Z N.a A.s3.length N.c],Z a r.length c,Z (O ⟨g,0,U⟩) L.length J0,V Y (L.length:Nat),V Y (j:Nat),u22,u23,u24,u25,u26,u27,u28,u29,u30,u31,u32,undef,undef,undef,undef,undef,undef,undef,undef,undef,undef,u43],defers:=NR Ds}/\F (wh S J (Wn A k r b (L.take j)) W ws Ds wr):=⟨_,fun _ _ _=>Iff.rfl⟩;refine wp_loop_ghost_k I L.length ((hI _ _ _).2 ⟨0,[],_,_,_,_,_,_,_,_,_,_,_,_,_,Nat.zero_le _,rfl,rfl,g1.o,Zo,List.nodup_nil,aA⟩) ?_;intro m a' wr hi J2 K2 L0 M0;obtain⟨j,Ds,u6,u22,u23,u24,u25,u26,u27,u28,u29,u30,u31,u32,u43,hj,rfl,rfl,Q⟩:=(hI _ _ _).1 hi
 have HN:F (∀(g0:List Nat)(u6 u22 u23 u24 u25 u26 u27 u28 u29 u30 u31 u32 u43:j5)(wn:y6),j<L.length->wh S J (Wn A k r b (L.take (j+1))) W ws g0 wn->K2 {tmps:=#[.func (.yield l) #[] #[],H (O ⟨Bs,0,U⟩),H (O ⟨Bo,0,U⟩),H (O ⟨z,0,U⟩),H (O ⟨By,0,U⟩),undef,u6,undef,undef,V Y (b:Nat),X false,undef,undef,undef,undef,undef,V Y (b:Nat),q5 #[Z G.a A.s0.length G.c,Z K.a A.s1.length K.c,Z M.a A.s2.length M.c,Z N.a A.s3.length N.c],Z a r.length c,Z (O ⟨g,0,U⟩) L.length J0,V Y (L.length:Nat),V Y ((j:Int)+1),u22,u23,u24,u25,u26,u27,u28,u29,u30,u31,u32,undef,undef,undef,undef,undef,undef,undef,undef,undef,undef,u43],defers:=NR g0} wn):=fun g0 u6 u22 u23 u24 u25 u26 u27 u28 u29 u30 u31 u32 u43 wn i1 R=>
  M0 _ _ ⟨L.length-(j+1),az,L0 _ _ _ ((hI _ _ _).2 ⟨j+1,g0,u6,u22,u23,u24,u25,u26,u27,u28,u29,u30,u31,u32,u43,i1,rfl,rfl,R⟩)⟩
 clear hi hI M0 L0 J2 I;by_cases y0:j<L.length
 ·have k1:=af j L.length;obtain⟨u,i0⟩:∃u,L[j]?=O u:=⟨_,gE y0⟩;have z0:=Za i0;have cl:=(Q.o.f.cell (p:=⟨g,j,U⟩) (bL ws _ (K0.o j u i0)) HG.o).trans (K0.o j u i0);obtain⟨w5,A0⟩:=ad (wr.alloc (E #[V Y (u:Nat)] 3));obtain⟨Bn,B0⟩:=ad wr.heap.size
  have B:F (F0 wr w5):=by show Fr _ _ _;rw[<-A0];exact Zo.alloc _
  have N0:F (w5.heap[Bn]?=O (E #[V Y (u:Nat)] 3)):=by show _=_;rw[<-A0,<-B0];exact aN wr _
  have HQ:F (∀d,F0 w5 d->IC d Bs Bo z b A G K M N a c r/\d.cell? ⟨Bn,0,U⟩=O (V Y (u:Nat))):=fun d q=>
   ⟨o0.o d ((((HW.o.trans e0.o).trans f0.o).trans Q.o.f).trans ((B.o.trans q).mono (fun _ h=>h.elim))),bC (q.whole N0.o) 0 _ rfl⟩
  have j0:F (∀d,F0 w5 d->d.cell? ⟨Bs,0,U⟩=O (V Y (b:Nat))/\d.cell? ⟨Bn,0,U⟩=O (V Y (u:Nat))/\d.cell? ⟨Bo,0,U⟩=O (Z a r.length c)/\d.cell? ⟨z,0,U⟩=O (Z G.a A.s0.length G.c)/\d.cell? ⟨z,1,U⟩=O (Z K.a A.s1.length K.c)/\d.cell? ⟨z,2,U⟩=O (Z M.a A.s2.length M.c)/\d.cell? ⟨z,3,U⟩=O (Z N.a A.s3.length N.c)):=fun d q=>by
   obtain⟨R,h2⟩:=HQ.o d q;exact⟨R.s,h2,R.o,R.a0,R.a1,R.a2,R.a3⟩
  have t1:b6.wrap ((b:Int)+1)=(b:Int)+1:=IntWalk.i64_in _ (by have:=q0.o;constructor<;>omega);clear i0;go_upto_region 6 with fail;have l1:=Za B0;clear B0 A0 cl;refine wp_region_held_drew (S:=fun d=>d.cell? ⟨Bs,0,U⟩=O (V Y (b:Nat))/\d.cell? ⟨Bn,0,U⟩=O (V Y (u:Nat))/\d.cell? ⟨Bo,0,U⟩=O (Z a r.length c)/\d.cell? ⟨z,0,U⟩=O (Z G.a A.s0.length G.c)/\d.cell? ⟨z,1,U⟩=O (Z K.a A.s1.length K.c)/\d.cell? ⟨z,2,U⟩=O (Z M.a A.s2.length M.c)/\d.cell? ⟨z,3,U⟩=O (Z N.a A.s3.length N.c)) aC (j0.o _ Zo.drew) (fun hH=>?_)
  iterate 6 (refine Yy 0 hH ?_;try go_frame)
  clear t1;refine XA [6] ?_;refine Zb rfl (fun K2 hK=>?_) z9
  try rw[if_pos aD]
  go_simp;refine(E3 w5.drew b u a c r q0.o (HQ.o _ Zo.drew).1.ars I0.o).mono ?_;rintro e w6 ⟨⟨v,rfl,hv⟩,O0⟩;have t:F (F0 w5 w6):=(Zo.drew).trans O0
  obtain⟨a6,c6,m1,P0,Q0⟩:=CL hv (fun e he=>by
   obtain⟨i,hi⟩:=q6.1 (k0.1 he).1
   exact((HQ.o _ t.o).1.ars i e hi).1)
  subst m1;obtain⟨N6,C0⟩:=ad (Vu b u r).length;have n1:=Za C0;have p1:=Za P0;have r1:=Za Q0;rw[C0];clear hv P0 Q0 O0 C0;refine hK.out _ _ (j0.o _ t.o) (fun hH=>?_);clear hK K2
  try go_frame
  refine XA [7] ?_;refine Zb rfl (fun K2 hK=>?_) z9
  try rw[if_pos aD]
  go_simp;have R0:=GL (b+1) A G K M N a6 N6 c6 w6;refine R0.mono ?_;rintro e y ⟨rfl,he⟩;obtain⟨T,P⟩:=ad w6.heap.size;rw[P]
  have C:F (F0 w6 y):=by show Fr _ _ _;rw[he];exact((Zo.alloc _).alloc _).alloc _
  have S0:F (y.heap.size=T+3):=by show _=_;rw[he,<-P];simp
  have T0:F (y.heap[T]?=O (E #[V Y (((b+1:Nat)):Int)] 3)):=by
   show _=_
   rw[he,<-P];exact(((Fr.refl (fun _=>False) _).alloc _).alloc _).whole (aN w6 _) aA
  have V0:F (y.heap[T+1]?=O (E #[Xy G A.s0,Xy K A.s1,Xy M A.s2,Xy N A.s3] 215)):=by
   show _=_
   rw[he,<-P];exact((Fr.refl (fun _=>False) _).alloc _).whole (by have:=aN (w6.alloc (E #[V Y (((b+1:Nat)):Int)] 3)) (E #[Xy G A.s0,Xy K A.s1,Xy M A.s2,Xy N A.s3] 215);simpa using this)
  have W0:F (y.heap[T+1+1]?=O (E #[Z a6 N6 c6] 217)):=by
   show _=_
   rw[he,<-P];have:=aN ((w6.alloc (E #[V Y (((b+1:Nat)):Int)] 3)).alloc (E #[Xy G A.s0,Xy K A.s1,Xy M A.s2,Xy N A.s3] 215)) (E #[Z a6 N6 c6] 217)
   simpa using this
  have D0:=Za P;clear R0 he P;refine hK.out _ _ (j0.o _ (t.o.trans C.o)) (fun hH=>?_);clear hK K2
  try go_frame
  refine wpAnyH_done aC ?_ _;go_wp2_with fail;refine(wpIn_wide (n:=2)).1 ?_;have X0:Fr S W y:=((e0.o.trans f0.o).trans Q.o.f).trans (((B.o.trans t.o).trans C.o).mono (fun _ h=>h.elim));have b0:=HW.o.trans X0;have v1:=B.o.size;have w1:=t.o.size;have y1:=((e0.o.trans f0.o).trans Q.o.f).size;have z1:W.heap.size<=T:=aj D0.o;have A1:=S0.o
  have nS:∀i,W.heap.size<=i->¬S i:=fun i hi h=>aj (p0.o i h)
  have nR:∀i,W.heap.size<=i->i<T+3->¬TD S y.heap.size i:=by
   rintro i R h2 (h|h|h)
   ·exact nS i R h
   ·omega
   omega
  have fR:∀d,Fr (TD S y.heap.size) y d->Fr S w d:=fun d q=>b0.monoNew q (by
   rintro i (h|h|h)
   ·exact .inl h
   ·right;have:=b0.size;omega
   right;have:=b0.size;omega)
  have nd:(y.heap.size::Ds).Nodup:=List.nodup_cons.2 ⟨fun h=>by
   have:=(iA.1 (Q.o.ds _ h).2).1
   have:=B.o.size;have:=D0.o;omega,Q.o.nd⟩
  have l0:∀d,Fr S y d->d.heap[y.heap.size]?=O (.deferred (O []))->∀D,D∈y.heap.size::Ds->W.heap.size<=D/\d.heap[D]?=O (.deferred (O [])):=fun d q hD D hd=>by
   rcases p6.1 hd with rfl|hd
   ·exact⟨az,hD⟩
   obtain⟨R,h2⟩:=Q.o.ds D hd;exact⟨R,PR ((((B.o.trans t.o).trans C.o).mono (fun _ h=>h.elim)).trans q) (nS D R) h2⟩
  refine Fg b u l n W.heap.size q0.o S J Jx (Wn A k r b (L.take j)) (X9 A k (Vu b u r)) Bs By Bn T (T+1+1) (T+1) y _ (NR Ds) _ _ _ _ _ _ _ _ _ _ _ _ _ _ _ _ _ _ _ _ _ _ _ _ _ _ _ _ _ _ _ _ _ _ _ _ _ _ _ _ ?hseq p0.o az HJ.o G0.o ?hY ?hc ?h0 ?hd ?_
  case hseq=>
   refine Y0.o u T (T+1+1) (T+1) c6 (TD S y.heap.size) a6 y (fun d q=>?_);have hq:=o0.o d (fR d q);have ba:=q.whole V0.o (nR _ az az);have hN:=n1.o;refine⟨bC (q.whole T0.o (nR _ az az)) 0 _ rfl,?_,Zc ba 0,Zc ba 1,Zc ba 2,Zc ba 3,hq.ar,?_⟩
   ·rw[hN];exact bC (q.whole W0.o (nR _ az az)) 0 _ rfl
   refine((p1.o.fr C.o).frS q (fun g o e _=>?_) (fun e he=>?_))
   ·have h6:=r1.o g o e;have h5:w5.drew.heap.size=w5.heap.size:=rfl;have:=D0.o;exact nR g az az
   obtain⟨i,hi⟩:=q6.1 (k0.1 he).1;exact(hq.ars i e hi).1
  case hY=>
   intro m0 x d hp hj;have eq:(Wn A k r b (L.take j)++m0.map (I8 b u))++[I8 b u x]=Wn A k r b (L.take j)++(m0++[x]).map (I8 b u):=aA;have hy:=HY.o (Wn A k r b (L.take j)++m0.map (I8 b u)) (I8 b u x) d (by rw[eq];exact Lu z0.o hp) hj;rw[eq]at hy;exact hy
  case hc=>
   intro d q;have R:=e1.o.symm;have h2:=l1.o.symm;refine⟨(o0.o d (b0.trans q)).s,?_,?_⟩
   ·exact bC ((((f0.o.trans Q.o.f).trans (((B.o.trans t.o).trans C.o).mono (fun _ h=>h.elim))).trans q).whole b1.o (nS By az)) 0 _ rfl
   exact bC (q.whole ((t.o.trans C.o).whole N0.o) (nS Bn az)) 0 _ rfl
  case h0=>exact HJ.o _ _ _ Q.o.j (((B.o.trans t.o).trans C.o).mono (fun _ h=>h.elim))
  case hd=>
   intro d q hj hD;have B1:F (wh S J (Wn A k r b (L.take (j+1))) W ws (y.heap.size::Ds) d):=⟨by rw[Lt z0.o];exact hj,(Q.o.f.trans (((B.o.trans t.o).trans C.o).mono (fun _ h=>h.elim))).trans q,nd,l0 d q hD⟩;clear q hj hD l0 nd fR nR nS A1 z1 y1 w1 v1 b0 X0 hH j0 HQ;go_wp2_with fail;exact HN.o (y.heap.size::Ds) _ _ _ _ _ _ _ _ _ _ _ _ _ d y0 B1.o
  intro m0 d hp q hj hD;refine Vg (y.heap.size::Ds) d nd (fun D h=>(l0 d q hD D h).2) ?_;refine⟨_,results_none rfl _ _ _,⟨_,rfl⟩,.inr ⟨_,Lu z0.o hp,?_⟩⟩;exact G0.o _ _ _ hj (IB _ _ (fun D h=>(l0 d q hD D h).1))
 have k1:=ai j L.length;have ej:L.take j=L:=List.take_of_length_le az;have HE:F (L.take j=L):=ej;clear y0 ej;go_wp2_with fail;refine Vg Ds wr Q.o.nd (fun D h=>(Q.o.ds D h).2) ?_;refine⟨_,results_none rfl _ _ _,⟨_,rfl⟩,.inl ?_⟩;have hj:=Q.o.j;rw[HE.o]at hj;exact HJ.o _ _ _ hj (IB _ _ (fun D h=>(Q.o.ds D h).1))
def OP (A:Re)(j l m p:F4)(f:∀i,i<4->A.at i≠[]):∀(k:Nat),k<=4->∀(Bs b d c:Nat)(S:Nat->Prop)(a:Option Addr)(es:List Tq)(w:y6),es.length<=10->
  (∀e,e∈es->∀i s,i<4->s∈e.A.at i->s.1<=10000000000/\s.2<=10000000000)->(∀W,Fr S w W->IC W Bs b d (4-k) A j l m p a c es)->
  GO z7 212 #[H (O ⟨Bs,0,U⟩),H (O ⟨b,0,U⟩),H (O ⟨d,0,U⟩)] Ay S (X9 A k es) w
 |0,_,Bs,b,d,c,S,a,es,w,_,_,h=>Az Bs b d es.length c S a w (fun W g=>⟨(h W g).s,(h W g).o⟩)
 |k+1,hk,Bs,b,d,c,S,a,es,w,hl,hb,h=>by
  refine DK k (4-(k+1)) z Bs b d c S A j l m p a es w hl (f _ z) (fun e q s r=>hb e q _ s z r) h (fun n Bs b d c S a w t=>?_);refine OP A j l m p f k z Bs b d c S a _ w (y5 (GH _ _ _) hl) (fun e q=>hb e (k0.1 q).1) (fun W g=>?_);rw[show 4-k=4-(k+1)+1 from z];exact t W g
attribute [local go_sem] Oper.semAt_some
def zk {w a b c d}(h:a=((w.alloc b).alloc c).alloc d):a.heap.size=w.heap.size+3/\a.heap[w.heap.size]?=O b/\a.heap[w.heap.size+1]?=O c/\a.heap[w.heap.size+1+1]?=O d/\F0 w a:=by
 subst h;refine⟨y,?_,?_,?_,((Zo.alloc _).alloc _).alloc _⟩
 ·exact(((Fr.refl (fun _=>False) _).alloc _).alloc _).whole (aN w _) y
 ·exact((Fr.refl (fun _=>False) _).alloc _).whole (by have:=aN (w.alloc b) c;simpa using this)
 have:=aN ((w.alloc b).alloc c) d
 simpa using this
def P3 (A:Re)(b d f g a n c w):
  y9 z7 113 #[q5 #[Xy b A.s0,Xy d A.s1,Xy f A.s2,Xy g A.s3],Z a n c] w fun e h=>∃B,e=y4 (.func (.func 212) #[] #[H (O ⟨B,0,U⟩),H (O ⟨B+1+1,0,U⟩),H (O ⟨B+1,0,U⟩)])/\w.heap.size<=B/\h.heap.size=B+3/\h.heap[B]?=O (E #[V Y ((0:Nat):Int)] 3)/\h.heap[B+1]?=O (E #[Xy b A.s0,Xy d A.s1,Xy f A.s2,Xy g A.s3] 215)/\h.heap[B+1+1]?=O (E #[Z a n c] 217)/\F0 w h:=by
 have p:F (∀W,y9 z7 172 #[V Y 0,q5 #[Z b.a A.s0.length b.c,Z d.a A.s1.length d.c,Z f.a A.s2.length f.c,Z g.a A.s3.length g.c],Z a n c] W fun e h=>e=y4 (.func (.func 212) #[] #[H (O ⟨W.heap.size,0,U⟩),H (O ⟨W.heap.size+1+1,0,U⟩),H (O ⟨W.heap.size+1,0,U⟩)])/\h=((W.alloc (E #[V Y ((0:Nat):Int)] 3)).alloc (E #[Xy b A.s0,Xy d A.s1,Xy f A.s2,Xy g A.s3] 215)).alloc (E #[Z a n c] 217)):=fun W=>GL 0 A b d f g a n c W
 unfold Xy;go_enter func113,ntmps113
 go_wp2_with (go_at_call 172;refine(p.o _).mono ?_)
 rintro e h ⟨rfl,q⟩;obtain⟨t1,i,j,k,r⟩:=zk q;have l:F (w.heap.size<=(w.alloc (E #[Z b.a A.s0.length b.c,Z d.a A.s1.length d.c,Z f.a A.s2.length f.c,Z g.a A.s3.length g.c] 215)).heap.size/\F0 w (w.alloc (E #[Z b.a A.s0.length b.c,Z d.a A.s1.length d.c,Z f.a A.s2.length f.c,Z g.a A.s3.length g.c] 215))):=⟨aA,Zo.alloc _⟩;generalize w.alloc _=s at*;obtain⟨B,m⟩:=ad s.heap.size;rw[m]at t1 i j k l;rw[m];have t:=o t1;have u:=o i;have v:=o j;have x:=o k;have y:=o r;clear p q t1 i j k r m;go_wp2;go_ret;exact⟨B,rfl,l.o.1,t.o,u.o,v.o,x.o,l.o.2.trans y.o⟩
def DL (A:Re)(a:List Tq):Bool:=(X9 A 4 a).any fun y=>y.2==0
def Fq {A}(c:∀a s,s∈A.at a->s.1<=s.2)(b):DL A b=true↔∃p,V8 A 4 p=true/\∀e,e∈b->V8 e.A 4 p=false:=by
 rw[<-Av c];unfold DL;simp
attribute [local go_sem] Oper.semAt_some
def CX (b c d e a f g j i):(Qt b c d e a f g j).at i≠[]:=by
 have h:∀(l:List Nat)(m:Nat),Yp l m≠[]:=fun l m=>by
  unfold Yp
  split
  ·simp
  rename_i h;simpa using h
 unfold Qt Re.at
 split
 ·simp
 ·exact h _ _
 ·simp
 exact h _ _
def Fs (w nm rk z C j ma mc q d J L ca cc r dc ch pa pn pc ah a c I)(hd:z<=6)(n0:C<=j)(o0:j<1000000)(hm:Zv w ma q)(p0:q.length<=10)(hc:Zv w ca r)(q0:r.length<=10)(he:V5 w a I)(hl:I.length<=10)(hb:∀e,e∈I->∀i s,i<4->s∈e.A.at i->s.1<=10000000000/\s.2<=10000000000):
  y9 z7 180 #[F3 nm rk z C j ma q.length mc d J L ca r.length cc dc ch pa pn pc ah,Z a I.length c] w fun e w'=>e=y4 (X (DL (Qt z C j q d J L r) I))/\F0 w w':=by
 obtain⟨w0,l⟩:=ad ((w.alloc (Kh nm rk z C j ma q.length mc d J L ca r.length cc dc ch pa pn pc ah)).alloc (E #[X false] 4));obtain⟨P,hP⟩:=ad w.heap.size
 have M:F (F0 w w0):=by show Fr _ _ _;rw[<-l];exact(Zo.alloc _).alloc _
 have M0:w0.heap.size=P+2:=by rw[<-l,<-hP];simp
 have d0:F (w0.heap[P]?=O (Kh nm rk z C j ma q.length mc d J L ca r.length cc dc ch pa pn pc ah)):=by
  show _=_
  rw[<-l,<-hP];exact((Fr.refl (fun _=>False) _).alloc _).whole (aN w _)
 have r0:F (w0.heap[P+1]?=O (E #[X false] 4)):=by
  show _=_
  rw[<-l,<-hP];have:=aN (w.alloc (Kh nm rk z C j ma q.length mc d J L ca r.length cc dc ch pa pn pc ah)) (E #[X false] 4)
  simpa using this
 have e0:=Za (Lq w0 nm rk z C j ma mc q d J L ca cc r dc ch pa pn pc ah hd n0 o0 (hm.fr M.o) p0 (hc.fr M.o) q0);have t0:=Za (CX z C j q d J L r);have HE:=Za he;have HL:=Za hl;have v0:=Za hb;generalize Qt z C j q d J L r=A at*;obtain⟨n1,f0⟩:=ad q.length;obtain⟨n2,g0⟩:=ad r.length;obtain⟨n3,h0⟩:=ad I.length;have y0:=Za h0;rw[f0,g0]at d0 e0 l;rw[f0,g0,h0];unfold Kh at d0 l;unfold F3 at e0 ⊢;obtain⟨c0,c1,c2,c3,c4,c5,c6,c7,c8,c9,N0,O0,P0,Q0⟩:=Z0 d0.o;have A0:=Za hP;refine(callsIn_wide (n:=5)).1 ?_;refine callsIn_of_wp_marks func180 rfl trivial ?_ rfl;simp only[ntmps180,g7,g9,p4,p7,k8,Array.replicate_succ,Array.replicate_zero,j4,q8,j9,j6];refine(wpIn_wide (n:=5)).2 (wg ?_);go_upto_region 1 with fail
 go_wp2_with (go_at_call 114;refine e0.o.mono ?_)
 rintro e w1 ⟨⟨x0,x1,x2,x3,N,rfl,rfl,B0,C0⟩,D0⟩;have i0:=Za (P3 N x0 x1 x2 x3 a n3 c w1);have E0:=Za B0;have G0:=Za C0;have Q:=Za D0;unfold Xy at i0 ⊢
 go_wp2_with (go_at_call 113;refine i0.o.mono ?_)
 rintro e f ⟨B,rfl,hB,I0,b0,b1,b2,J0⟩;have HB:=Za hB;have K0:=Za I0;have H0:=Za b0;have H1:=Za b1;have H2:=Za b2;have t:=Za J0;go_wp2_with fail;generalize g6 #[G nm,V Y rk,V Y z,V Y C,V Y j,Z ma n1 mc,X d,V Y J,V Y L,Z ca n2 cc,X dc,X ch,Z pa pn pc,V Y ah]=RV;generalize g6 #[Z x0.a N.s0.length x0.c,Z x1.a N.s1.length x1.c,Z x2.a N.s2.length x2.c,Z x3.a N.s3.length x3.c]=AV;have e1:=A0.o;have e2:=Q.o.size;have e3:=t.o.size;have e4:=HB.o;have e5:=K0.o;have o2:=(Q.o.trans t.o).whole r0.o
 have a0:GO z7 212 #[H (O ⟨B,0,U⟩),H (O ⟨B+1+1,0,U⟩),H (O ⟨B+1,0,U⟩)] Ay (TD (fun k=>k=P+1) f.heap.size) (X9 N 4 I) f:=by
  have nR:∀i,i≠P+1->i<B+3->¬TD (fun k=>k=P+1) f.heap.size i:=by
   rintro i h1 h2 (h|h|h)<;>omega
  refine OP N x0 x1 x2 x3 (fun i _=>t0.o i) 4 (z6 _) B (B+1+1) (B+1) c _ a I f HL.o v0.o (fun W u=>?_);have ba:=u.whole H1.o (nR _ az az);refine⟨bC (u.whole H0.o (nR _ az az)) 0 _ rfl,?_,Zc ba 0,Zc ba 1,Zc ba 2,Zc ba 3,?_,?_⟩
  ·rw[y0.o];exact bC (u.whole H2.o (nR _ az az)) 0 _ rfl
  ·refine(E0.o.fr t.o).frS u (fun x hx g o e R0=>?_);have h1:=(G0.o x hx g o e).1;rintro(h|h|h)
   ·omega
   ·omega
   omega
  refine HE.o.old ((((M.o.trans Q.o).trans t.o).mono (fun _ h=>h.elim)).trans (u.mono ?_))
  rintro k (h|h|h)<;>(show _<=k;omega)
 obtain⟨xs,j0⟩:=ad (X9 N 4 I);rw[j0]at a0
 have k0:F (DL N I=xs.any fun y=>y.2==0):=by show _=_;rw[<-j0];rfl
 have v:F (P+1<f.heap.size):=by show _<_;omega
 have R:=Za ((M.o.trans Q.o).trans t.o);have l0:F (w.heap.size<=P+1):=aS;refine(wpIn_wide (n:=2)).1 ?_;refine OC (n:=0) (S:=fun k=>k=P+1) rfl (enters_of func212 aC rfl) a0 Zo (fun _=>rfl) (by rintro k rfl;exact v.o)
  (fun b W=>(∀y,y∈b->y.2≠0)/\(W.heap[P+1]?=O (E #[X false] 4)/\Fr (fun k=>k=P+1) f W)) (fun co b W=>(co=.ret/\∃y,y∈b/\y.2=0)/\(W.heap[P+1]?=O (E #[X true] 4)/\Fr (fun k=>k=P+1) f W))
  (YK.and (YK.pure (fun(b:List (Qb×Nat))=>∀y,y∈b->y.2≠0)) (YK.and (YK.block v.o) (YK.fr (z6 _)))) (fun co=>YK.and (YK.pure (fun(b:List (Qb×Nat))=>co=.ret/\∃y,y∈b/\y.2=0)) (YK.and (YK.block v.o) (YK.fr (z6 _)))) ⟨aA,o2,Zo⟩
  (fun x _ a' _=>a'={tmps:=#[RV,Z a n3 c,H (O ⟨P,0,U⟩),undef,H (O ⟨P+1,0,U⟩),undef,V Y (x.2:Nat),RV,AV,Z a n3 c,.func (.func 212) #[] #[H (O ⟨B,0,U⟩),H (O ⟨B+1+1,0,U⟩),H (O ⟨B+1,0,U⟩)],Jw x.1,V Y (x.2:Nat),undef,undef],defers:=[]})
  (fun x m a' s W W' S0 hs hg hr=>hs) ?assign ?body ?done ?_
 case assign=>
  rintro b x W K hp j hK;unfold Ay
  gi_wp2
  exact hK _ _ Zo j rfl
 case body=>
  rintro b x m a' W hp hm ⟨j,ho,u⟩ rfl;have HI:=Za j;have HF:=Za u;have HO:=Za ho;have z0:=Zc ho 0;have z1:=bF ho 0;by_cases hx:x.2=0
  ·have hz:((x.2:Int)==0)=true:=by simp[hx]
   have HX:=Za hx
   gi_wp2
   refine⟨Zo.setCell (p:=⟨P+1,0,U⟩) (.inl (.inl rfl)) _,⟨rfl,x,aA,HX.o⟩,heap_setCell_same W (P+1) 0 _ _ _ HO.o,HF.o.setCell (p:=⟨P+1,0,U⟩) (.inl rfl) _⟩
  have hz:((x.2:Int)==0)=false:=aF;have HX:=Za hx
  gi_wp2
  refine⟨Zo,fun y hy=>?_,HO.o,HF.o⟩;rcases q3.1 hy with hy|hy
  ·exact HI.o y hy
  rw[z8.1 hy];exact HX.o
 case done=>
  rintro W ⟨j,ho,u⟩ hD;have HI:=Za j;have HF:=Za u;have HO:=Za ho;have HD:=Za hD;have z0:=Zc ho 0;have z1:=bF ho 0;go_wp2_with fail;have f1:Fr (fun k=>k=P+1) f (W.setCell ⟨P+1,0,U⟩ (X false)):=HF.o.setCell (p:=⟨P+1,0,U⟩) (.inl rfl) _;have o1:=heap_setCell_same W (P+1) 0 _ _ (X false) HO.o;have m0:P+1≠f.heap.size:=aj v.o;have d1:(W.setCell ⟨P+1,0,U⟩ (X false)).heap[f.heap.size]?=O (.deferred (O [])):=((Fr.refl (fun k=>k=P+1) W).setCell (p:=⟨P+1,0,U⟩) (.inl rfl) _).whole HD.o (fun e=>m0 e.symm);refine Vg [f.heap.size] _ aA (fun D h=>by rw[z8.1 h];exact d1) ?_;have o3:((W.setCell ⟨P+1,0,U⟩ (X false)).putObj f.heap.size (.deferred U)).heap[P+1]?=O (E #[X false] 4):=(y8 az).trans o1;refine⟨X false,?_,?_,?_⟩
  ·have c3:=Zc o3 0
   show(results _ _).run _ ((W.setCell ⟨P+1,0,U⟩ (X false)).putObj f.heap.size (.deferred U))=_
   simp[results,results180,go_sem,c3];rfl
  ·rw[k0.o]
   congr 2
   symm
   rw[List.any_eq_false];intro y hy;have:=HI.o y hy;simp[this]
  exact R.o.monoNew (f1.mono (T:=fun k=>k=P+1\/k=f.heap.size) (fun _ h=>.inl h)|>.trans (QU (.inr rfl) _)) (fun k h=>.inr (ak l0.o R.o.size))
 rintro co b W hp ⟨⟨rfl,y,hy,L0⟩,ho,u⟩ hD;have HF:=Za u;have HO:=Za ho;have HD:=Za hD;have HP:=Za hp;have HY:=Za (show y∈b/\y.2=0 from⟨hy,L0⟩)
 gi_wp2
 have m0:P+1≠f.heap.size:=aj v.o;refine Vg [f.heap.size] _ aA (fun D h=>by rw[z8.1 h];exact HD.o) ?_;have o3:(W.putObj f.heap.size (.deferred U)).heap[P+1]?=O (E #[X true] 4):=(y8 az).trans HO.o;refine⟨X true,?_,?_,?_⟩
 ·have c3:=Zc o3 0
  show(results _ _).run _ (W.putObj f.heap.size (.deferred U))=_
  simp[results,results180,go_sem,c3];rfl
 ·rw[k0.o]
  congr 2
  symm
  rw[List.any_eq_true];exact⟨y,HP.o.subset HY.o.1,by simp[HY.o.2]⟩
 exact R.o.monoNew (HF.o.mono (T:=fun k=>k=P+1\/k=f.heap.size) (fun _ h=>.inl h)|>.trans (QU (.inr rfl) _)) (fun k h=>.inr (ak l0.o R.o.size))
structure Tt (r:Ze):Prop where
 m4:r.mcc.length<=4
 mx:∀x,x∈r.mcc->x<=9999
 c4:r.cur.length<=4
 cx:∀x,x∈r.cur->x<=999
 am:∀ab,r.am=O ab->ab.1<=ab.2
def LX {a:Nat}:∀(l:List Tk)(i:Nat)(b:List Nat),i<=4->Zq a i l=.ok b->i+b.length<=4/\∀x,x∈b->x<=a
 |[],i,b,hi,h=>by
  simp only[Zq]at h;injection h with h;subst h;exact⟨by simpa using hi,y⟩
 |t::r,i,b,hi,h=>by
  simp only[Zq]at h
  split at h
  ·cases h
  split at h
  ·cases h
  rename_i j k
  cases c:Zq a (i+1) r with
  |error f=>rw[c]at h;cases h
  |ok e=>
   rw[c]at h;injection h with h;subst h;obtain⟨m,g⟩:=LX r (i+1) e z c;refine⟨aF,fun x d=>?_⟩;rcases p6.1 d with rfl|d
   ·omega
   exact g x d
def DM {b c e r}(h:Ya b c e=.ok r):Tt r:=by
 unfold Ya at h
 split at h
 ·cases h
 split at h
 ·cases h
 split at h
 ·cases h
 split at h
 ·cases h
 split at h
 ·cases h
 split at h
 ·cases h
 cases d:Zq 9999 0 e.mcc with
 |error f=>rw[d]at h;cases h
 |ok i=>
  rw[d]at h
  dsimp only at h
  split at h
  ·cases h
  rename_i j
  cases g:Zq 999 0 e.cur with
  |error f=>rw[g]at h;cases h
  |ok k=>
   rw[g]at h
   dsimp only at h
   cases l:Zx b 0 e.act.routes with
   |error f=>rw[l]at h;cases h
   |ok p=>
    rw[l]at h;injection h with h;subst h;have m:=LX _ 0 _ z d;have n:=LX _ 0 _ z g;refine⟨by have:=m.1;dsimp only;omega,m.2,by have:=n.1;dsimp only;omega,n.2,fun q a=>?_⟩
    dsimp only at a
    cases o:e.amount with
    |none=>rw[o]at a;cases a
    |some s=>
     rw[o]at a j;simp only[Option.map_some,Option.some.injEq]at a;subst a
     simpa using j
def LY:∀(g:List VC)(a:List Zf)(b:List Ze)(p:List Zf×List Ze),(∀r,r∈b->Tt r)->ZT a b g=.ok p->∀r,r∈p.2->Tt r
 |[],a,b,p,hB,h=>by
  simp only[ZT]at h;injection h with h;subst h;exact hB
 | .route e::g,a,b,p,hB,h=>by
  cases c:ZF a e with
  |error f=>rw[YZ (f:=f) (by simp only[VD,c])]at h;cases h
  |ok t=>
   rw[Xx (p:=(a++[t],b)) (by simp only[VD,c])]at h;exact LY g (a++[t]) b p hB h
 | .rule e::g,a,b,p,hB,h=>by
  cases c:Ya a b e with
  |error f=>rw[YZ (f:=f) (by simp only[VD,c])]at h;cases h
  |ok t=>
   rw[Xx (p:=(a,b++[t])) (by simp only[VD,c])]at h;refine LY g a (b++[t]) p (fun r d=>?_) h;rcases q3.1 d with d|d
   ·exact hB r d
   simp at d;subst d;exact DM c
def Ft {s p}(h:Xc s=.ok p):∀r,r∈p.2->Tt r:=by
 unfold Xc at h
 split at h
 ·cases h
 cases a:ZN s 0 1 []with
 |error l=>rw[a]at h;cases h
 |ok c=>
  rw[a]at h
  dsimp only at h
  cases b:Zs c 0 []with
  |error l=>rw[b]at h;cases h
  |ok d=>
   rw[b]at h;exact LY _ [] [] p y h
def vy (r:Ze)(a:Option Addr)(b:Nat)(c:Option Addr)(d:Nat)(e:Option Addr)(f:Nat):Array j5:=#[G r.name,V Y r.rank,V Y r.digits,V Y r.lo,V Y r.hi,Z a r.mcc.length b,X r.am.isSome,V Y (r.am.getD (0,0)).1,V Y (r.am.getD (0,0)).2,Z c r.cur.length d,X r.decline,X r.cheapest,Z e r.routes.length f,V Y r.ahead]
def Ug (r:Ze):Re:=Qt r.digits r.lo r.hi r.mcc r.am.isSome (r.am.getD (0,0)).1 (r.am.getD (0,0)).2 r.cur
def LZ {l m s}(h:s∈Yp l m):(l=[]/\s=(0,m))\/∃n,n∈l/\s=(n,n):=by
 unfold Yp at h
 split at h
 ·rename_i e;exact .inl ⟨e,by simpa using h⟩
 obtain⟨n,a,rfl⟩:=List.mem_map.1 h;exact .inr ⟨n,a,rfl⟩
def Q5 {n r}(h:Ts n r)(b:Tt r)(i s)(a:s∈(Ug r).at i):s.1<=s.2/\s.1<=10000000000/\s.2<=10000000000:=by
 have d:∀(l:List Nat)(m:Nat),m<=10000->(∀x,x∈l->x<=m)->s∈Yp l m->s.1<=s.2/\s.1<=10000000000/\s.2<=10000000000:=fun l m p g h=>by
  rcases LZ h with⟨_,rfl⟩|⟨n,j,rfl⟩
  ·exact⟨y,y,aO⟩
  have:=g n j;exact⟨z6 _,aO,aO⟩
 unfold Ug Qt Re.at at a
 split at a
 ·simp only[z8]at a;subst a;obtain⟨k,e,o⟩:=h.bn;unfold WW;have c:0<10^(6-r.digits):=p9 aB
  have q:10^r.digits*10^(6-r.digits)=1000000:=by rw[<-b3,show r.digits+(6-r.digits)=6 from z]
  have t:=q7 (10^(6-r.digits)) o;have u:=q7 (10^(6-r.digits)) (show r.hi+1<=10^r.digits from e)
  have v:(r.hi+1)*10^(6-r.digits)=r.hi*10^(6-r.digits)+10^(6-r.digits):=by rw[b4,b5]
  dsimp only
  omega
 ·exact d _ _ z b.mx a
 ·simp only[z8]at a;subst a
  cases c:r.am with
  |none=>simp
  |some f=>
   have k:=b.am f c;have e:=h.am f c;simp;omega
 exact d _ _ z b.cx a
def sZ (w:y6)(d:Option Addr)(a:List Ze):Prop:=∀j r,a[j]?=O r->∃g b e c f h i,d=O ⟨g,0,U⟩/\
 (∀o v,[j7 r.name,V Y r.rank,V Y r.digits,V Y r.lo,V Y r.hi,Z b r.mcc.length e,X r.am.isSome,V Y (r.am.getD (0,0)).1,V Y (r.am.getD (0,0)).2,Z c r.cur.length f,X r.decline,X r.cheapest,Z h r.routes.length i,V Y r.ahead][o]?=O v->w.cell? ⟨g,j*14+o,U⟩=O v)/\
 Zv w b r.mcc/\Zv w c r.cur
def sZ.fr {w w' c a}(h:sZ w c a)(b:F0 w w'):sZ w' c a:=by
 intro j r i;obtain⟨g,k,l,m,n,q,s,e,d,t,u⟩:=h j r i;exact⟨g,k,l,m,n,q,s,e,fun o v f=>(b.cell (p:=⟨g,j*14+o,U⟩) (bL w _ (d o v f))).trans (d o v f),t.fr b,u.fr b⟩
def Bk.rules {w B k f d a l}(h:Bk w B k f d a l):∃b c,f=Z b a.length c/\sZ w b a:=by
 obtain⟨b,c,e⟩:=oL h.lo;refine⟨b,c,e,fun j r m=>?_⟩;obtain⟨g,z,n,o,p,q,s,t,i,_,_,u,v,x,_⟩:=h.rule m;rw[e]at i;injection i with y A C;exact⟨g,n,o,p,q,s,t,y,u,Zv.of v,Zv.of x⟩
def zm (a:List Ze)(b j:Nat):Bool:=match a[j]?,a[b]? with
 |some r,O q=>decide (q.rank<r.rank)||(decide (r.rank=q.rank)&&decide (j<b))
 |_,_=>false
def Ur (a:List Ze)(b:Nat):Nat->List Re
 |0=>[]
 |k+1=>Ur a b k++(match a[k]? with|some r=>if zm a b k then[Ug r]else[]|none=>[])
def P4 (a:List Ze)(b:Nat):∀k,(Ur a b k).length<=k
 |0=>z6 _
 |k+1=>by
  have:=P4 a b k;unfold Ur;rw[lA]
  split
  ·split<;>simp<;>omega
  simp;omega
def P5 (a:List Ze)(f:Nat)(A:Re):∀k,A∈Ur a f k↔∃j r,j<k/\a[j]?=O r/\zm a f j=true/\A=Ug r
 |0=>by simp[Ur]
 |k+1=>by
  have g:=P5 a f A k;unfold Ur;rw[q3,g]
  constructor
  ·rintro(⟨j,r,i,b,c,d⟩|h)
   ·exact⟨j,r,z,b,c,d⟩
   split at h
   ·rename_i r l
    split at h
    ·rename_i m;exact⟨k,r,z,l,m,by simpa using h⟩
    cases h
   cases h
  rintro⟨j,r,i,b,c,d⟩;by_cases e:j<k
  ·exact .inl ⟨j,r,e,b,c,d⟩
  obtain rfl:j=k:=z
  right
  rw[b];simp[c,d]
def rb (w:y6)(A:Re)(e:Ending)(h:y6):Prop:=(∃b d f g,e=y4 (q5 #[Z b.a A.s0.length b.c,Z d.a A.s1.length d.c,Z f.a A.s2.length f.c,Z g.a A.s3.length g.c])/\Oz h A b d f g/\TC w.heap.size h.heap.size b d f g)/\F0 w h
def R5 (w r n b d c f g h)(a:Ts n r)(i:Tt r)(j:Zv w b r.mcc)(k:Zv w c r.cur):
  y9 z7 114 #[q5 #[G r.name,V Y r.rank,V Y r.digits,V Y r.lo,V Y r.hi,Z b r.mcc.length d,X r.am.isSome,V Y (r.am.getD (0,0)).1,V Y (r.am.getD (0,0)).2,Z c r.cur.length f,X r.decline,X r.cheapest,Z g r.routes.length h,V Y r.ahead]] w (rb w (Ug r)):=by
 refine(Lq w r.name r.rank r.digits r.lo r.hi b d r.mcc r.am.isSome (r.am.getD (0,0)).1 (r.am.getD (0,0)).2 c f r.cur r.decline r.cheapest g r.routes.length h r.ahead a.bn.1 a.bn.2.2 (nL a.bn.2.1 (vU a.bn.1)) j (y5 i.m4 aB) k (y5 i.c4 aB)).mono ?_;rintro e u ⟨⟨l,m,o,p,A,rfl,rfl,q,s⟩,t⟩;exact⟨⟨l,m,o,p,rfl,q,s⟩,t⟩
structure Q6 (w:y6)(ov:j5)(As:List Re)(es:List Tq)(wr:y6):Prop where
 ar:es.map Tq.A=As
 ro:wr.ownsRow w.heap.size 215 4 ov es.length (Vp es)
 ok:∀e,e∈es->e.ok wr/\∀x,x=e.x0\/x=e.x1\/x=e.x2\/x=e.x3->∀g o,x.a=O ⟨g,o,U⟩->g<wr.heap.size/\ov.ownBlock≠O g
 fr:F0 w wr
def Q6.more {w wr a d f es}(h:Q6 w d f es wr)(b:F0 wr a):Q6 w d f es a:=
 ⟨h.ar,oF h.ro b y,fun e c=>⟨(h.ok e c).1.fr b,fun x i g o j=>⟨nL ((h.ok e c).2 x i g o j).1 b.size,((h.ok e c).2 x i g o j).2⟩⟩,h.fr.trans b⟩
def Q6.app {w wr i B r s t L p A j l m n g2 d}(h:Q6 w (Z r s t) L p wr)(M:F0 wr i)(G:Oz i A j l m n)(q:TC wr.heap.size i.heap.size j l m n)(u:B.ownsRow w.heap.size 215 4 (Z (O ⟨g2,0,U⟩) (p.length+1) d) (p.length+1) (Vp p++PN ⟨A,j,l,m,n⟩))(f:(i.alloc (E #[Xy j A.s0,Xy l A.s1,Xy m A.s2,Xy n A.s3] 215)).grownBy B (y7 r s t).ownBlock)(H:(y7 r s t).ownBlock=O g2\/(i.alloc (E #[Xy j A.s0,Xy l A.s1,Xy m A.s2,Xy n A.s3] 215)).heap.size<=g2):
  Q6 w (Z (O ⟨g2,0,U⟩) (p.length+1) d) (L++[A]) (p++[⟨A,j,l,m,n⟩]) B:=by
 have I:=h.more M;have C:Fr (fun k=>(y7 r s t).ownBlock=O k) i B:=(Zo.alloc _).grown f (fun k J=>.inl J);have N:i.heap.size<(i.alloc (E #[Xy j A.s0,Xy l A.s1,Xy m A.s2,Xy n A.s3] 215)).heap.size:=aA
 have v:∀g,g<i.heap.size->(y7 r s t).ownBlock≠O g->(y7 (O ⟨g2,0,U⟩) (p.length+1) d).ownBlock≠O g:=by
  intro g Q K e
  have b:g2=g:=by simpa[p5]using e
  subst b;rcases H with D|D
  ·exact K D
  omega
 refine⟨by simp[h.ar],?_,fun e y=>?_,(I.fr.alloc _).grown f (fun k J=>.inr (I.ro.lt k J).1)⟩
 ·rw[Ng,lA];exact u
 rcases q3.1 y with y|y
 ·obtain⟨D,F⟩:=I.ok e y;exact⟨Oz.frS D C (fun x c g o b _=>(F x c g o b).2),fun x c g o b=>⟨nL (F x c g o b).1 C.size,v g (F x c g o b).1 (F x c g o b).2⟩⟩
 rw[z8.1 y]
 have z:∀x,x=j\/x=l\/x=m\/x=n->∀g o,x.a=O ⟨g,o,U⟩->(y7 r s t).ownBlock≠O g:=fun x c g o b P=>by
  have:=(h.ro.lt g P).2;have:=(q x c g o b).1;omega
 exact⟨Oz.frS G C (fun x c g o b _=>z x c g o b),fun x c g o b=>⟨nL (q x c g o b).2 C.size,v g (q x c g o b).2 (z x c g o b)⟩⟩
def DN (w va c N f d nr)(h:sZ w va d)(hN:d.length=N)(h8:N<=8)(y0:f<N)(z0:∀r,r∈d->Ts nr r/\Tt r):
  y9 z7 181 #[Z va N c,V Y (f:Nat)] w fun e w'=>(∃a cc t,e=y4 (Z a t.length cc)/\t.map Tq.A=Ur d f N/\V5 w' a t)/\F0 w w':=by
 have HR:=Za h;have HN:=Za hN;have q0:=Za z0;have H0:=af f N;have A0:=Za y0;go_enter func181,ntmps181;go_wp2
 go_loopg [5,10] N (fun m ov iv wr=>∃k t,k<=N/\m=N-k/\iv=V Y (k:Nat)/\F (Q6 w ov (Ur d f k) t wr))
 case atStart=>exact⟨0,[],az,rfl,rfl,rfl,oZ _ _ _ _,aA,Fr.refl _ _⟩
 obtain⟨k,t,hk,rfl,rfl,s⟩:=hrel;by_cases I0:k<N
 ·have B0:=af k N;obtain⟨oa,oc,ho⟩:=oL s.o.ro;subst ho;obtain⟨r,hr⟩:∃r,d[k]?=O r:=⟨_,gE (show k<d.length by have:=HN.o;omega)⟩;obtain⟨q,hq⟩:∃q,d[f]?=O q:=⟨_,gE (show f<d.length by have:=HN.o;have:=A0.o;omega)⟩;obtain⟨g,ma,mc,ca,cc,pa,pc,ea,K,h1,h2⟩:=(HR.o.fr s.o.fr) k r hr;obtain⟨g',_,_,_,_,_,_,r0,C0,_,_⟩:=(HR.o.fr s.o.fr) f q hq
  have eg:g'=g:=by rw[ea]at r0;injection r0 with e;injection e with e;exact e.symm
  subst eg ea;have p1:=C0 1 _ rfl;have v0:=K 0 _ rfl;have v1:=K 1 _ rfl;have v2:=K 2 _ rfl;have v3:=K 3 _ rfl;have v4:=K 4 _ rfl;have v5:=K 5 _ rfl;have v6:=K 6 _ rfl;have v7:=K 7 _ rfl;have v8:=K 8 _ rfl;have v9:=K 9 _ rfl;have J0:=K 10 _ rfl;have K0:=K 11 _ rfl;have L0:=K 12 _ rfl;have M0:=K 13 _ rfl;rw[j8]at v0;have t0:=Za h1;have w0:=Za h2;have D:=Za hr;have D0:=Za hq;go_upto_region 5 with fail;obtain⟨l,u⟩:=WM wr (E #[G r.name,V Y r.rank,V Y r.digits,V Y r.lo,V Y r.hi,Z ma r.mcc.length mc,X r.am.isSome,V Y (r.am.getD (0,0)).1,V Y (r.am.getD (0,0)).2,Z ca r.cur.length cc,X r.decline,X r.cheapest,Z pa r.routes.length pc,V Y r.ahead] 120);generalize wr.alloc _=W at*;obtain⟨Q,hQ⟩:=ad wr.heap.size;rw[hQ]at u;rw[hQ];have HQ:=Za hQ;have p2:=(l.o.cell (p:=⟨g',f*14+1,U⟩) (bL wr _ p1) aA).trans p1;obtain⟨c0,c1,c2,c3,c4,c5,c6,c7,c8,c9,v,y,z,B⟩:=Z0 u.o;obtain⟨b,hb⟩:=ad (zm d f k)
  have L:(decide (q.rank<r.rank)||(decide (r.rank=q.rank)&&decide (k<f)))=b:=by rw[<-hb];unfold zm;rw[D.o,D0.o]
  have HB:=Za hb;clear hb;by_cases g1:q.rank<r.rank
  ·have d1:decide (q.rank<r.rank)=true:=by simp[g1]
   have eb:b=true:=by rw[<-L];simp[g1]
   subst eb
   go_quiet (fail)
   have i:F (F0 wr (W.drewN nq)):=l.o.trans ⟨rfl,rfl,rfl,z6 _,fun _ _ _=>rfl⟩;have k0:F ((W.drewN nq).heap[Q]?=O (E #[G r.name,V Y r.rank,V Y r.digits,V Y r.lo,V Y r.hi,Z ma r.mcc.length mc,X r.am.isSome,V Y (r.am.getD (0,0)).1,V Y (r.am.getD (0,0)).2,Z ca r.cur.length cc,X r.decline,X r.cheapest,Z pa r.routes.length pc,V Y r.ahead] 120)):=u.o;clear p2 c0 c1 c2 c3 c4 c5 c6 c7 c8 c9 v y z B u l;generalize W.drewN nq=w2 at*;obtain⟨c0,c1,c2,c3,c4,c5,c6,c7,c8,c9,v,y,z,B⟩:=Z0 k0.o;have a0:=q0.o r (mG D.o);have b0:=Za (R5 w2 r nr ma mc ca cc pa pc a0.1 a0.2 (t0.o.fr i.o) (w0.o.fr i.o aA))
   go_wp2_with (go_at_call 114;refine b0.o.mono ?_)
   rintro e w5 ⟨⟨M,P,R,S,rfl,d0,H⟩,e0⟩
   have HE:F (Ur d f (k+1)=Ur d f k++[Ug r]):=by
    show _=_
    conv=>lhs;unfold Ur;rw[D.o]
    simp[HB.o]
   generalize Ug r=A at*;have l0:=Za d0
   have m0:F (TC wr.heap.size w5.heap.size M P R S):=fun x hx g o e=>⟨y5 i.o.size (H x hx g o e).1,(H x hx g o e).2⟩
   have I:=Za (i.o.trans e0);have f0:=Za (s.o.more I.o).ro;obtain⟨T,n⟩:=ad t.length
   have E0:T<=8:=by
    have h1:=congrArg j2 s.o.ar;have h2:=P4 d f k;rw[q4]at h1;omega
   have g0:=Za n;rw[n]at f0;rw[n];clear d0 H e0 b0 c0 c1 c2 c3 c4 c5 c6 c7 c8 c9 v y z B n
   go_wp2_with (at_builtin;refine ao w.heap.size Qq underlying217 (Z oa T oc) T (Vp t) ?h1a ⟨w5.heap.size,0,U⟩ [Z M.a A.s0.length M.c,Z P.a A.s1.length P.c,Z R.a A.s2.length R.c,Z S.a A.s3.length S.c] ?h2a ?_ (k4:=?h6a))
   case h1a=>exact f0.o.alloc _
   case h2a=>exact q2 (aN w5 (E #[Z M.a A.s0.length M.c,Z P.a A.s1.length P.c,Z R.a A.s2.length R.c,Z S.a A.s3.length S.c] 215))
   case h6a=>have:=I.o.size;have:=s.o.fr.size;simp;omega
   intro g2 h0 w8 C j i0 _
   have J:F (Q6 w (Z (O ⟨g2,0,U⟩) (T+1) h0) (Ur d f (k+1)) (t++[⟨A,M,P,R,S⟩]) w8):=by
    show Q6 _ _ _ _ _
    rw[HE.o,<-g0.o];rw[<-g0.o]at C j i0;exact s.o.app I.o l0.o m0.o C j (i0.imp id (fun e=>by rw[e];simp))
   go_wp2;go_roundg (N-(k+1))
   case measure=>omega
   exact⟨k+1,_,az,rfl,aE,J⟩
  have d1:decide (q.rank<r.rank)=false:=by simp[g1]
  by_cases g2:r.rank=q.rank
  ·have d2:((r.rank:Int)==(q.rank:Int))=true:=by simp[g2]
   have d3:decide (r.rank=q.rank)=true:=by simp[g2]
   by_cases g3:k<f
   ·have d4:decide (k<f)=true:=by simp[g3]
    have eb:b=true:=by rw[<-L];simp[g2,g3]
    subst eb;clear L g1 g2 g3
    go_quiet (fail)
    have i:F (F0 wr (W.drewN nq)):=l.o.trans ⟨rfl,rfl,rfl,z6 _,fun _ _ _=>rfl⟩;have k0:F ((W.drewN nq).heap[Q]?=O (E #[G r.name,V Y r.rank,V Y r.digits,V Y r.lo,V Y r.hi,Z ma r.mcc.length mc,X r.am.isSome,V Y (r.am.getD (0,0)).1,V Y (r.am.getD (0,0)).2,Z ca r.cur.length cc,X r.decline,X r.cheapest,Z pa r.routes.length pc,V Y r.ahead] 120)):=u.o;clear p2 c0 c1 c2 c3 c4 c5 c6 c7 c8 c9 v y z B u l;generalize W.drewN nq=w2 at*;obtain⟨c0,c1,c2,c3,c4,c5,c6,c7,c8,c9,v,y,z,B⟩:=Z0 k0.o;have a0:=q0.o r (mG D.o);have b0:=Za (R5 w2 r nr ma mc ca cc pa pc a0.1 a0.2 (t0.o.fr i.o) (w0.o.fr i.o aA))
    go_wp2_with (go_at_call 114;refine b0.o.mono ?_)
    rintro e w5 ⟨⟨M,P,R,S,rfl,d0,H⟩,e0⟩
    have HE:F (Ur d f (k+1)=Ur d f k++[Ug r]):=by
     show _=_
     conv=>lhs;unfold Ur;rw[D.o]
     simp[HB.o]
    generalize Ug r=A at*;have l0:=Za d0
    have m0:F (TC wr.heap.size w5.heap.size M P R S):=fun x hx g o e=>⟨y5 i.o.size (H x hx g o e).1,(H x hx g o e).2⟩
    have I:=Za (i.o.trans e0);have f0:=Za (s.o.more I.o).ro;obtain⟨T,n⟩:=ad t.length
    have E0:T<=8:=by
     have h1:=congrArg j2 s.o.ar;have h2:=P4 d f k;rw[q4]at h1;omega
    have g0:=Za n;rw[n]at f0;rw[n];clear d0 H e0 b0 c0 c1 c2 c3 c4 c5 c6 c7 c8 c9 v y z B n
    go_wp2_with (at_builtin;refine ao w.heap.size Qq underlying217 (Z oa T oc) T (Vp t) ?h1b ⟨w5.heap.size,0,U⟩ [Z M.a A.s0.length M.c,Z P.a A.s1.length P.c,Z R.a A.s2.length R.c,Z S.a A.s3.length S.c] ?h2b ?_ (k4:=?h6b))
    case h1b=>exact f0.o.alloc _
    case h2b=>exact q2 (aN w5 (E #[Z M.a A.s0.length M.c,Z P.a A.s1.length P.c,Z R.a A.s2.length R.c,Z S.a A.s3.length S.c] 215))
    case h6b=>have:=I.o.size;have:=s.o.fr.size;simp;omega
    intro g2 h0 w8 C j i0 _
    have J:F (Q6 w (Z (O ⟨g2,0,U⟩) (T+1) h0) (Ur d f (k+1)) (t++[⟨A,M,P,R,S⟩]) w8):=by
     show Q6 _ _ _ _ _
     rw[HE.o,<-g0.o];rw[<-g0.o]at C j i0;exact s.o.app I.o l0.o m0.o C j (i0.imp id (fun e=>by rw[e];simp))
    go_wp2;go_roundg (N-(k+1))
    case measure=>omega
    exact⟨k+1,_,az,rfl,aE,J⟩
   have d4:decide (k<f)=false:=by simp[g3]
   have eb:b=false:=by rw[<-L];simp[g2,g3]
   subst eb
   go_quiet (fail)
   have i:F (F0 wr (W.drewN nq)):=l.o.trans ⟨rfl,rfl,rfl,z6 _,fun _ _ _=>rfl⟩
   have J:F (Q6 w (Z oa t.length oc) (Ur d f (k+1)) t (W.drewN nq)):=by
    show Q6 _ _ _ _ _
    have e:Ur d f (k+1)=Ur d f k:=by
     conv=>lhs;unfold Ur;rw[D.o]
     simp[HB.o]
    rw[e];exact s.o.more i.o
   clear p2 c0 c1 c2 c3 c4 c5 c6 c7 c8 c9 v y z B u l;generalize W.drewN nq=w2 at*;go_wp2;go_roundg (N-(k+1))
   case measure=>omega
   exact⟨k+1,_,az,rfl,aE,J⟩
  have d2:((r.rank:Int)==(q.rank:Int))=false:=aF
  have d3:decide (r.rank=q.rank)=false:=by simp[g2]
  have eb:b=false:=by rw[<-L];simp[g1,g2]
  subst eb;clear L g1 g2
  go_quiet (fail)
  have i:F (F0 wr (W.drewN nq)):=l.o.trans ⟨rfl,rfl,rfl,z6 _,fun _ _ _=>rfl⟩
  have J:F (Q6 w (Z oa t.length oc) (Ur d f (k+1)) t (W.drewN nq)):=by
   show Q6 _ _ _ _ _
   have e:Ur d f (k+1)=Ur d f k:=by
    conv=>lhs;unfold Ur;rw[D.o]
    simp[HB.o]
   rw[e];exact s.o.more i.o
  clear p2 c0 c1 c2 c3 c4 c5 c6 c7 c8 c9 v y z B u l;generalize W.drewN nq=w2 at*;go_wp2;go_roundg (N-(k+1))
  case measure=>omega
  exact⟨k+1,_,az,rfl,aE,J⟩
 have B0:=ai k N;have ek:k=N:=az;have G0:=Za ek;obtain⟨oa,oc,ho⟩:=oL s.o.ro;subst ho;go_wp2;go_ret;obtain⟨a',c',e1,h1,_⟩:=CL s.o.ro (fun e he=>(s.o.ok e he).1);rw[e1];refine⟨⟨a',c',t,rfl,?_,h1⟩,s.o.fr⟩;rw[s.o.ar,G0.o]
def wk (A:Re)(a:List Re):Bool:=DL A (a.map fun B=>⟨B,⟨U,0⟩,⟨U,0⟩,⟨U,0⟩,⟨U,0⟩⟩)
def Fu {A}(c:∀a s,s∈A.at a->s.1<=s.2)(b):wk A b=true↔∃p,V8 A 4 p=true/\∀B,B∈b->V8 B 4 p=false:=by
 unfold wk;rw[Fq c];simp
def uv {A}(b:∀a s,s∈A.at a->s.1<=s.2)(c):DL A c=wk A (c.map Tq.A):=by
 rw[Bool.eq_iff_iff,Fq b,Fu b];simp
def Qd (a:List Ze)(j:Nat):Bool:=match a[j]? with
 |some r=>wk (Ug r) (Ur a j a.length)
 |none=>false
def W7 (a:List Ze):Nat->List ByteArray
 |0=>[]
 |k+1=>W7 a k++(match a[k]? with|some r=>if Qd a k then[]else[r.name]|none=>[])
def L0 (a:List Ze):∀k,(W7 a k).length<=k
 |0=>z6 _
 |k+1=>by
  have:=L0 a k;unfold W7;rw[lA]
  split
  ·split<;>simp<;>omega
  simp;omega
def SY (l:List ByteArray):List j5:=l.map j7
def zn (w B va c N a nr)(hB:w.cell? ⟨B,1,U⟩=O (Z va N c))(h:sZ w va a)(hN:a.length=N)(h8:N<=8)(r0:∀r,r∈a->Ts nr r/\Tt r):
  y9 z7 140 #[H (O ⟨B,0,U⟩)] w fun e w'=>(∃v,e=y4 v/\w'.ownsRow w.heap.size 9 1 v (W7 a N).length (SY (W7 a N))/\(W7 a N=[]->v=Z U 0 0))/\F0 w w':=by
 have HR:=o h;have HN:=o hN;have e0:=o r0;have t0:=o hB;clear h hN r0;go_enter func140,ntmps140;go_wp2_with fail;clear hB
 go_loopg [3,11] N (fun m ov iv wr=>∃k,k<=N/\m=N-k/\iv=V Y (k:Nat)/\F (wr.ownsRow w.heap.size 9 1 ov (W7 a k).length (SY (W7 a k)))/\F (W7 a k=[]->ov=Z U 0 0)/\F (F0 w wr))
 case atStart=>exact⟨0,az,rfl,rfl,oZ _ _ _ _,fun _=>rfl,Zo⟩
 obtain⟨k,hk,rfl,rfl,HO,HZ,C⟩:=hrel;obtain⟨oa,oc,ho⟩:=oL HO.o;subst ho;by_cases N0:k<N
 ·have O0:=af k N;obtain⟨r,hr⟩:∃r,a[k]?=O r:=⟨_,gE (show k<a.length by have:=HN.o;omega)⟩;obtain⟨g,ma,mc,ca,cc,pa,pc,ea,f,h1,h2⟩:=(HR.o.fr C.o) k r hr;subst ea;have v0:=f 0 _ rfl;have v1:=f 1 _ rfl;have v2:=f 2 _ rfl;have v3:=f 3 _ rfl;have v4:=f 4 _ rfl;have v5:=f 5 _ rfl;have v6:=f 6 _ rfl;have v7:=f 7 _ rfl;have v8:=f 8 _ rfl;have v9:=f 9 _ rfl;have P0:=f 10 _ rfl;have Q0:=f 11 _ rfl;have R0:=f 12 _ rfl;have S0:=f 13 _ rfl;rw[j8]at v0;have T0:=o h1;have V0:=o h2;have f1:=o hr;have d:=o (e0.o r (mG hr))
  have f0:F (W7 a (k+1)=W7 a k++(if Qd a k then[]else[r.name])):=by show _=_;conv=>lhs;unfold W7;rw[hr]
  have W0:F (Qd a k=wk (Ug r) (Ur a k N)):=by show _=_;unfold Qd;rw[hr,HN.o]
  clear f h1 h2 hr;obtain⟨y,w0⟩:=WM wr (E #[G r.name,V Y r.rank,V Y r.digits,V Y r.lo,V Y r.hi,Z ma r.mcc.length mc,X r.am.isSome,V Y (r.am.getD (0,0)).1,V Y (r.am.getD (0,0)).2,Z ca r.cur.length cc,X r.decline,X r.cheapest,Z pa r.routes.length pc,V Y r.ahead] 120);go_upto_region 5 with fail;generalize wr.alloc _=w1 at*;obtain⟨Q,hQ⟩:=ad wr.heap.size;rw[hQ]at w0;rw[hQ];have HQ:=o hQ;clear v0 v1 v2 v3 v4 v5 v6 v7 v8 v9 P0 Q0 R0 S0 hQ
  have g0:F (∀W,F0 w1 W->W.heap[Q]?=O (E #[G r.name,V Y r.rank,V Y r.digits,V Y r.lo,V Y r.hi,Z ma r.mcc.length mc,X r.am.isSome,V Y (r.am.getD (0,0)).1,V Y (r.am.getD (0,0)).2,Z ca r.cur.length cc,X r.decline,X r.cheapest,Z pa r.routes.length pc,V Y r.ahead] 120)/\W.cell? ⟨B,1,U⟩=O (Z (O ⟨g,0,U⟩) N c)):=fun W hf=>
   ⟨hf.whole w0.o,(((C.o.trans y.o).trans hf).cell (p:=⟨B,1,U⟩) (bL w _ t0.o)).trans t0.o⟩
  refine wp_region_held_drew (S:=fun W=>W.heap[Q]?=O (E #[G r.name,V Y r.rank,V Y r.digits,V Y r.lo,V Y r.hi,Z ma r.mcc.length mc,X r.am.isSome,V Y (r.am.getD (0,0)).1,V Y (r.am.getD (0,0)).2,Z ca r.cur.length cc,X r.decline,X r.cheapest,Z pa r.routes.length pc,V Y r.ahead] 120)/\W.cell? ⟨B,1,U⟩=O (Z (O ⟨g,0,U⟩) N c)) n (g0.o _ Zo.drew) (fun z=>?_);refine U0 0 (v:=?v0z) ?y0z z ?r0z
  case y0z=>
   rintro w ⟨b,s1⟩;obtain⟨J,c1,K,c3,c4,c5,c6,c7,c8,c9,l,t,u,x⟩:=Z0 b;clear b;go_simp
   with_reducible rfl
  try go_frame
  refine U0 1 (v:=?v1z) ?y1z z ?r1z
  case y1z=>
   rintro w ⟨b,s1⟩;obtain⟨J,c1,K,c3,c4,c5,c6,c7,c8,c9,l,t,u,x⟩:=Z0 b;clear b;go_simp
   with_reducible rfl
  try go_frame
  refine U0 2 (v:=?v2z) ?y2z z ?r2z
  case y2z=>
   rintro w ⟨b,s1⟩;obtain⟨J,c1,K,c3,c4,c5,c6,c7,c8,c9,l,t,u,x⟩:=Z0 b;clear b;go_simp
   with_reducible rfl
  try go_frame
  refine U0 3 (v:=?v3z) ?y3z z ?r3z
  case y3z=>
   rintro w ⟨b,s1⟩;obtain⟨J,c1,K,c3,c4,c5,c6,c7,c8,c9,l,t,u,x⟩:=Z0 b;clear b;go_simp
   with_reducible rfl
  try go_frame
  refine U0 4 (v:=?v4z) ?y4z z ?r4z
  case y4z=>
   rintro w ⟨b,s1⟩;obtain⟨J,c1,K,c3,c4,c5,c6,c7,c8,c9,l,t,u,x⟩:=Z0 b;clear b;go_simp
   with_reducible rfl
  try go_frame
  refine U0 5 (v:=?v5z) ?y5z z ?r5z
  case y5z=>
   rintro w ⟨b,s1⟩;obtain⟨J,c1,K,c3,c4,c5,c6,c7,c8,c9,l,t,u,x⟩:=Z0 b;clear b;go_simp
   with_reducible rfl
  try go_frame
  refine XA [6] ?_;refine Zb rfl (fun K2 hK=>?_) z9
  try rw[if_pos aD]
  go_simp;refine(DN w1.drew (O ⟨g,0,U⟩) c N k a nr (HR.o.fr ((C.o.trans y.o).trans Zo.drew)) HN.o h8 N0 e0.o).mono ?_;rintro e w2 ⟨⟨a2,K,es,rfl,h0,x0⟩,y0⟩;have L:F (F0 w1 w2):=(Zo.drew).trans y0;have i0:=o h0;have z0:=o x0
  have a0:es.length<=10:=by
   have h1:=congrArg j2 h0;have h2:=P4 a k N;rw[q4]at h1;omega
  have HL:=o a0;obtain⟨n2,k0⟩:=ad es.length;have A0:=o k0;rw[k0];clear y0 h0 x0 a0 k0;refine hK.out _ _ (g0.o _ L.o) (fun z=>?_);clear hK K2
  try go_frame
  refine XA [7] ?_;refine Zb rfl (fun K2 hK=>?_) z9
  try rw[if_pos aD]
  go_simp
  have B0:∀e,e∈es->∀i s,i<4->s∈e.A.at i->s.1<=10000000000/\s.2<=10000000000:=fun e he i s _ hs=>by
   have h1:e.A∈Ur a k N:=by rw[<-i0.o];exact k9 he
   obtain⟨j,q,_,hq,_,eq⟩:=(P5 a k e.A N).1 h1;rw[eq]at hs;have h2:=e0.o q (mG hq);exact(Q5 h2.1 h2.2 i s hs).2
  have M:=o (Fs w2 r.name r.rank r.digits r.lo r.hi ma mc r.mcc r.am.isSome (r.am.getD (0,0)).1 (r.am.getD (0,0)).2 ca cc r.cur r.decline r.cheapest pa r.routes.length pc r.ahead a2 K es d.o.1.bn.1 d.o.1.bn.2.2 (nL d.o.1.bn.2.1 (vU d.o.1.bn.1)) (T0.o.fr (y.o.trans L.o)) (y5 d.o.2.m4 aB) (V0.o.fr (y.o.trans L.o)) (y5 d.o.2.c4 aB) z0.o HL.o B0);unfold F3 at M;rw[A0.o]at M;refine M.o.mono ?_;rintro e w3 ⟨rfl,C0⟩
  have eb:DL (Qt r.digits r.lo r.hi r.mcc r.am.isSome (r.am.getD (0,0)).1 (r.am.getD (0,0)).2 r.cur) es=Qd a k:=by
   rw[W0.o,<-i0.o];exact uv (A:=Ug r) (fun i s hs=>(Q5 d.o.1 d.o.2 i s hs).1) es
  rw[eb];have l0:=o (L.o.trans C0);clear C0 eb M B0 A0 HL i0 z0;refine hK.out _ _ (g0.o _ l0.o) (fun z=>?_);clear hK K2
  try go_frame
  have D0:=o ((C.o.trans y.o).trans l0.o);have m0:=o (oF HO.o (y.o.trans l0.o));obtain⟨P,R⟩:=ad (W7 a k).length;have g1:P<=8:=aj (L0 a k);have n0:=o R;rw[R]at m0;rw[R];clear R
  cases D:Qd a k with
  |true=>
   refine U0 8 (v:=?v8t) ?y8t z ?r8t
   case y8t=>
    rintro w ⟨b,s1⟩;obtain⟨J,c1,K,c3,c4,c5,c6,c7,c8,c9,l,t,u,x⟩:=Z0 b;clear b;go_simp
    with_reducible rfl
   try go_frame
   refine wpAnyH_done n ?_ _
   have T:F (w3.ownsRow w.heap.size 9 1 (Z oa P oc) (W7 a (k+1)).length (SY (W7 a (k+1)))):=by show q0 _ _ _ _ _ _ _;rw[f0.o,D,if_pos rfl,k6,n0.o];exact m0.o
   have X0:F (W7 a (k+1)=[]->y7 oa P oc=Z U 0 0):=by
    show _->_
    rw[f0.o,D,if_pos rfl,k6];have:=HZ.o;rw[n0.o]at this;exact this
   clear D z;go_wp2;go_roundg (N-(k+1))
   case measure=>omega
   exact⟨k+1,az,rfl,aE,T,X0,D0⟩
  |false=>
   refine U0 8 (v:=?v8f) ?y8f z ?r8f
   case y8f=>
    rintro w ⟨b,s1⟩;obtain⟨J,c1,K,c3,c4,c5,c6,c7,c8,c9,l,t,u,x⟩:=Z0 b;clear b;go_simp
    with_reducible rfl
   try go_frame
   refine wpAnyH_done n ?_ _
   have E0:F (W7 a (k+1)=W7 a k++[r.name]):=by show _=_;rw[f0.o,D];rfl
   obtain⟨h3,_⟩:=z;have J:=(Z0 h3).1;have G0:=o (Vd r.name w3 d.o.1.nm);clear D h3
   go_wp2_with (go_at_call 96;refine G0.o.mono ?_)
   rintro e w4 ⟨rfl,o0⟩;have H0:=o (D0.o.trans o0);have T:=o (oF m0.o o0);clear o0 J G0
   go_wp2_with (at_builtin;refine ao w.heap.size Qn underlying28 (Z oa P oc) P (SY (W7 a k)) ?h1 ⟨w4.heap.size,0,U⟩ [G r.name] ?h2 ?_ (k4:=?h6))
   case h1=>exact T.o.alloc _
   case h2=>exact q2 (aN w4 (E #[G r.name] 9))
   case h6=>have:=H0.o.size;simp;omega
   intro g2 b0 w8 d0 I Y0 _;have a1:=o ((H0.o.alloc _).grown I (fun k hk=>Or.inr (T.o.lt k hk).1))
   have b1:F (w8.ownsRow w.heap.size 9 1 (Z (O ⟨g2,0,U⟩) (P+1) b0) (W7 a (k+1)).length (SY (W7 a (k+1)))):=by
    show q0 _ _ _ _ _ _ _
    rw[E0.o,List.length_append,n0.o,show SY (W7 a k++[r.name])=SY (W7 a k)++[G r.name]from by simp[SY]];exact d0
   have d1:F (W7 a (k+1)=[]->y7 (O ⟨g2,0,U⟩) (P+1) b0=Z U 0 0):=fun h=>by rw[E0.o]at h;simp at h
   clear d0 I Y0;go_wp2;go_roundg (N-(k+1))
   case measure=>omega
   exact⟨k+1,az,rfl,aE,b1,d1,a1⟩
 have O0:=ai k N;have ek:k=N:=az;have p0:=o ek;clear ek;go_wp2;go_ret;have e1:=HO.o;have e2:=HZ.o;rw[p0.o]at e1 e2;exact⟨⟨_,rfl,by rw[p0.o];exact e1,fun h=>by have:=e2 h;rw[p0.o];exact this⟩,C.o⟩
def Fv {a A b c}(h:b.map Tq.A=c.map Tq.A):XJ a A b=XJ a A c:=by
 have e:∀Yv b,st1 a Yv b=Yv.1::(b.map Tq.A).flatMap fun B=>YJ Yv (B.at a):=fun Yv b=>by
  unfold st1;rw[List.flatMap_map]
 have d:Y5 a (A.at a) b=Y5 a (A.at a) c:=by
  unfold Y5
  congr 1
  funext s
  rw[e,e,h]
 unfold XJ;rw[d]
def JK {A:Re}:∀(k:Nat){es es':List Tq},es.map Tq.A=es'.map Tq.A->X9 A k es=X9 A k es'
 |0,es,es',h=>by
  have:=congrArg j2 h;rw[q4,q4]at this;simp only[X9,this]
 |k+1,es,es',h=>by
  have e:∀n,X9 A k (Vu (3-k) n es)=X9 A k (Vu (3-k) n es'):=fun n=>by
   refine JK k ?_
   have f:∀l:List Tq,(Vu (3-k) n l).map Tq.A=(l.map Tq.A).filter fun B=>XI B (3-k) n:=fun l=>by
    unfold Vu;rw[List.filter_map];rfl
   rw[f,f,h]
  simp only[X9];rw[Fv h]
  congr 1
  funext n
  rw[e n]
def RG (A B:Re):Option (Qb×Nat):=(X9 A 4 [⟨B,⟨U,0⟩,⟨U,0⟩,⟨U,0⟩,⟨U,0⟩⟩]).find? fun y=>decide (0<y.2)
def JL {A B}(c:∀a s,s∈A.at a->s.1<=s.2){y}(h:RG A B=O y):V8 A 4 y.1=true/\V8 B 4 y.1=true:=by
 unfold RG at h;have d:=List.find?_some h;obtain⟨e,b⟩:=Tf c 4 z _ y (List.mem_of_find?_eq_some h);refine⟨e,?_⟩
 cases f:V8 B 4 y.1 with
 |true=>rfl
 |false=>
  simp[f]at b;simp[b]at d
def zo {A B}(d:∀a s,s∈A.at a->s.1<=s.2)(h:RG A B=U)(p):¬(V8 A 4 p=true/\V8 B 4 p=true):=by
 rintro⟨e,f⟩;unfold RG at h;rw[j3]at h;obtain⟨y,c,g⟩:=QT 4 z [⟨B,⟨U,0⟩,⟨U,0⟩,⟨U,0⟩,⟨U,0⟩⟩] p e;obtain⟨_,b⟩:=Tf d 4 z _ y c;have i:=g ⟨B,⟨U,0⟩,⟨U,0⟩,⟨U,0⟩,⟨U,0⟩⟩ aA;have j:=h y c;simp only[List.filter_cons,List.filter_nil]at b;rw[i,f]at b;simp at b j;omega
structure qg (w0:y6)(A A2:Re)(B:Nat)(x0 x1 x2 x3:F4)(a:Option Addr)(c:Nat)(es:List Tq)(wx:y6):Prop where
 em:es.map Tq.A=[A2]
 sz:wx.heap.size=B+3
 lo:w0.heap.size<=B
 b0:wx.heap[B]?=O (E #[V Y ((0:Nat):Int)] 3)
 b1:wx.heap[B+1]?=O (E #[Xy x0 A.s0,Xy x1 A.s1,Xy x2 A.s2,Xy x3 A.s3] 215)
 b2:wx.heap[B+1+1]?=O (E #[Z a 1 c] 217)
 ar:Oz wx A x0 x1 x2 x3
 nw:TC w0.heap.size wx.heap.size x0 x1 x2 x3
 ars:V5 wx a es
 an:∀g o,a=O ⟨g,o,U⟩->w0.heap.size<=g/\g<wx.heap.size
 en:∀e,e∈es->TC w0.heap.size wx.heap.size e.x0 e.x1 e.x2 e.x3
 fr:F0 w0 wx
def TC.more {m n a b c d f i}(h:TC m n c d f i)(k:a<=m)(l:n<=b):TC a b c d f i:=fun x j g o e=>⟨y5 k (h x j g o e).1,nL (h x j g o e).2 l⟩
def wl {w A b d f g}(h:Oz w A b d f g):V5 (w.alloc (E #[Z b.a A.s0.length b.c,Z d.a A.s1.length d.c,Z f.a A.s2.length f.c,Z g.a A.s3.length g.c] 215)) (O ⟨w.heap.size,0,U⟩) [⟨A,b,d,f,g⟩]:=by
 intro k e i;have l:=aN w (E #[Z b.a A.s0.length b.c,Z d.a A.s1.length d.c,Z f.a A.s2.length f.c,Z g.a A.s3.length g.c] 215)
 cases k with
 |succ k=>simp at i
 |zero=>
  simp at i;subst i;refine⟨Oz.fr h (Zo.alloc _),w.heap.size,0,rfl,fun j v m=>?_⟩;rw[show 0+0*4+j=j from z];exact bC l j v (by simpa[PN,Xy]using m)
attribute [local go_sem] Oper.semAt_some
structure Fw (w0:y6)(A A2:Re)(x0 x1 x2 x3:F4)(a:Option Addr)(es:List Tq)(W:y6):Prop where
 em:es.map Tq.A=[A2]
 ar:Oz W A x0 x1 x2 x3
 nw:TC w0.heap.size W.heap.size x0 x1 x2 x3
 ars:V5 W a es
 an:∀g o,a=O ⟨g,o,U⟩->w0.heap.size<=g/\g<W.heap.size
 en:∀e,e∈es->TC w0.heap.size W.heap.size e.x0 e.x1 e.x2 e.x3
 fr:F0 w0 W
def Fw.pays {w0 W A k d f i j a es}(h:Fw w0 A k d f i j a es W):
  y9 z7 113 #[q5 #[Z d.a A.s0.length d.c,Z f.a A.s1.length f.c,Z i.a A.s2.length i.c,Z j.a A.s3.length j.c],Z a 1 1] W fun e l=>∃B,e=y4 (.func (.func 212) #[] #[H (O ⟨B,0,U⟩),H (O ⟨B+1+1,0,U⟩),H (O ⟨B+1,0,U⟩)])/\qg w0 A k B d f i j a 1 es l:=by
 refine(P3 A d f i j a 1 1 W).mono ?_;rintro e l ⟨B,rfl,m,n,p,q,r,b⟩;exact⟨B,rfl,h.em,n,y5 h.fr.size m,p,q,r,h.ar.fr b,h.nw.more (z6 _) b.size,h.ars.fr b,fun g o e=>⟨(h.an g o e).1,nL (h.an g o e).2 b.size⟩,fun e s=>(h.en e s).more (z6 _) b.size,h.fr.trans b⟩
def Fw.mk1 {w0 d A b l m n p h i j k}(r:Oz d A l m n p)(s:TC w0.heap.size d.heap.size l m n p)(t:Oz d b h i j k)(u:TC w0.heap.size d.heap.size h i j k)(q:F0 w0 d):
  Fw w0 A b l m n p (O ⟨d.heap.size,0,U⟩) [⟨b,h,i,j,k⟩] (d.alloc (E #[Z h.a b.s0.length h.c,Z i.a b.s1.length i.c,Z j.a b.s2.length j.c,Z k.a b.s3.length k.c] 215)):=by
 have f:=(Kk d (E #[Z h.a b.s0.length h.c,Z i.a b.s1.length i.c,Z j.a b.s2.length j.c,Z k.a b.s3.length k.c] 215)).1;refine⟨rfl,r.fr f,s.more (z6 _) f.size,wl t,fun g o e=>?_,fun e v=>?_,q.trans f⟩
 ·cases e
  exact⟨q.size,y⟩
 rw[z8.1 v];exact u.more (z6 _) f.size
def qh {W P b c t u i j l m}(n:W.heap[P+1+1]?=O (E #[i,j,l,m] t))(o:W.heap[P+1+1+1]?=O (E #[X c] u))(a d e f):
    ((((((W.setCell ⟨P+1+1,0,U⟩ (V Y (a:Nat))).setCell ⟨P+1+1,1,U⟩ (V Y (d:Nat))).setCell ⟨P+1+1,2,U⟩ (V Y (e:Nat))).setCell ⟨P+1+1,3,U⟩ (V Y (f:Nat))).setCell ⟨P+1+1+1,0,U⟩ (X b)).heap[P+1+1]?=O (E #[V Y (a:Nat),V Y (d:Nat),V Y (e:Nat),V Y (f:Nat)] t))/\
    ((((((W.setCell ⟨P+1+1,0,U⟩ (V Y (a:Nat))).setCell ⟨P+1+1,1,U⟩ (V Y (d:Nat))).setCell ⟨P+1+1,2,U⟩ (V Y (e:Nat))).setCell ⟨P+1+1,3,U⟩ (V Y (f:Nat))).setCell ⟨P+1+1+1,0,U⟩ (X b)).heap[P+1+1+1]?=O (E #[X b] u))/\
    Fr (fun k=>k=P+1+1\/k=P+1+1+1) W (((((W.setCell ⟨P+1+1,0,U⟩ (V Y (a:Nat))).setCell ⟨P+1+1,1,U⟩ (V Y (d:Nat))).setCell ⟨P+1+1,2,U⟩ (V Y (e:Nat))).setCell ⟨P+1+1,3,U⟩ (V Y (f:Nat))).setCell ⟨P+1+1+1,0,U⟩ (X b)):=by
  have t1:=heap_setCell_same W (P+1+1) 0 _ _ (V Y (a:Nat)) n;have q:=heap_setCell_same _ (P+1+1) 1 _ _ (V Y (d:Nat)) t1;have r:=heap_setCell_same _ (P+1+1) 2 _ _ (V Y (e:Nat)) q;have s:=heap_setCell_same _ (P+1+1) 3 _ _ (V Y (f:Nat)) r
  have g:Fr (fun k=>k=P+1+1) W ((((W.setCell ⟨P+1+1,0,U⟩ (V Y (a:Nat))).setCell ⟨P+1+1,1,U⟩ (V Y (d:Nat))).setCell ⟨P+1+1,2,U⟩ (V Y (e:Nat))).setCell ⟨P+1+1,3,U⟩ (V Y (f:Nat))):=
    ((((Fr.refl (fun k=>k=P+1+1) W).setCell (p:=⟨P+1+1,0,U⟩) (.inl rfl) _).setCell (p:=⟨P+1+1,1,U⟩) (.inl rfl) _).setCell (p:=⟨P+1+1,2,U⟩) (.inl rfl) _).setCell (p:=⟨P+1+1,3,U⟩) (.inl rfl) _
  have g3:=g.whole o (by show¬P+1+1+1=P+1+1;omega);refine⟨?_,heap_setCell_same _ (P+1+1+1) 0 _ _ (X b) g3,(g.mono (fun k h=>.inl h)).setCell (p:=⟨P+1+1+1,0,U⟩) (.inl (.inr rfl)) _⟩;exact((Fr.refl (fun k=>k=P+1+1+1) _).setCell (p:=⟨P+1+1+1,0,U⟩) (.inl rfl) _).whole s (by show¬P+1+1=P+1+1+1;omega)
def CY {n w a W S P}{y:Qb×Nat}{b v f g i j c}(B:P+1+1+1<a.heap.size)(d:F0 w a)(l:∀k,S k->w.heap.size<=k)(m:Fr S a W)(o:W.heap[a.heap.size]?=O (.deferred (O [])))(p:W.heap[P+1+1]?=O (E #[V Y (y.1.p0:Nat),V Y (y.1.p1:Nat),V Y (y.1.p2:Nat),V Y (y.1.p3:Nat)] 139))(q:W.heap[P+1+1+1]?=O (E #[X b] 4))(r:v=.tuple #[Jw y.1,X b]):
  LeavesInM Fence.wide n z7 f67 (f::g::i::j::H (O ⟨P+1+1,0,U⟩)::H (O ⟨P+1+1+1,0,U⟩)::c).toArray (fun e s=>e=y4 v/\F0 w s) [{target:=.collected a.heap.size,args:=#[]}] .returning W:=by
 refine Vg [a.heap.size] W aA (fun D h=>by rw[z8.1 h];exact o) ?_;have g2:(W.putObj a.heap.size (.deferred U)).heap[P+1+1]?=_:=(y8 az).trans p;have g3:(W.putObj a.heap.size (.deferred U)).heap[P+1+1+1]?=_:=(y8 az).trans q;obtain⟨t,u,x,z⟩:=au g2;have A:=Zc g3 0;refine⟨.tuple #[Jw y.1,X b],?_,by rw[r],?_⟩
 ·show(results _ _).run _ (W.putObj a.heap.size (.deferred U))=_
  simp[results,results67,go_sem,t,u,x,z,A,Jw];rfl
 exact d.monoNew (m.mono (T:=fun k=>S k\/k=a.heap.size) (fun _ h=>.inl h)|>.trans (QU (.inr rfl) _)) (fun k h=>.inr (h.elim (l k) (fun e=>aj d.size)))
def ri (o:Option (Qb×Nat)):j5:=match o with
 |some y=>.tuple #[Jw y.1,X true]
 |none=>.tuple #[Jw ⟨0,0,0,0⟩,X false]
def pM (w a b c d):∃W P,(((w.alloc a).alloc b).alloc c).alloc d=W/\w.heap.size=P/\F (F0 w W)/\F (W.heap.size=P+4)/\F (W.heap[P]?=O a)/\F (W.heap[P+1]?=O b)/\F (W.heap[P+1+1]?=O c)/\F (W.heap[P+1+1+1]?=O d):=by
 obtain⟨f,g,h,i⟩:=zW w a b c;obtain⟨e,j⟩:=Kk (((w.alloc a).alloc b).alloc c) d;refine⟨_,_,rfl,rfl,f.trans e,?_,e.whole g,e.whole h,e.whole i,?_⟩
 ·show _=_;simp
 show _=_;simpa using j
def DO (w r q nr ma mc ca cc pa pc a0 i0 e0 j0 k0 l0)(h1:Ts nr r/\Tt r)(h2:Ts nr q/\Tt q)(i1:Zv w ma r.mcc)(i2:Zv w ca r.cur)(i3:Zv w a0 q.mcc)(i4:Zv w e0 q.cur):
    y9 z7 67 #[q5 (vy r ma mc ca cc pa pc),q5 (vy q a0 i0 e0 j0 k0 l0)] w fun e w'=>e=y4 (ri (RG (Ug r) (Ug q)))/\F0 w w':=by
  obtain⟨w0,P,T0,hP,I,t0,v0,A0,B0,C0⟩:=pM w (E (vy r ma mc ca cc pa pc) 120) (E (vy q a0 i0 e0 j0 k0 l0) 120) (E #[V Y 0,V Y 0,V Y 0,V Y 0] 139) (E #[X false] 4);have D0:=Za (fun W (d:F0 w0 W)=>R5 W r nr ma mc ca cc pa pc h1.1 h1.2 (i1.fr (I.o.trans d)) (i2.fr (I.o.trans d)));have E0:=Za (fun W (d:F0 w0 W)=>R5 W q nr a0 i0 e0 j0 k0 l0 h2.1 h2.2 (i3.fr (I.o.trans d)) (i4.fr (I.o.trans d)));have J:=Za (fun W (d:F0 w0 W)=>And.intro (d.whole v0.o) (d.whole A0.o));have G0:F (∀i,(Ug r).at i≠[]):=CX _ _ _ _ _ _ _ _
  have H0:F (∀i s,s∈(Ug q).at i->s.1<=10000000000/\s.2<=10000000000):=fun i s hs=>(Q5 h2.1 h2.2 i s hs).2
  have I0:=Za hP;clear h1 h2 i1 i2 i3 i4;generalize Ug r=A at*;generalize Ug q=A2 at*;refine(callsIn_wide (n:=5)).1 ?_;refine callsIn_of_wp_marks func67 rfl trivial ?_ rfl;simp only[ntmps67,g7,g9,p4,p7,k8,Array.replicate_succ,Array.replicate_zero,j4,q8,j9,j6];refine(wpIn_wide (n:=5)).2 (wg ?_);go_upto_region 1 with fail;clear T0 hP
  go_cut [13]from 8 to 13 (fun v wx=>∃(B:Nat)(x0 x1 x2 x3:F4)(a:Option Addr)(es:List Tq),v=.func (.func 212) #[] #[H (O ⟨B,0,U⟩),H (O ⟨B+1+1,0,U⟩),H (O ⟨B+1,0,U⟩)]/\F (qg w0 A A2 B x0 x1 x2 x3 a 1 es wx))
  case first=>
    have D:F (F0 w0 w0.drew):=Zo.drew;refine wp_region_held_drew (S:=fun W=>W.heap[P]?=O (E #[G r.name,V Y r.rank,V Y r.digits,V Y r.lo,V Y r.hi,Z ma r.mcc.length mc,X r.am.isSome,V Y (r.am.getD (0,0)).1,V Y (r.am.getD (0,0)).2,Z ca r.cur.length cc,X r.decline,X r.cheapest,Z pa r.routes.length pc,V Y r.ahead] 120)/\W.heap[P+1]?=O (E #[G q.name,V Y q.rank,V Y q.digits,V Y q.lo,V Y q.hi,Z a0 q.mcc.length i0,X q.am.isSome,V Y (q.am.getD (0,0)).1,V Y (q.am.getD (0,0)).2,Z e0 q.cur.length j0,X q.decline,X q.cheapest,Z k0 q.routes.length l0,V Y q.ahead] 120)) aC (J.o _ D.o) (fun hH=>?_);refine U0 0 (v:=?v0z) ?y0z hH ?r0z
    case y0z=>
      rintro w ⟨s0,s1⟩;obtain⟨c0,c1,c2,c3,c4,c5,c6,c7,c8,c9,V0,W0,X0,Y0⟩:=Z0 s0;obtain⟨d0,d1,d2,d3,d4,d5,d6,d7,d8,d9,a1,f1,j1,k1⟩:=Z0 s1;clear s0 s1;go_simp
      with_reducible rfl
    try go_frame
    refine U0 2 (v:=?v2z) ?y2z hH ?r2z
    case y2z=>
      rintro w ⟨s0,s1⟩;obtain⟨c0,c1,c2,c3,c4,c5,c6,c7,c8,c9,V0,W0,X0,Y0⟩:=Z0 s0;obtain⟨d0,d1,d2,d3,d4,d5,d6,d7,d8,d9,a1,f1,j1,k1⟩:=Z0 s1;clear s0 s1;go_simp
      with_reducible rfl
    try go_frame
    refine XA [1] ?_;refine Zb rfl (fun K2 L=>?_) z9
    try rw[if_pos aD]
    go_simp;refine(D0.o _ D.o).mono ?_;rintro e wa ⟨⟨x0,x1,x2,x3,rfl,f0,g0⟩,d⟩;have l1:=Za f0;have m1:=Za g0;have m0:=Za (D.o.trans d);clear f0 g0 d;refine L.out _ _ (J.o _ m0.o) (fun hH=>?_);clear L K2
    try go_frame
    refine XA [3] ?_;refine Zb rfl (fun K2 L=>?_) z9
    try rw[if_pos aD]
    go_simp;refine(E0.o _ m0.o).mono ?_;rintro e wb ⟨⟨y0,y1,y2,y3,rfl,f0,g0⟩,d⟩;have J0:=Za (m0.o.trans d);have HP:=Za (Fw.mk1 (w0:=w0) (l1.o.fr d) (m1.o.more D.o.size d.size) f0 (g0.more m0.o.size (z6 _)) J0.o);clear f0 g0 d;refine L.out _ _ (J.o _ J0.o) (fun hH=>?_);clear L K2
    try go_frame
    refine XA [4] ?_;refine Zb rfl (fun K2 L=>?_) z9
    try rw[if_pos aD]
    go_simp;refine L.out _ _ (J.o _ HP.o.fr) (fun hH=>?_);clear L K2
    try go_frame
    refine XA [5] ?_;refine Zb rfl (fun K2 L=>?_) z9
    try rw[if_pos aD]
    go_simp;refine HP.o.pays.mono ?_;rintro e wd ⟨B,rfl,K0⟩;have h0:=Za K0;clear K0;refine L.out _ _ (J.o _ h0.o.fr) (fun hH=>?_);clear L K2
    try go_frame
    refine wpAnyH_done aC ?_ _;go_wp2;go_meet;exact⟨B,_,_,_,_,_,_,rfl,h0⟩
  obtain⟨B,x0,x1,x2,x3,a,es,rfl,h0⟩:=hcut;generalize wc=R at*;go_wp2_with fail;generalize g6 (vy r _ _ _ _ _ _)=n1;generalize g6 (vy q _ _ _ _ _ _)=o1;have c:=h0.o;have e1:=I0.o;have e2:=t0.o;have e3:=c.lo;have e5:=c.sz;have o2:=c.fr.whole B0.o;have o3:=c.fr.whole C0.o
  obtain⟨S,n0⟩:∃S:Nat->Prop,S=fun k=>k=P+1+1\/k=P+1+1+1:=⟨_,rfl⟩
  have L0:S (P+1+1):=by rw[n0];exact .inl rfl
  have M0:S (P+1+1+1):=by rw[n0];exact .inr rfl
  have o0:∀k,S k->k<P+4/\P<=k:=fun k hk=>by rw[n0]at hk;rcases hk with h|h<;>omega
  have p:GO z7 212 #[H (O ⟨B,0,U⟩),H (O ⟨B+1+1,0,U⟩),H (O ⟨B+1,0,U⟩)] Ay (TD S R.heap.size) (X9 A 4 es) R:=by
    have nR:∀i,w0.heap.size<=i->i<B+3->¬TD S R.heap.size i:=by
      rintro i g1 g2 (h|h|h)
      · have:=o0 i h;omega
      · omega
      omega
    have q1:es.length=1:=by have:=congrArg j2 c.em;simpa using this
    refine OP A x0 x1 x2 x3 (fun i _=>G0.o i) 4 (z6 _) B (B+1+1) (B+1) 1 _ a es R az (fun e he i s _ hs=>?_) (fun W d=>?_)
    · have:e.A∈es.map Tq.A:=k9 he
      rw[c.em,z8]at this;rw[this]at hs;exact H0.o i s hs
    have ba:=d.whole c.b1 (nR _ az az);refine⟨bC (d.whole c.b0 (nR _ az az)) 0 _ rfl,?_,Zc ba 0,Zc ba 1,Zc ba 2,Zc ba 3,?_,?_⟩
    · rw[q1];exact bC (d.whole c.b2 (nR _ az az)) 0 _ rfl
    · exact c.ar.frS d (fun x hx g o e N0=>nR g (c.nw x hx g o e).1 az)
    refine c.ars.frS d (fun g o e N0=>nR g (c.an g o e).1 az) (fun e he=>?_);obtain⟨k,hk⟩:=q6.1 he;exact Oz.frS (c.ars k e hk).1 d (fun x hx g o e' N0=>nR g (c.en e he x hx g o e').1 az)
  obtain⟨xs,r0⟩:=ad (X9 A 4 es);rw[r0]at p
  have O0:F (RG A A2=xs.find? fun y=>decide (0<y.2)):=by
    show _=_
    unfold RG;rw[<-r0,JK (A:=A) 4 (es:=es) (es':=[⟨A2,⟨U,0⟩,⟨U,0⟩,⟨U,0⟩,⟨U,0⟩⟩]) c.em]
  have u:F (P+1+1+1<R.heap.size):=by show _<_;omega
  have P0:=Za (I.o.trans c.fr)
  have Q0:F (∀k,S k->w.heap.size<=k):=fun k hk=>aj (o0 k hk)
  have R0:=Za L0;have S0:=Za M0
  have q0:∀k,S k->k<R.heap.size:=fun k hk=>aj (o0 k hk)
  clear n0 L0 M0 o0 r0 e1 e2 e3 e5 c h0 H0 G0 J D0 E0 v0 A0 B0 C0 I t0 I0;refine(wpIn_wide (n:=2)).1 ?_;refine OC (n:=0) (S:=S) rfl (enters_of func212 aC rfl) p Zo (fun _=>rfl) q0
    (fun l W=>(∀y,y∈l->y.2=0)/\(W.heap[P+1+1]?=O (E #[V Y 0,V Y 0,V Y 0,V Y 0] 139)/\(W.heap[P+1+1+1]?=O (E #[X false] 4)/\Fr S R W)))
    (fun co l W=>∃j y,(co=.ret/\l=j++[y]/\(∀z,z∈j->z.2=0)/\0<y.2)/\(W.heap[P+1+1]?=O (E #[V Y (y.1.p0:Nat),V Y (y.1.p1:Nat),V Y (y.1.p2:Nat),V Y (y.1.p3:Nat)] 139)/\(W.heap[P+1+1+1]?=O (E #[X true] 4)/\Fr S R W)))
    (YK.and (YK.pure (fun(l:List (Qb×Nat))=>∀y,y∈l->y.2=0)) (YK.and (YK.block (aj u.o)) (YK.and (YK.block u.o) (YK.fr (z6 _)))))
    (fun co s W W' hs d=>by
      obtain⟨j,y,g1,g2,g3,g4⟩:=hs
      exact⟨j,y,g1,YK.block (β:=Unit) (M:=R.heap.size) (aj u.o) () W W' g2 d,YK.block (β:=Unit) (M:=R.heap.size) u.o () W W' g3 d,YK.fr (β:=Unit) (M:=R.heap.size) (z6 _) () W W' g4 d⟩)
    ⟨aA,o2,o3,Zo⟩
    (fun x m a' W=>∃Bx,m<=Bx/\W.heap[Bx]?=O (E #[V Y (x.1.p0:Nat),V Y (x.1.p1:Nat),V Y (x.1.p2:Nat),V Y (x.1.p3:Nat)] 139)/\a'={tmps:=#[n1,o1,H (O ⟨P,0,U⟩),H (O ⟨P+1,0,U⟩),H (O ⟨P+1+1,0,U⟩),H (O ⟨P+1+1+1,0,U⟩),H (O ⟨Bx,0,U⟩),V Y (x.2:Nat),u8,u9,u10,u11,u12,.func (.func 212) #[] #[H (O ⟨B,0,U⟩),H (O ⟨B+1+1,0,U⟩),H (O ⟨B+1,0,U⟩)],Jw x.1,V Y (x.2:Nat),undef,undef,undef,undef],defers:=[]})
    (fun x m a' s A B r1 hs hg hr=>by obtain⟨Bx,g1,g2,g3⟩:=hs;exact⟨Bx,g1,Qv (C:=R.heap.size) () A B r1 g2 hg hr,g3⟩) ?assign ?body ?done ?_
  case assign=>
    rintro l x W K hp ⟨g1,g2,g3,g4⟩ L;unfold Ay Jw
    gi_wp2
    have f:=(Kk W (E #[V Y (x.1.p0:Nat),V Y (x.1.p1:Nat),V Y (x.1.p2:Nat),V Y (x.1.p3:Nat)] 139)).1;exact L _ _ (f.mono (fun _ h=>h.elim)) ⟨g1,f.whole g2,f.whole g3,g4.trans (f.mono (fun _ h=>h.elim))⟩ ⟨W.heap.size,z6 _,aN W _,rfl⟩
  case body=>
    rintro l x m a' W hp hm ⟨g1,g2,g3,g4⟩ ⟨Bx,t1,hb,rfl⟩;have HI:=Za g1;have HF:=Za g4;have N:=Za g2;have Q:=Za g3;have v1:=Za hb;clear p o2 o3 q0 g1 g4;by_cases hx:0<x.2
    · have hz:=af 0 x.2
      have HX:=Za hx;obtain⟨y0,y1,y2,y3⟩:=au hb;obtain⟨c0,c1,c2,c3⟩:=au g2;have z0:=bF g2;have d0:=Zc g3 0;have d1:=bF g3 0;clear hb g2 g3
      gi_wp2
      obtain⟨k2,k3,k4⟩:=qh (b:=true) N.o Q.o x.1.p0 x.1.p1 x.1.p2 x.1.p3;have k5:=k4.mono (T:=S) (by rintro k (rfl|rfl);exact R0.o;exact S0.o);exact⟨k5.mono (fun k h=>.inl h),l,x,⟨rfl,rfl,HI.o,HX.o⟩,k2,k3,HF.o.trans k5⟩
    have hz:=ai 0 x.2;have HX:=Za hx;clear hx hb g2 g3
    have HK:F (∀y,y∈l++[x]->y.2=0):=fun y hy=>by
      rcases q3.1 hy with hy|hy
      · exact HI.o y hy
      rw[z8.1 hy];have:=HX.o;omega
    gi_wp2
    exact⟨Zo,fun a b h=>HK.o (a,b) h,N.o,Q.o,HF.o⟩
  case done=>
    rintro W ⟨g1,g2,g3,g4⟩ hD;have HI:=Za g1;have HF:=Za g4;have N:=Za g2;have Q:=Za g3;have HD:=Za hD;obtain⟨c0,c1,c2,c3⟩:=au g2;have z0:=bF g2;have d0:=Zc g3 0;have d1:=bF g3 0;clear g1 g2 g3 g4 hD p o2 o3 q0;go_wp2_with fail;obtain⟨k2,k3,k4⟩:=qh (b:=false) N.o Q.o 0 0 0 0;have k5:=k4.mono (T:=S) (by rintro k (rfl|rfl);exact R0.o;exact S0.o);refine CY (S:=S) (y:=(⟨0,0,0,0⟩,0)) u.o P0.o Q0.o (HF.o.trans k5) (k4.whole HD.o (by rintro(h|h)<;>(have:=u.o;omega))) k2 k3 ?_
    rw[O0.o,show(xs.find? fun y=>decide (0<y.2))=U from by
      rw[j3];intro y hy
      simp[HI.o y hy]]
    rfl
  rintro co l W hp ⟨j,y,⟨rfl,rfl,g1,g2⟩,g3,g4,g5⟩ hD;have HI:=Za (show(∀z,z∈j->z.2=0)/\0<y.2 from⟨g1,g2⟩);have HF:=Za g5;have N:=Za g3;have Q:=Za g4;have HD:=Za hD;have HP:=Za hp;clear g1 g2 g3 g4 g5 hD p o2 o3 q0 hp
  gi_wp2
  refine CY (S:=S) (y:=y) u.o P0.o Q0.o HF.o HD.o N.o Q.o ?_
  rw[O0.o,show(xs.find? fun y=>decide (0<y.2))=O y from by
    obtain⟨t,ht⟩:=HP.o;rw[<-ht,g8,g8]
    have e:(j.find? fun y=>decide (0<y.2))=U:=by
      rw[j3];intro z hz;simp[HI.o.1 z hz]
    rw[e]
    simp[HI.o.2]]
  rfl
def TW (y:Qb):XQ:=⟨ZS (T7 y.p0 6),(y.p1:Nat),(y.p2:Nat),(y.p3:Nat)⟩
def CZ:∀(k u:Nat),u<10^(k+1)->Lib.nDigits u<=k+1
 |0,u,h=>by rw[Lib.nDigits_small (by simpa using h)];exact z6 _
 |k+1,u,h=>by
  by_cases a:u<10
  ·rw[Lib.nDigits_small a];omega
  rw[Lib.nDigits_big a]
  have:u/10<10^(k+1):=by rw[Nat.div_lt_iff_lt_mul aB];rw[Nat.pow_succ]at h;exact h
  have:=CZ k (u/10) this;omega
def qN {n}(h:n<1000000):(Yd n).length<=6:=by
 unfold Yd;rw[Lib.decDigits_length];exact CZ 5 n h
def wm (y w)(B:QL w)(C:y.p0<1000000):
  y9 z7 115 #[Jw y] w fun e D=>e=y4 (X4 (TW y))/\F0 w D:=by
 obtain⟨h,c⟩:=ad ((w.alloc (E #[V Y (y.p0:Nat),V Y (y.p1:Nat),V Y (y.p2:Nat),V Y (y.p3:Nat)] 139)).alloc (E #[G ⟨#[]⟩,V Y 0,V Y 0,V Y 0] 35));obtain⟨P,x⟩:=ad w.heap.size
 have i:F (F0 w h):=by show Fr _ _ _;rw[<-c];exact(Zo.alloc _).alloc _
 have j:F (h.heap[P]?=O (E #[V Y (y.p0:Nat),V Y (y.p1:Nat),V Y (y.p2:Nat),V Y (y.p3:Nat)] 139)):=by
  show _=_
  rw[<-c,<-x];exact((Fr.refl (fun _=>False) _).alloc _).whole (aN w _)
 have m:F (h.heap[P+1]?=O (E #[G ⟨#[]⟩,V Y 0,V Y 0,V Y 0] 35)):=by
  show _=_
  rw[<-c,<-x];have:=aN (w.alloc (E #[V Y (y.p0:Nat),V Y (y.p1:Nat),V Y (y.p2:Nat),V Y (y.p3:Nat)] 139)) (E #[G ⟨#[]⟩,V Y 0,V Y 0,V Y 0] 35)
  simpa using this
 have H:=o (PC y.p0 h az (B.fr i.o));have I:=o (qN C);have c0:=Zc j.o 0;have b:F (w.heap.size<=P+1):=aS;unfold Jw;go_enter func115,ntmps115
 go_wp2_with (go_at_call 106;refine H.o.mono ?_)
 rintro e z ⟨rfl,d⟩;have n:=o d;have f:=o (d.whole j.o);have a:=o (d.whole m.o);go_wp2
 go_loopg [3] 6 (fun J K L=>∃k,k+(Yd y.p0).length<=6/\J=6-k/\K=G (ZS (k7 k 48++Yd y.p0))/\L=z)
 case atStart=>exact⟨0,aj I.o,rfl,rfl,rfl⟩
 obtain⟨k,hk,rfl,rfl,g⟩:=hrel;replace g:=g.symm;subst g;obtain⟨s,q⟩:=ad (ZS (k7 k 48++Yd y.p0))
 have M:s.size=k+(Yd y.p0).length:=by rw[<-q,XW];simp
 have A:=o q;rw[q];by_cases N:k+(Yd y.p0).length<6
 ·have r:(s.size:Int)<6:=az
  have t:F ((⟨#[48]⟩:ByteArray)++s=ZS (k7 (k+1) 48++Yd y.p0)):=by
   show _=_
   rw[<-A.o];apply ByteArray.ext;apply Array.ext';simp[ZS,List.replicate_succ]
  go_wp2;go_roundg (6-(k+1))
  case measure=>omega
  exact⟨k+1,az,rfl,by rw[<-t.o],rfl⟩
 have r:¬(s.size:Int)<6:=az
 have Q:F (s=(TW y).pan):=by
  show s=ZS (T7 y.p0 6)
  rw[<-A.o];unfold T7;rw[show 6-(Yd y.p0).length=k from az]
 have a1:=Zc f.o 1;have a2:=Zc f.o 2;have a3:=Zc f.o 3;obtain⟨r0,r1,r2,r3⟩:=au a.o;have z0:=bF a.o;go_wp2_with fail;have t1:=heap_setCell_same z (P+1) 0 _ _ (G s) a.o;have R:=heap_setCell_same _ (P+1) 1 _ _ (V Y (y.p1:Nat)) t1;have S:=heap_setCell_same _ (P+1) 2 _ _ (V Y (y.p2:Nat)) R;have l:=heap_setCell_same _ (P+1) 3 _ _ (V Y (y.p3:Nat)) S;obtain⟨T,W,X,Z⟩:=au l;have u:=((((i.o.trans n.o).setCell (p:=⟨P+1,0,U⟩) (Or.inr b.o) (G s)).setCell (p:=⟨P+1,1,U⟩) (Or.inr b.o) (V Y (y.p1:Nat))).setCell (p:=⟨P+1,2,U⟩) (Or.inr b.o) (V Y (y.p2:Nat))).setCell (p:=⟨P+1,3,U⟩) (Or.inr b.o) (V Y (y.p3:Nat));refine bodyPost_ret (v:=q5 #[G s,V Y (y.p1:Nat),V Y (y.p2:Nat),V Y (y.p3:Nat)]) (by simp[results,results115,go_sem,T,W,X,Z]) rfl ⟨?_,u⟩;unfold X4;rw[<-Q.o];rfl
def qC (a b:ByteArray)(p:XQ):j5:=q5 #[G a,G b,G p.pan,V Y p.mcc,V Y p.am,V Y p.cur]
def Fx (w r q y ma mc ca cc pa pc z A B C D H)(h1:r.name.size<=3000)(h2:q.name.size<=3000)(hy:y.p0<1000000)(ht:QL w):
  y9 z7 68 #[q5 (vy r ma mc ca cc pa pc),q5 (vy q z A B C D H),Jw y] w fun e m=>e=y4 (qC r.name q.name (TW y))/\F0 w m:=by
 obtain⟨R,P,X,hP,I,_,Z,a0,b0,d0⟩:=pM w (E (vy r ma mc ca cc pa pc) 120) (E (vy q z A B C D H) 120) (E #[V Y (y.p0:Nat),V Y (y.p1:Nat),V Y (y.p2:Nat),V Y (y.p3:Nat)] 139) (E #[G ⟨#[]⟩,G ⟨#[]⟩,G ⟨#[]⟩,V Y 0,V Y 0,V Y 0] 44)
 have g:F (∀W,Fr (fun k=>k=P+1+1+1) R W->W.cell? ⟨P,0,U⟩=O (G r.name)/\W.cell? ⟨P+1,0,U⟩=O (G q.name)/\W.heap[P+1+1]?=O (E #[V Y (y.p0:Nat),V Y (y.p1:Nat),V Y (y.p2:Nat),V Y (y.p3:Nat)] 139)):=fun W c=>⟨bC (c.whole Z.o (by show¬P=P+1+1+1;omega)) 0 _ rfl,bC (c.whole a0.o (by show¬P+1=P+1+1+1;omega)) 0 _ rfl,c.whole b0.o (by show¬P+1+1=P+1+1+1;omega)⟩
 have e0:F (∀W,y9 z7 96 #[G r.name] W fun e m=>e=y4 (G r.name)/\F0 W m):=fun W=>Vd r.name W h1
 have f0:F (∀W,y9 z7 96 #[G q.name] W fun e m=>e=y4 (G q.name)/\F0 W m):=fun W=>Vd q.name W h2
 have g0:F (∀W,F0 R W->y9 z7 115 #[q5 #[V Y (y.p0:Nat),V Y (y.p1:Nat),V Y (y.p2:Nat),V Y (y.p3:Nat)]] W fun e m=>e=y4 (q5 #[G (TW y).pan,V Y (TW y).mcc,V Y (TW y).am,V Y (TW y).cur])/\F0 W m):=fun W c=>wm y W (ht.fr (I.o.trans c)) hy
 have h0:F (w.heap.size<=P+1+1+1):=aS;generalize TW y=d at*;unfold Jw;clear h1 h2 hy ht;go_enter func68,ntmps68;go_upto_region 1 with fail;clear X hP;have l:F (F0 R R.drew):=Zo.drew;refine wp_region_held_drew (S:=fun W=>W.cell? ⟨P,0,U⟩=O (G r.name)/\W.cell? ⟨P+1,0,U⟩=O (G q.name)/\W.heap[P+1+1]?=O (E #[V Y (y.p0:Nat),V Y (y.p1:Nat),V Y (y.p2:Nat),V Y (y.p3:Nat)] 139)) aC (g.o _ (l.o.mono (fun _ h=>h.elim))) (fun j=>?_);refine U0 0 (v:=?v0z) ?y0z j ?r0z
 case y0z=>
  rintro w ⟨n,s,a⟩;obtain⟨J,K,L,M⟩:=au a;clear a;go_simp
  with_reducible rfl
 try go_frame
 refine U0 1 (v:=?v1z) ?y1z j ?r1z
 case y1z=>
  rintro w ⟨n,s,a⟩;obtain⟨J,K,L,M⟩:=au a;clear a;go_simp
  with_reducible rfl
 try go_frame
 refine U0 3 (v:=?v3z) ?y3z j ?r3z
 case y3z=>
  rintro w ⟨n,s,a⟩;obtain⟨J,K,L,M⟩:=au a;clear a;go_simp
  with_reducible rfl
 try go_frame
 refine U0 4 (v:=?v4z) ?y4z j ?r4z
 case y4z=>
  rintro w ⟨n,s,a⟩;obtain⟨J,K,L,M⟩:=au a;clear a;go_simp
  with_reducible rfl
 try go_frame
 refine U0 6 (v:=?v6z) ?y6z j ?r6z
 case y6z=>
  rintro w ⟨n,s,a⟩;obtain⟨J,K,L,M⟩:=au a;clear a;go_simp
  with_reducible rfl
 try go_frame
 refine XA [2] ?_;refine Zb rfl (fun t i=>?_) z9
 try rw[if_pos aD]
 go_simp;refine(e0.o _).mono ?_;rintro e wa ⟨rfl,c⟩;have N:=o (l.o.trans c);clear c;refine i.out _ _ (g.o _ (N.o.mono (fun _ h=>h.elim))) (fun j=>?_);clear i t
 try go_frame
 refine XA [5] ?_;refine Zb rfl (fun t i=>?_) z9
 try rw[if_pos aD]
 go_simp;refine(f0.o _).mono ?_;rintro e wb ⟨rfl,c⟩;have u:=o (N.o.trans c);clear c;refine i.out _ _ (g.o _ (u.o.mono (fun _ h=>h.elim))) (fun j=>?_);clear i t
 try go_frame
 refine XA [7] ?_;refine Zb rfl (fun t i=>?_) z9
 try rw[if_pos aD]
 go_simp;refine(g0.o _ u.o).mono ?_;rintro e wd ⟨rfl,c⟩;have x:=o (u.o.trans c);clear c;refine i.out _ _ (g.o _ (x.o.mono (fun _ h=>h.elim))) (fun j=>?_);clear i t
 try go_frame
 refine U0 8 (v:=?v8z) ?y8z j ?r8z
 case y8z=>
  rintro w ⟨n,s,a⟩;obtain⟨J,K,L,M⟩:=au a;clear a;go_simp
  with_reducible rfl
 try go_frame
 have b:=o (x.o.whole d0.o);obtain⟨r0,r1,r2,r3,r4,r5⟩:=ax b.o;have z0:=bF b.o;refine XA [9] ?_;refine Zb rfl (fun t i=>?_) z9
 try rw[if_pos aD]
 go_simp;have t0:=heap_setCell_same wd (P+1+1+1) 0 _ _ (G r.name) b.o;have t1:=heap_setCell_same _ (P+1+1+1) 1 _ _ (G q.name) t0;have t2:=heap_setCell_same _ (P+1+1+1) 2 _ _ (G d.pan) t1;have t3:=heap_setCell_same _ (P+1+1+1) 3 _ _ (V Y d.mcc) t2;have t4:=heap_setCell_same _ (P+1+1+1) 4 _ _ (V Y d.am) t3;have t5:=heap_setCell_same _ (P+1+1+1) 5 _ _ (V Y d.cur) t4;have Q:=o (((((((x.o.mono (S:=fun _=>False) (T:=fun k=>k=P+1+1+1) (fun _ h=>h.elim)).setCell (p:=⟨P+1+1+1,0,U⟩) (.inl rfl) (G r.name)).setCell (p:=⟨P+1+1+1,1,U⟩) (.inl rfl) (G q.name)).setCell (p:=⟨P+1+1+1,2,U⟩) (.inl rfl) (G d.pan)).setCell (p:=⟨P+1+1+1,3,U⟩) (.inl rfl) (V Y d.mcc)).setCell (p:=⟨P+1+1+1,4,U⟩) (.inl rfl) (V Y d.am)).setCell (p:=⟨P+1+1+1,5,U⟩) (.inl rfl) (V Y d.cur));have f:=o t5;clear t0 t1 t2 t3 t4 t5 r0 r1 r2 r3 r4 r5 z0;refine i.out _ _ (g.o _ Q.o) (fun j=>?_);clear i t
 try go_frame
 generalize((((((wd.setCell ⟨P+1+1+1,0,U⟩ (G r.name)).setCell ⟨P+1+1+1,1,U⟩ (G q.name)).setCell ⟨P+1+1+1,2,U⟩ (G d.pan)).setCell ⟨P+1+1+1,3,U⟩ (V Y d.mcc)).setCell ⟨P+1+1+1,4,U⟩ (V Y d.am)).setCell ⟨P+1+1+1,5,U⟩ (V Y d.cur))=we at*;refine wpAnyH_done aC ?_ _;go_wp2_with fail;obtain⟨n,s,a,s3,s4,s5⟩:=ax f.o;refine bodyPost_ret (v:=qC r.name q.name d) (by simp[results,results68,go_sem,n,s,a,s3,s4,s5,qC]) rfl ⟨rfl,?_⟩;exact I.o.monoNew Q.o (fun k h=>.inr (aj h0.o))
abbrev uw:=ByteArray×ByteArray×XQ
def F6 (a:List Ze)(i j:Nat):List uw:=match a[i]?,a[j]? with
 |some r,O q=>(match RG (Ug r) (Ug q)with|some y=>[(r.name,q.name,TW y.1)]|none=>[])
 |_,_=>[]
def So (a:List Ze)(i:Nat):Nat->List uw
 |0=>[]
 |k+1=>So a i k++F6 a i (i+1+k)
def Sk (a:List Ze):Nat->List uw
 |0=>[]
 |k+1=>Sk a k++So a k (a.length-(k+1))
def Sl (a:List Ze):List uw:=Sk a a.length
def No (o:uw):List j5:=[G o.1,G o.2.1,G o.2.2.pan,V Y o.2.2.mcc,V Y o.2.2.am,V Y o.2.2.cur]
def XO (l:List uw):List j5:=l.flatMap No
def Fy (l o):XO (l++[o])=XO l++No o:=by simp[XO]
def I2 (a:List Ze)(i:Nat):∀k,(So a i k).length<=k
 |0=>z6 _
 |k+1=>by
  have:=I2 a i k;unfold So;rw[lA]
  have:(F6 a i (i+1+k)).length<=1:=by
   unfold F6
   split
   ·split<;>simp
   simp
  omega
def NX (a:List Ze):∀k,(Sk a k).length<=k*a.length
 |0=>by simp[Sk]
 |k+1=>by
  have b:=NX a k;have c:=I2 a k (a.length-(k+1));unfold Sk;rw[lA,b4,b5];omega
def rj {n r}(h:Ts n r){A2}(b:Tt r){y}(c:RG (Ug r) A2=O y):y.1.p0<1000000:=by
 have d:=(JL (fun i s e=>(Q5 h b i s e).1) c).1
 have f:XI (Ug r) 0 y.1.p0=true:=by
  have:(XI (Ug r) 0 y.1.p0&&(XI (Ug r) 1 y.1.p1&&(XI (Ug r) 2 y.1.p2&&(XI (Ug r) 3 y.1.p3&&true))))=true:=d;rw[Bool.and_eq_true]at this;exact this.1
 have a:Y4 (WW r.digits r.lo r.hi) y.1.p0=true:=by
  have:([WW r.digits r.lo r.hi].any fun s=>Y4 s y.1.p0)=true:=f
  simpa using this
 obtain⟨g1,g2,g3⟩:=h.bn;unfold Y4 WW at a;simp only[Bool.and_eq_true,decide_eq_true_eq]at a
 have g:10^r.digits*10^(6-r.digits)=1000000:=by rw[<-b3,show r.digits+(6-r.digits)=6 from z]
 have j:=q7 (10^(6-r.digits)) (show r.hi+1<=10^r.digits from g2);have k:0<(r.hi+1)*10^(6-r.digits):=Nat.mul_pos z (p9 aB);omega
def QB:(z7.info? 44).map (fun i=>(i.zero,i.size,i.bytes))=O (O (q5 #[G ByteArray.empty,G ByteArray.empty,G ByteArray.empty,V Y 0,V Y 0,V Y 0]),6,72):=n
def ux {w:y6}{b e t c n Q v i j}(h:w.ownsRow b e c v n i)(a:w.heap[Q]?=O (E j t))(d:e≠t):¬v.ownBlock=O Q:=by
 intro f;rcases h.2 with⟨rfl,_⟩|⟨g,k,l,rfl,_,m,_⟩
 ·cases f
 have:g=Q:=by simpa[p5]using f
 subst this;rw[m]at a;injection a with a;injection a with _ a _;exact d a
def KK (w B va c N a nr)(hB:w.cell? ⟨B,1,U⟩=O (Z va N c))(h:sZ w va a)(hN:a.length=N)(h8:N<=8)(I1:N<=c)(I0:∀r,r∈a->Ts nr r/\Tt r)(ht:QL w):
  y9 z7 39 #[H (O ⟨B,0,U⟩)] w fun e w'=>(∃v,e=y4 v/\w'.ownsRow w.heap.size 44 6 v (Sl a).length (XO (Sl a)))/\F0 w w':=by
 have HR:=Za h;have HN:=Za hN;have s0:=Za I0;have HT:=Za ht;have t0:=Za hB;go_enter func39,ntmps39;go_wp2
 go_loopg [3,15] N (fun m ov iv wr=>∃k,k<=N/\m=N-k/\iv=V Y (k:Nat)/\F (wr.ownsRow w.heap.size 44 6 ov (Sk a k).length (XO (Sk a k)))/\F (F0 w wr))
 case atStart=>exact⟨0,az,rfl,rfl,oZ _ _ _ _,Zo⟩
 obtain⟨i,hi,rfl,rfl,HO,J⟩:=hrel;by_cases J1:i<N
 ·have N0:=af i N;have H1:(i:Int)+1<=(N:Int):=az;obtain⟨r,hr⟩:∃r,a[i]?=O r:=⟨_,gE (show i<a.length by have:=HN.o;omega)⟩;obtain⟨g,ma,mc,ca,cc,pa,pc,ea,d,h1,h2⟩:=HR.o i r hr;subst ea
  replace d:∀o v,[j7 r.name,V Y r.rank,V Y r.digits,V Y r.lo,V Y r.hi,Z ma r.mcc.length mc,X r.am.isSome,V Y (r.am.getD (0,0)).1,V Y (r.am.getD (0,0)).2,Z ca r.cur.length cc,X r.decline,X r.cheapest,Z pa r.routes.length pc,V Y r.ahead][o]?=O v->wr.cell? ⟨g,i*14+o,U⟩=O v:=fun o v ho=>(J.o.cell (p:=⟨g,i*14+o,U⟩) (bL w _ (d o v ho))).trans (d o v ho)
  have v0:=d 0 _ rfl;have v1:=d 1 _ rfl;have v2:=d 2 _ rfl;have v3:=d 3 _ rfl;have v4:=d 4 _ rfl;have v5:=d 5 _ rfl;have v6:=d 6 _ rfl;have v7:=d 7 _ rfl;have v8:=d 8 _ rfl;have v9:=d 9 _ rfl;have K1:=d 10 _ rfl;have L1:=d 11 _ rfl;have M1:=d 12 _ rfl;have N1:=d 13 _ rfl;rw[j8]at v0;have O0:=Za h1;have P0:=Za h2;have Q0:=Za hr;have K:=Za (s0.o r (mG hr));have bB:=(J.o.cell (p:=⟨B,1,U⟩) (bL w _ t0.o)).trans t0.o;obtain⟨h0,w0⟩:=WM wr (E #[G r.name,V Y r.rank,V Y r.digits,V Y r.lo,V Y r.hi,Z ma r.mcc.length mc,X r.am.isSome,V Y (r.am.getD (0,0)).1,V Y (r.am.getD (0,0)).2,Z ca r.cur.length cc,X r.decline,X r.cheapest,Z pa r.routes.length pc,V Y r.ahead] 120);go_upto_region 5 with fail;generalize wr.alloc _=w1 at*;obtain⟨Q,hQ⟩:=ad wr.heap.size;rw[hQ]at w0;rw[hQ];have b1:=(h0.o.cell (p:=⟨B,1,U⟩) (bL wr _ bB)).trans bB;obtain⟨aa,R0⟩:∃aa:Option Addr,(if c=i+1 then O ⟨g,0,U⟩else O ⟨g,(i+1)*14,U⟩)=aa:=⟨_,rfl⟩;go_wp2_with fail;obtain⟨M,hM⟩:=ad (N-(i+1));have HM:=Za hM;have S0:=Za R0;rw[hM]
  have T0:F (w1.ownsRow w.heap.size 44 6 u3 (Sk a i++So a i 0).length (XO (Sk a i++So a i 0))):=by
   show q0 _ _ _ _ _ _ _
   rw[show Sk a i++So a i 0=Sk a i from by simp[So]];exact oF HO.o h0.o
  have V0:=Za (J.o.trans h0.o)
  go_loopg [3,28] M (fun mm ov jv wx=>∃j,j<=M/\mm=M-j/\jv=V Y (j:Nat)/\F (wx.ownsRow w.heap.size 44 6 ov (Sk a i++So a i j).length (XO (Sk a i++So a i j)))/\F (wx.heap[Q]?=O (E #[G r.name,V Y r.rank,V Y r.digits,V Y r.lo,V Y r.hi,Z ma r.mcc.length mc,X r.am.isSome,V Y (r.am.getD (0,0)).1,V Y (r.am.getD (0,0)).2,Z ca r.cur.length cc,X r.decline,X r.cheapest,Z pa r.routes.length pc,V Y r.ahead] 120))/\F (F0 w wx))
  case atStart=>exact⟨0,az,rfl,rfl,T0,w0,V0⟩
  obtain⟨j,hj,rfl,rfl,L,W0,t⟩:=hrel;generalize wr=wj at*;obtain⟨oa,oc,ho⟩:=oL L.o;subst ho;obtain⟨P,R⟩:=ad (Sk a i++So a i j).length
  have O1:P<=100:=by
   rw[<-R,lA];have e1:=NX a i;have e2:=I2 a i j;have e3:=Nat.mul_le_mul (show i<=8 by omega) (show a.length<=8 by have:=HN.o;omega);have e4:=HM.o;omega
  have i0:=Za R;rw[R]at L;rw[R];by_cases P1:j<M
  ·have X0:=af j M;have Q1:i+1+j<N:=aj HM.o
   have Y0:aa=O ⟨g,(i+1)*14,U⟩:=by rw[<-S0.o,if_neg az]
   subst Y0;obtain⟨q,hq⟩:∃q,a[i+1+j]?=O q:=⟨_,gE (show i+1+j<a.length by have:=HN.o;omega)⟩;obtain⟨g',S,T,W,a0,b0,e0,u,a1,h3,h4⟩:=(HR.o.fr t.o) (i+1+j) q hq;injection u with u;injection u with u _ _;subst u
   have b:∀o v,[j7 q.name,V Y q.rank,V Y q.digits,V Y q.lo,V Y q.hi,Z S q.mcc.length T,X q.am.isSome,V Y (q.am.getD (0,0)).1,V Y (q.am.getD (0,0)).2,Z W q.cur.length a0,X q.decline,X q.cheapest,Z b0 q.routes.length e0,V Y q.ahead][o]?=O v->wj.cell? ⟨g,(i+1)*14+j*14+o,U⟩=O v:=fun o v ho=>by
    have:=a1 o v ho
    rwa [show(i+1+j)*14+o=(i+1)*14+j*14+o from az]at this
   have x0:=b 0 _ rfl;have x1:=b 1 _ rfl;have x2:=b 2 _ rfl;have x3:=b 3 _ rfl;have x4:=b 4 _ rfl;have x5:=b 5 _ rfl;have x6:=b 6 _ rfl;have x7:=b 7 _ rfl;have x8:=b 8 _ rfl;have x9:=b 9 _ rfl;have R1:=b 10 _ rfl;have S1:=b 11 _ rfl;have T1:=b 12 _ rfl;have V1:=b 13 _ rfl;rw[j8]at x0;have f1:=Za h3;have g1:=Za h4;have y0:=Za (s0.o q (mG hq))
   have x:F (So a i (j+1)=So a i j++(match RG (Ug r) (Ug q)with|some y=>[(r.name,q.name,TW y.1)]|none=>[])):=by
    show _=_
    conv=>lhs;unfold So;unfold F6;rw[Q0.o,hq]
   obtain⟨l,k0⟩:=WM wj (E #[G q.name,V Y q.rank,V Y q.digits,V Y q.lo,V Y q.hi,Z S q.mcc.length T,X q.am.isSome,V Y (q.am.getD (0,0)).1,V Y (q.am.getD (0,0)).2,Z W q.cur.length a0,X q.decline,X q.cheapest,Z b0 q.routes.length e0,V Y q.ahead] 120);go_upto_region 8 with fail;generalize wj.alloc _=w2 at*;obtain⟨Q2,z0⟩:=ad wj.heap.size;rw[z0]at k0;rw[z0];have z:=Za (l.o.whole W0.o);obtain⟨c0,c1,c2,c3,c4,c5,c6,c7,c8,c9,i1,j1,k1,l1⟩:=Z0 z.o;obtain⟨d0,d1,d2,d3,d4,d5,d6,d7,d8,d9,m1,n1,o1,q1⟩:=Z0 k0.o;have n:=Za (DO w2 r q nr ma mc ca cc pa pc S T W a0 b0 e0 K.o y0.o (O0.o.fr (t.o.trans l.o)) (P0.o.fr (t.o.trans l.o)) (f1.o.fr l.o) (g1.o.fr l.o));have r1:=Za (HT.o.fr (t.o.trans l.o));have A0:=Za (t.o.trans l.o);have B0:=Za (oF L.o l.o)
   cases l0:RG (Ug r) (Ug q)with
   |none=>
    rw[l0]at n x;unfold ri at n;unfold Jw at n
    go_wp2_with (go_at_call 67;refine n.o.mono ?_)
    rintro e w3 rfl A;have s:F (F0 w (w3.alloc (E #[V Y 0,V Y 0,V Y 0,V Y 0] 139))):=(A0.o.trans A).alloc _;have s1:=Za ((A.alloc (E #[V Y 0,V Y 0,V Y 0,V Y 0] 139)).whole z.o)
    have m0:F ((w3.alloc (E #[V Y 0,V Y 0,V Y 0,V Y 0] 139)).ownsRow w.heap.size 44 6 (Z oa P oc) (Sk a i++So a i (j+1)).length (XO (Sk a i++So a i (j+1)))):=by
     show q0 _ _ _ _ _ _ _
     rw[x.o,k6,i0.o];exact(oF B0.o A).alloc _
    go_wp2;go_roundg (M-(j+1))
    case measure=>omega
    exact⟨j+1,az,rfl,aE,m0,s1,s⟩
   |some y=>
    rw[l0]at n x;unfold ri at n;unfold Jw at n;have t1:=Za (rj K.o.1 K.o.2 l0)
    go_wp2_with (go_at_call 67;refine n.o.mono ?_)
    rintro e w3 rfl A;have C:=(WM w3 (E #[V Y (y.1.p0:Nat),V Y (y.1.p1:Nat),V Y (y.1.p2:Nat),V Y (y.1.p3:Nat)] 139)).2;have s:=Za (A.alloc (E #[V Y (y.1.p0:Nat),V Y (y.1.p1:Nat),V Y (y.1.p2:Nat),V Y (y.1.p3:Nat)] 139));go_upto_region 9 with fail;generalize w3.alloc _=w4 at*;obtain⟨Q3,C0⟩:=ad w3.heap.size;rw[C0]at C;rw[C0];have f0:=Za (s.o.whole z.o);have D0:=Za (s.o.whole k0.o);obtain⟨c0,c1,c2,c3,c4,c5,c6,c7,c8,c9,i1,j1,k1,l1⟩:=Z0 f0.o;obtain⟨d0,d1,d2,d3,d4,d5,d6,d7,d8,d9,m1,n1,o1,q1⟩:=Z0 D0.o;obtain⟨p0,p1,p2,p3⟩:=au C.o;have n0:=Za (Fx w4 r q y.1 ma mc ca cc pa pc S T W a0 b0 e0 K.o.1.nm y0.o.1.nm t1.o (r1.o.fr s.o));have m0:=Za (oF B0.o s.o);have y1:=Za (A0.o.trans s.o);obtain⟨I,z1⟩:=ad (TW y.1);rw[z1]at n0 x;unfold qC Jw at n0
    go_wp2_with (go_at_call 68;refine n0.o.mono ?_)
    rintro e w5 ⟨rfl,o0⟩;have r0:=Za (oF m0.o o0);have E0:=Za (y1.o.trans o0);have A1:=Za E0.o.size;have g0:=Za (o0.whole f0.o)
    go_wp2_with (at_builtin;refine ao w.heap.size QB underlying41 (Z oa P oc) P (XO (Sk a i++So a i j)) ?h1 ⟨w5.heap.size,0,U⟩ [G r.name,G q.name,G I.pan,V Y I.mcc,V Y I.am,V Y I.cur] ?h2 ?_ (k4:=?h6))
    case h1=>exact r0.o.alloc _
    case h2=>exact q2 (aN w5 (E #[G r.name,G q.name,G I.pan,V Y I.mcc,V Y I.am,V Y I.cur] 44))
    case h6=>have:=A1.o;simp;omega
    intro g2 G0 w8 H0 D W1 _;have B1:F (F0 w w8):=(E0.o.alloc _).grown D (fun k hk=>Or.inr (r0.o.lt k hk).1)
    have C1:F (w8.heap[Q]?=O (E #[G r.name,V Y r.rank,V Y r.digits,V Y r.lo,V Y r.hi,Z ma r.mcc.length mc,X r.am.isSome,V Y (r.am.getD (0,0)).1,V Y (r.am.getD (0,0)).2,Z ca r.cur.length cc,X r.decline,X r.cheapest,Z pa r.routes.length pc,V Y r.ahead] 120)):=by
     have f:Fr (fun k=>(y7 oa P oc).ownBlock=O k) w5 w8:=(Zo.alloc _).grown D (fun k hk=>.inl hk);exact f.whole g0.o (ux r0.o g0.o aB)
    have D1:F (w8.ownsRow w.heap.size 44 6 (Z (O ⟨g2,0,U⟩) (P+1) G0) (Sk a i++So a i (j+1)).length (XO (Sk a i++So a i (j+1)))):=by
     show q0 _ _ _ _ _ _ _
     rw[x.o,<-List.append_assoc,lA,i0.o,Fy];exact H0
    go_wp2;go_roundg (M-(j+1))
    case measure=>omega
    exact⟨j+1,az,rfl,aE,D1,C1,B1⟩
  have X0:=ai j M;have ej:j=M:=az
  have E1:F (wj.ownsRow w.heap.size 44 6 (Z oa P oc) (Sk a (i+1)).length (XO (Sk a (i+1)))):=by
   show q0 _ _ _ _ _ _ _
   have e:Sk a (i+1)=Sk a i++So a i j:=by
    conv=>lhs;unfold Sk
    rw[HN.o,HM.o,ej]
   rw[e,i0.o];exact L.o
  have F1:=t;go_wp2;go_roundg (N-(i+1))
  case measure=>omega
  exact⟨i+1,az,rfl,aE,E1,F1⟩
 have N0:=ai i N;have ei:i=N:=az;have G1:=Za ei;go_wp2;go_ret;refine⟨⟨_,rfl,?_⟩,J.o⟩;have e:=HO.o;unfold Sl;rw[HN.o,<-G1.o];exact e
def zq (w:y6)(T:Nat)(a:List Zf)(R:List Ze):Prop:=KI w T a R/\(∃b c d e,w.cell? ⟨T,0,U⟩=O (H (O ⟨b,0,U⟩))/\Bk w b c d a R e)/\Yh a R/\∀r,r∈R->Tt r
def zq.fr {w w' T a R}(h:zq w T a R)(b:F0 w w'):zq w' T a R:=by
 obtain⟨d,⟨e,f,g,i,c,j⟩,k⟩:=h;exact⟨d.fr b,⟨e,f,g,i,(b.cell (p:=⟨T,0,U⟩) (bL w _ c)).trans c,j.fr b⟩,k⟩
def KL (R:List Ze):List ByteArray:=W7 R R.length
def zr (w T a R)(h:zq w T a R):
  y9 z7 89 #[H (O ⟨T,0,U⟩)] w fun e d=>(∃v,e=y4 v/\d.ownsRow w.heap.size 9 1 v (KL R).length (SY (KL R))/\(KL R=[]->v=Z U 0 0))/\F0 w d:=by
 obtain⟨_,⟨j,t,u,x,y,f⟩,g,k⟩:=h;obtain⟨l,c,e,b⟩:=f.rules;have i:=f.c1;rw[e]at i;have m:=o (zn w j l c R.length R a.length i b rfl g.l8 (fun r b=>⟨g.rl r b,k r b⟩));go_enter func89,ntmps89
 go_wp2_with (go_at_call 140;refine m.o.mono ?_;rintro e z ⟨⟨v,rfl,n⟩,p⟩;have q:=o n;have s:=o p)
 go_ret;exact⟨⟨v,rfl,q.o⟩,s.o⟩
def qO (w:y6)(a:Option Addr)(l:List uw):Prop:=∀k x,l[k]?=O x->∃g,a=O ⟨g,0,U⟩/\∀j v,(No x)[j]?=O v->w.cell? ⟨g,k*6+j,U⟩=O v
def L4:∀(l:List uw)(k:Nat)(x:uw),l[k]?=O x->∀(j:Nat)(v:j5),(No x)[j]?=O v->(XO l)[k*6+j]?=O v
 |[],k,x,h=>by simp at h
 |y::r,0,x,h=>by
  simp at h;subst h;intro j v a;have b:=(iG.1 a).1
  show(No y++XO r)[0*6+j]?=O v
  rw[List.getElem?_append_left z,Nat.zero_mul,Nat.zero_add];exact a
 |y::r,k+1,x,h=>by
  intro j v a;have l:(No y).length=6:=rfl
  show(No y++XO r)[(k+1)*6+j]?=O v
  rw[aR z,l,show(k+1)*6+j-6=k*6+j from z];exact L4 r k x (by simpa using h) j v a
def wu {w b t v l}(h:w.ownsRow b t 6 v l.length (XO l)):∃a c,v=Z a l.length c/\qO w a l:=by
 obtain⟨a,c,e⟩:=oL h;subst e;refine⟨a,c,rfl,fun k x f=>?_⟩;have q:=(iG.1 f).1;obtain⟨g,m,e,_,_⟩:=h.form z;injection e with n r o;subst n o;refine⟨g,rfl,fun j v p=>?_⟩;have i:=h.cells (g:=g) rfl _ _ (L4 l k x f j v p)
 have d:∀k,(⟨g,0,U⟩:Addr).add k=⟨g,k,U⟩:=fun k=>aK
 rw[d]at i;exact i
def wv {W:y6}{b n c j t a l x}(h:W.ownsRow b t 6 (Z a n c) n (XO l))(d:l.length=n)(f:l[j]?=O x):∃g,a=O ⟨g,0,U⟩/\∀o v,(No x)[o]?=O v->W.cell? ⟨g,j*6+o,U⟩=O v:=by
 subst d;obtain⟨k,m,e,i⟩:=wu h;injection e with e _ _;subst e;exact i j x f
def KM (w T a R)(h:zq w T a R)(l:QL w):
  y9 z7 20 #[H (O ⟨T,0,U⟩)] w fun e j=>(∃v,e=y4 v/\j.ownsRow w.heap.size 44 6 v (Sl R).length (XO (Sl R)))/\F0 w j:=by
 obtain⟨_,⟨m,D,E,F,G,f⟩,k,n⟩:=h;obtain⟨p,c,e,d⟩:=f.rules
 have q:R.length<=c:=by
  have b:=f.lo;rw[e]at b;rcases b.2 with⟨i,s⟩|⟨g,t,u,i,_,_,s,_⟩
  ·injection i with _ _ x;omega
  injection i with _ _ x;omega
 have b:=f.c1;rw[e]at b;have y:=o (KK w m p c R.length R a.length b d rfl k.l8 q (fun r d=>⟨k.rl r d,n r d⟩) l);go_enter func20,ntmps20
 go_wp2_with (go_at_call 39;refine y.o.mono ?_;rintro e I ⟨⟨v,rfl,z⟩,A⟩;have B:=o z;have C:=o A)
 go_ret;exact⟨⟨v,rfl,B.o⟩,C.o⟩
