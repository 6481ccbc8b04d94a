import Derived.Test.YtccikgogjfbpeaaGreatDoorMc
open Go.Value renaming slice->I,int->J,bool->Y,pointer->E,string->G,slice->X,oneCell'->z8,string->y5,agg->y7
open Go.IntKind renaming i64->V
open Option renaming some->Z,none->U
open Go.Obj renaming cells->O
open Go.RowKit renaming Hid->H
open Nat renaming le_refl->M,le_trans->z2,mul_le_mul_right->y0,add_zero->y6
open List renaming mem_singleton->L,mem_append->z4,length_map->z7,length->y1,append_nil->y2
open Go renaming World->C,Calls->z9,Value->y4
open Go.Proofs.Tryz renaming prog->F
open Go.Ending renaming returned->z3
open Go.World renaming news_of_block->z5,putObj_heap_other->z6,ownsRow->y3
namespace Go.Proofs.YtccikgogjfbpeaaGreatDoor
set_option maxRecDepth 30000
set_option maxHeartbeats 8000000
open Go.RowKit Go.Shelf
attribute [local go_sem] Oper.semAt_some
theorem FK {w w':C}{a b c:Obj}(h:w'=((w.alloc a).alloc b).alloc c):w'.heap.size=w.heap.size+3/\w'.heap[w.heap.size]?=Z a/\w'.heap[w.heap.size+1]?=Z b/\w'.heap[w.heap.size+1+1]?=Z c/\F0 w w':=by
 subst h;refine⟨by simp,?_,?_,?_,(((Fr.refl _ _).alloc _).alloc _).alloc _⟩
 ·exact(((Fr.refl (fun _=>False) _).alloc _).alloc _).whole (aN w _) (by simp)
 ·exact((Fr.refl (fun _=>False) _).alloc _).whole (by have:=aN (w.alloc a) b;simpa using this) (by simp)
 ·have:=aN ((w.alloc a).alloc b) c
  simpa using this
theorem Qa (A:WH)(b d f g:Rl)(a:Option Addr)(n c:Nat)(w:C):
  z9 F 113 #[.agg #[Xg b A.s0,Xg d A.s1,Xg f A.s2,Xg g A.s3],I a n c] w fun e w'=>∃B,e=z3 (.func (.func 212) #[] #[E (Z ⟨B,0,U⟩),E (Z ⟨B+1+1,0,U⟩),E (Z ⟨B+1,0,U⟩)])/\w.heap.size<=B/\w'.heap.size=B+3/\w'.heap[B]?=Z (O #[J V ((0:Nat):Int)] 3)/\w'.heap[B+1]?=Z (O #[Xg b A.s0,Xg d A.s1,Xg f A.s2,Xg g A.s3] 215)/\w'.heap[B+1+1]?=Z (O #[I a n c] 217)/\F0 w w':=by
 have p:H (∀W,z9 F 172 #[J V 0,.agg #[I b.a A.s0.length b.c,I d.a A.s1.length d.c,I f.a A.s2.length f.c,I g.a A.s3.length g.c],I a n c] W fun e w'=>e=z3 (.func (.func 212) #[] #[E (Z ⟨W.heap.size,0,U⟩),E (Z ⟨W.heap.size+1+1,0,U⟩),E (Z ⟨W.heap.size+1,0,U⟩)])/\w'=((W.alloc (O #[J V ((0:Nat):Int)] 3)).alloc (O #[Xg b A.s0,Xg d A.s1,Xg f A.s2,Xg g A.s3] 215)).alloc (O #[I a n c] 217)):=fun W=>KP 0 A b d f g a n c W
 unfold Xg;go_enter Tryz.func113,Tryz.ntmps113
 go_wp2_with (go_at_call 172;refine(p.o _).mono ?_)
 rintro e w' ⟨rfl,q⟩;obtain⟨h,i,j,k,r⟩:=FK q;have l:H (w.heap.size<=(w.alloc (O #[I b.a A.s0.length b.c,I d.a A.s1.length d.c,I f.a A.s2.length f.c,I g.a A.s3.length g.c] 215)).heap.size/\F0 w (w.alloc (O #[I b.a A.s0.length b.c,I d.a A.s1.length d.c,I f.a A.s2.length f.c,I g.a A.s3.length g.c] 215))):=⟨by simp,(Fr.refl _ _).alloc _⟩;generalize w.alloc (O #[I b.a A.s0.length b.c,I d.a A.s1.length d.c,I f.a A.s2.length f.c,I g.a A.s3.length g.c] 215)=s at*;obtain⟨B,m⟩:∃B,s.heap.size=B:=⟨_,rfl⟩;rw[m]at h i j k l;rw[m];have t:=Za h;have u:=Za i;have v:=Za j;have x:=Za k;have y:=Za r;clear p q h i j k r m;go_wp2_with fail;go_ret;exact⟨B,rfl,l.o.1,t.o,u.o,v.o,x.o,l.o.2.trans y.o⟩
def IJ (A:WH)(es:List X9):Bool:=(XQ A 4 es).any fun y=>y.2==0
theorem KU {A:WH}(a:∀side s,s∈A.at side->s.1<=s.2)(es:List X9):IJ A es=true↔∃p,W7 A 4 p=true/\∀e,e∈es->W7 e.A 4 p=false:=by
 rw[<-FF a];unfold IJ;simp
attribute [local go_sem] Oper.semAt_some
theorem Hv (b lo c:Nat)(d:List Nat)(a:Bool)(e f:Nat)(g:List Nat)(i:Nat):(SP b lo c d a e f g).at i≠[]:=by
 have h:∀(l:List Nat)(m:Nat),Yi l m≠[]:=fun l m=>by
  unfold Yi
  split
  ·simp
  ·rename_i h;simpa using h
 unfold SP WH.at
 split
 ·simp
 ·exact h _ _
 ·simp
 ·exact h _ _
set_option maxRecDepth 100000 in
theorem KV (w:C)(nm:ByteArray)(rk Q lo b:Nat)(ma:Option Addr)(mc:Nat)(t:List Nat)(d:Bool)(X a8:Nat)(ca:Option Addr)(cc:Nat)(u:List Nat)(dc ch:Bool)(pa:Option Addr)(pn pc:Nat)(ah:Nat)(a:Option Addr)(c:Nat)(es:List X9)(hd:Q<=6)(k0:lo<=b)(l0:b<1000000)(hm:Zw w ma t)(m0:t.length<=10)(hc:Zw w ca u)(n0:u.length<=10)
  (he:VF w a es)(hl:es.length<=10)(hb:∀e,e∈es->∀i s,i<4->s∈e.A.at i->s.1<=10000000000/\s.2<=10000000000):
  z9 F 180 #[Kh nm rk Q lo b ma t.length mc d X a8 ca u.length cc dc ch pa pn pc ah,I a es.length c] w fun e w'=>e=z3 (Y (IJ (SP Q lo b t d X a8 u) es))/\F0 w w':=by
 obtain⟨w0,j⟩:∃w0,(w.alloc (Sw nm rk Q lo b ma t.length mc d X a8 ca u.length cc dc ch pa pn pc ah)).alloc (O #[Y false] 4)=w0:=⟨_,rfl⟩;obtain⟨P,hP⟩:∃P,w.heap.size=P:=⟨_,rfl⟩
 have v:H (F0 w w0):=by show Fr _ _ _;rw[<-j];exact((Fr.refl _ _).alloc _).alloc _
 have L0:w0.heap.size=P+2:=by rw[<-j,<-hP];simp
 have a0:H (w0.heap[P]?=Z (Sw nm rk Q lo b ma t.length mc d X a8 ca u.length cc dc ch pa pn pc ah)):=by
  show _=_
  rw[<-j,<-hP];exact((Fr.refl (fun _=>False) _).alloc _).whole (aN w _) (by simp)
 have o0:H (w0.heap[P+1]?=Z (O #[Y false] 4)):=by
  show _=_
  rw[<-j,<-hP];have:=aN (w.alloc (Sw nm rk Q lo b ma t.length mc d X a8 ca u.length cc dc ch pa pn pc ah)) (O #[Y false] 4)
  simpa using this
 have d0:=Za (O2 w0 nm rk Q lo b ma mc t d X a8 ca cc u dc ch pa pn pc ah hd k0 l0 (hm.fr v.o (by simp)) m0 (hc.fr v.o (by simp)) n0);have p0:=Za (Hv Q lo b t d X a8 u);have HE:=Za he;have HL:=Za hl;have q0:=Za hb;generalize SP Q lo b t d X a8 u=A at*;obtain⟨n1,f0⟩:∃n,t.length=n:=⟨_,rfl⟩;obtain⟨n2,g0⟩:∃n,u.length=n:=⟨_,rfl⟩;obtain⟨n3,h0⟩:∃n,es.length=n:=⟨_,rfl⟩;have r0:=Za h0;rw[f0,g0]at a0 d0 j;rw[f0,g0,h0];unfold Sw at a0 j;unfold Kh at d0 ⊢;obtain⟨c0,c1,c2,c3,c4,c5,c6,c7,c8,c9,M0,N0,O0,P0⟩:=ZX a0.o;clear f0 g0 h0 hd k0 l0 hm m0 hc n0 he hl hb;have Q0:=Za hP;refine(callsIn_wide (n:=5)).1 ?_;refine callsIn_of_wp_marks Tryz.func180 rfl trivial ?_ rfl;simp only[Tryz.ntmps180,List.size_toArray,List.length_cons,List.length_nil,Nat.reduceAdd,Nat.reduceSub,Array.replicate_succ,Array.replicate_zero,List.push_toArray,List.append_toArray,List.nil_append,List.cons_append];refine(wpIn_wide (n:=5)).2 (Dn ?_);go_upto_region 1 with fail;clear j hP
 go_wp2_with (go_at_call 114;refine d0.o.mono ?_)
 rintro e w1 ⟨⟨x0,x1,x2,x3,A',rfl,rfl,t0,v0⟩,y0⟩;have i0:=Za (Qa A' x0 x1 x2 x3 a n3 c w1);have A0:=Za t0;have B0:=Za v0;have z:=Za y0;unfold Xg at i0 ⊢;clear t0 v0 y0 d0 c0 c1 c2 c3 c4 c5 c6 c7 c8 c9 M0 N0 O0 P0
 go_wp2_with (go_at_call 113;refine i0.o.mono ?_)
 rintro e w2 ⟨B,rfl,hB,C0,b0,b1,b2,D0⟩;have HB:=Za hB;have E0:=Za C0;have H0:=Za b0;have H1:=Za b1;have H2:=Za b2;have q:=Za D0;clear hB C0 b0 b1 b2 D0 i0;go_wp2_with fail;generalize y7 #[G nm,J V rk,J V Q,J V lo,J V b,I ma n1 mc,Y d,J V X,J V a8,I ca n2 cc,Y dc,Y ch,I pa pn pc,J V ah]=RV;generalize y7 #[I x0.a A'.s0.length x0.c,I x1.a A'.s1.length x1.c,I x2.a A'.s2.length x2.c,I x3.a A'.s3.length x3.c]=AV;have e1:w.heap.size=P:=Q0.o;have e2:=z.o.size;have e3:=q.o.size;have e4:=HB.o;have e5:w2.heap.size=B+3:=E0.o;have o2:w2.heap[P+1]?=Z (O #[Y false] 4):=(z.o.trans q.o).whole o0.o (by simp)
 have f:KS F 212 #[E (Z ⟨B,0,U⟩),E (Z ⟨B+1+1,0,U⟩),E (Z ⟨B+1,0,U⟩)] FH (UW (fun k=>k=P+1) w2.heap.size) (XQ A' 4 es) w2:=by
  have nR:∀i,i≠P+1->i<B+3->¬UW (fun k=>k=P+1) w2.heap.size i:=by
   rintro i h1 h2 (h|h|h)<;>omega
  refine QH A' x0 x1 x2 x3 (fun i _=>p0.o i) 4 (M _) B (B+1+1) (B+1) c _ a es w2 HL.o q0.o (fun W l=>?_);have ba:=l.whole H1.o (nR _ (by omega) (by omega));refine⟨bC (l.whole H0.o (nR _ (by omega) (by omega))) 0 _ rfl,?_,bC ba 0 _ rfl,bC ba 1 _ rfl,bC ba 2 _ rfl,bC ba 3 _ rfl,?_,?_⟩
  ·rw[r0.o];exact bC (l.whole H2.o (nR _ (by omega) (by omega))) 0 _ rfl
  ·refine(A0.o.fr q.o).frS l (fun x hx g o e R0=>?_)
   have h1:=(B0.o x hx g o e).1;rintro(h|h|h)
   ·omega
   ·omega
   ·omega
  ·refine HE.o.old ((((v.o.trans z.o).trans q.o).mono (fun _ h=>h.elim)).trans (l.mono ?_))
   rintro k (h|h|h)<;>(show _<=k;omega)
 obtain⟨xs,j0⟩:∃xs,XQ A' 4 es=xs:=⟨_,rfl⟩;rw[j0]at f
 have G0:H (IJ A' es=xs.any fun y=>y.2==0):=by show _=_;rw[<-j0];rfl
 have N:H (P+1<w2.heap.size):=by show _<_;omega
 have e0:H (F0 w w2):=(v.o.trans z.o).trans q.o
 have I0:H (w.heap.size<=P+1):=by show _<=_;omega
 clear j0 e1 e2 e3 e4 e5 r0 H0 H1 H2 A0 B0 HE HL q0 p0 HB E0 v z q a0 o0 L0;refine(wpIn_wide (n:=2)).1 ?_;refine QG (n:=0) (S:=fun k=>k=P+1) rfl (enters_of Tryz.func212 (by kernel_rfl) rfl) f (Fr.refl _ _) (fun _=>rfl) (by rintro k rfl;exact N.o)
  (fun pre W=>(∀y,y∈pre->y.2≠0)/\(W.heap[P+1]?=Z (O #[Y false] 4)/\Fr (fun k=>k=P+1) w2 W)) (fun co pre W=>(co=.ret/\∃y,y∈pre/\y.2=0)/\(W.heap[P+1]?=Z (O #[Y true] 4)/\Fr (fun k=>k=P+1) w2 W))
  (YA.and (YA.pure (fun(pre:List (UN×Nat))=>∀y,y∈pre->y.2≠0)) (YA.and (YA.block N.o) (YA.fr (M _)))) (fun co=>YA.and (YA.pure (fun(pre:List (UN×Nat))=>co=.ret/\∃y,y∈pre/\y.2=0)) (YA.and (YA.block N.o) (YA.fr (M _)))) ⟨by simp,o2,Fr.refl _ _⟩
  (fun x _ a' _=>a'={tmps:=#[RV,I a n3 c,E (Z ⟨P,0,U⟩),undef,E (Z ⟨P+1,0,U⟩),undef,J V (x.2:Nat),RV,AV,I a n3 c,.func (.func 212) #[] #[E (Z ⟨B,0,U⟩),E (Z ⟨B+1+1,0,U⟩),E (Z ⟨B+1,0,U⟩)],Mu x.1,J V (x.2:Nat),undef,undef],defers:=[]})
  (fun x m a' s W W' row hs hg hr=>hs) ?assign ?body ?done ?stop
 case assign=>
  rintro pre x W K hp b hK;unfold FH
  gi_wp2
  exact hK _ _ (Fr.refl _ _) b rfl
 case body=>
  rintro pre x m a' W hp hm ⟨b,r,l⟩ rfl;have HI:=Za b;have HF:=Za l;have HO:=Za r;have z0:=bC r 0 _ rfl;have z1:=bF r 0;clear b l r o2 f;by_cases hx:x.2=0
  ·have hz:((x.2:Int)==0)=true:=by simp[hx]
   have HX:=Za hx;clear hx
   gi_wp2
   refine⟨(Fr.refl _ _).setCell (p:=⟨P+1,0,U⟩) (.inl (.inl rfl)) _,⟨rfl,x,by simp,HX.o⟩,heap_setCell_same W (P+1) 0 _ _ _ HO.o,HF.o.setCell (p:=⟨P+1,0,U⟩) (.inl rfl) _⟩
  ·have hz:((x.2:Int)==0)=false:=by simp;omega
   have HX:=Za hx;clear hx
   gi_wp2
   refine⟨Fr.refl _ _,fun y R=>?_,HO.o,HF.o⟩;rcases z4.1 R with R|R
   ·exact HI.o y R
   ·rw[L.1 R];exact HX.o
 case done=>
  rintro W ⟨b,r,l⟩ hD;have HI:=Za b;have HF:=Za l;have HO:=Za r;have HD:=Za hD;have z0:=bC r 0 _ rfl;have z1:=bF r 0;clear b l r hD o2 f;go_wp2_with fail;have f1:Fr (fun k=>k=P+1) w2 (W.setCell ⟨P+1,0,U⟩ (Y false)):=HF.o.setCell (p:=⟨P+1,0,U⟩) (.inl rfl) _;have o1:=heap_setCell_same W (P+1) 0 _ _ (Y false) HO.o
  have J0:P+1≠w2.heap.size:=by have:=N.o;omega
  have d1:(W.setCell ⟨P+1,0,U⟩ (Y false)).heap[w2.heap.size]?=Z (.deferred (Z [])):=((Fr.refl (fun k=>k=P+1) W).setCell (p:=⟨P+1,0,U⟩) (.inl rfl) _).whole HD.o (fun e=>J0 e.symm);refine WC [w2.heap.size] _ (by simp) (fun D h=>by rw[L.1 h];exact d1) ?_;have o3:((W.setCell ⟨P+1,0,U⟩ (Y false)).putObj w2.heap.size (.deferred U)).heap[P+1]?=Z (O #[Y false] 4):=(z6 (by omega)).trans o1;refine⟨Y false,?_,?_,?_⟩
  ·have c3:=bC o3 0 _ rfl
   show(results _ _).run _ ((W.setCell ⟨P+1,0,U⟩ (Y false)).putObj w2.heap.size (.deferred U))=_
   simp[results,Tryz.results180,go_sem,c3];rfl
  ·rw[G0.o]
   congr 2
   symm
   rw[List.any_eq_false];intro y R;have:=HI.o y R;simp[this]
  ·exact e0.o.monoNew (f1.mono (T:=fun k=>k=P+1\/k=w2.heap.size) (fun _ h=>.inl h)|>.trans (Rp (.inr rfl) _)) (fun k h=>.inr (by have:=I0.o;have:=e0.o.size;omega))
 case stop=>
  rintro co pre W hp ⟨⟨rfl,y,R,K0⟩,r,l⟩ hD;have HF:=Za l;have HO:=Za r;have HD:=Za hD;have HP:=Za hp;have HY:=Za (show y∈pre/\y.2=0 from⟨R,K0⟩);clear l r hD o2 f R K0 hp
  gi_wp2
  have J0:P+1≠w2.heap.size:=by have:=N.o;omega
  refine WC [w2.heap.size] _ (by simp) (fun D h=>by rw[L.1 h];exact HD.o) ?_;have o3:(W.putObj w2.heap.size (.deferred U)).heap[P+1]?=Z (O #[Y true] 4):=(z6 (by omega)).trans HO.o;refine⟨Y true,?_,?_,?_⟩
  ·have c3:=bC o3 0 _ rfl
   show(results _ _).run _ (W.putObj w2.heap.size (.deferred U))=_
   simp[results,Tryz.results180,go_sem,c3];rfl
  ·rw[G0.o]
   congr 2
   symm
   rw[List.any_eq_true];exact⟨y,HP.o.subset HY.o.1,by simp[HY.o.2]⟩
  ·exact e0.o.monoNew (HF.o.mono (T:=fun k=>k=P+1\/k=w2.heap.size) (fun _ h=>.inl h)|>.trans (Rp (.inr rfl) _)) (fun k h=>.inr (by have:=I0.o;have:=e0.o.size;omega))
structure UJ (r:Zc):Prop where
 m4:r.mcc.length<=4
 mx:∀x,x∈r.mcc->x<=9999
 c4:r.cur.length<=4
 cx:∀x,x∈r.cur->x<=999
 am:∀ab,r.am=Z ab->ab.1<=ab.2
theorem O7 {a:Nat}:∀(l:List Tk)(i:Nat)(ns:List Nat),i<=4->Zr a i l=.ok ns->i+ns.length<=4/\∀x,x∈ns->x<=a
 |[],i,ns,hi,h=>by
  simp only[Zr]at h;injection h with h;subst h;exact⟨by simpa using hi,by simp⟩
 |t::r,i,ns,hi,h=>by
  simp only[Zr]at h
  split at h
  ·cases h
  split at h
  ·cases h
  rename_i g j
  cases b:Zr a (i+1) r with
  |error f=>rw[b]at h;cases h
  |ok d=>
   rw[b]at h;injection h with h;subst h;obtain⟨k,e⟩:=O7 r (i+1) d (by omega) b;refine⟨by simp;omega,fun x c=>?_⟩;rcases List.mem_cons.1 c with rfl|c
   ·omega
   ·exact e x c
theorem IK {b:List Zd}{c:List Zc}{e:XX}{r:Zc}(h:Ym b c e=.ok r):UJ r:=by
 unfold Ym at h
 split at h
 ·cases h
 split at h
 ·cases h
 split at h
 ·cases h
 split at h
 ·cases h
 split at h
 ·cases h
 split at h
 ·cases h
 cases d:Zr 9999 0 e.mcc with
 |error f=>rw[d]at h;cases h
 |ok i=>
  rw[d]at h
  dsimp only at h
  split at h
  ·cases h
  rename_i j
  cases g:Zr 999 0 e.cur with
  |error f=>rw[g]at h;cases h
  |ok k=>
   rw[g]at h
   dsimp only at h
   cases l:ZC b 0 e.act.routes with
   |error f=>rw[l]at h;cases h
   |ok p=>
    rw[l]at h;injection h with h;subst h;have m:=O7 _ 0 _ (by omega) d;have n:=O7 _ 0 _ (by omega) g;refine⟨by have:=m.1;dsimp only;omega,m.2,by have:=n.1;dsimp only;omega,n.2,fun q a=>?_⟩
    dsimp only at a
    cases o:e.amount with
    |none=>rw[o]at a;cases a
    |some s=>
     rw[o]at a j;simp only[Option.map_some,Option.some.injEq]at a;subst a
     simpa using j
theorem O8:∀(g:List Yk)(a:List Zd)(b:List Zc)(p:List Zd×List Zc),(∀r,r∈b->UJ r)->ZZ a b g=.ok p->∀r,r∈p.2->UJ r
 |[],a,b,p,hB,h=>by
  simp only[ZZ]at h;injection h with h;subst h;exact hB
 | .route e::g,a,b,p,hB,h=>by
  cases c:ZJ a e with
  |error f=>rw[Xr (f:=f) (by simp only[VT,c])]at h;cases h
  |ok t=>
   rw[X4 (p:=(a++[t],b)) (by simp only[VT,c])]at h;exact O8 g (a++[t]) b p hB h
 | .rule e::g,a,b,p,hB,h=>by
  cases c:Ym a b e with
  |error f=>rw[Xr (f:=f) (by simp only[VT,c])]at h;cases h
  |ok t=>
   rw[X4 (p:=(a,b++[t])) (by simp only[VT,c])]at h;refine O8 g a (b++[t]) p (fun r d=>?_) h;rcases z4.1 d with d|d
   ·exact hB r d
   ·simp at d
    subst d;exact IK c
theorem Dp {s:ByteArray}{p:List Zd×List Zc}(h:XP s=.ok p):∀r,r∈p.2->UJ r:=by
 unfold XP at h
 split at h
 ·cases h
 cases a:ZL s 0 1 []with
 |error l=>rw[a]at h;cases h
 |ok ts=>
  rw[a]at h
  dsimp only at h
  cases b:Zu ts 0 []with
  |error l=>rw[b]at h;cases h
  |ok c=>
   rw[b]at h;exact O8 _ [] [] p (by simp) h
def VM (r:Zc):WH:=SP r.digits r.lo r.hi r.mcc r.am.isSome (r.am.getD (0,0)).1 (r.am.getD (0,0)).2 r.cur
theorem O9 {l:List Nat}{m:Nat}{s:YL}(h:s∈Yi l m):(l=[]/\s=(0,m))\/∃n,n∈l/\s=(n,n):=by
 unfold Yi at h
 split at h
 ·rename_i e
  exact .inl ⟨e,by simpa using h⟩
 ·obtain⟨n,a,rfl⟩:=List.mem_map.1 h
  exact .inr ⟨n,a,rfl⟩
theorem Rq {n:Nat}{r:Zc}(h:UL n r)(b:UJ r)(i:Nat)(s:YL)(a:s∈(VM r).at i):s.1<=s.2/\s.1<=10000000000/\s.2<=10000000000:=by
 have d:∀(l:List Nat)(m:Nat),m<=10000->(∀x,x∈l->x<=m)->s∈Yi l m->s.1<=s.2/\s.1<=10000000000/\s.2<=10000000000:=fun l m p g h=>by
  rcases O9 h with⟨_,rfl⟩|⟨n,j,rfl⟩
  ·exact⟨by simp,by simp,by dsimp only;omega⟩
  ·have:=g n j
   exact⟨M _,by dsimp only;omega,by dsimp only;omega⟩
 unfold VM SP WH.at at a
 split at a
 ·simp only[L]at a
  subst a;obtain⟨k,e,o⟩:=h.bn;unfold Wu;have c:0<10^(6-r.digits):=Nat.pow_pos (by decide)
  have q:10^r.digits*10^(6-r.digits)=1000000:=by rw[<-Nat.pow_add,show r.digits+(6-r.digits)=6 from by omega]
  have t:=y0 (10^(6-r.digits)) o;have u:=y0 (10^(6-r.digits)) (show r.hi+1<=10^r.digits from e)
  have v:(r.hi+1)*10^(6-r.digits)=r.hi*10^(6-r.digits)+10^(6-r.digits):=by rw[Nat.add_mul,Nat.one_mul]
  dsimp only
  omega
 ·exact d _ _ (by omega) b.mx a
 ·simp only[L]at a
  subst a
  cases c:r.am with
  |none=>simp
  |some f=>
   have k:=b.am f c;have e:=h.am f c;simp;omega
 ·exact d _ _ (by omega) b.cx a
def BA (w:C)(d:Option Addr)(a:List Zc):Prop:=∀j r,a[j]?=Z r->∃g b e c f h i,d=Z ⟨g,0,U⟩/\
 (∀o v,[y5 r.name,J V r.rank,J V r.digits,J V r.lo,J V r.hi,I b r.mcc.length e,Y r.am.isSome,J V (r.am.getD (0,0)).1,J V (r.am.getD (0,0)).2,I c r.cur.length f,Y r.decline,Y r.cheapest,I h r.routes.length i,J V r.ahead][o]?=Z v->w.cell? ⟨g,j*14+o,U⟩=Z v)/\
 Zw w b r.mcc/\Zw w c r.cur
theorem BA.fr {w w':C}{c:Option Addr}{a:List Zc}(h:BA w c a)(b:F0 w w'):BA w' c a:=by
 intro j r i;obtain⟨g,k,l,m,n,q,s,e,d,t,u⟩:=h j r i;exact⟨g,k,l,m,n,q,s,e,fun o v f=>(b.cell (p:=⟨g,j*14+o,U⟩) (bL w _ (d o v f)) (by simp)).trans (d o v f),t.fr b (by simp),u.fr b (by simp)⟩
theorem Bk.rules {w:C}{B:Nat}{k f:y4}{d:List Zd}{a:List Zc}{l:List y4}(h:Bk w B k f d a l):∃b c,f=I b a.length c/\BA w b a:=by
 obtain⟨b,c,e⟩:=oL h.lo;refine⟨b,c,e,fun j r m=>?_⟩;obtain⟨g,z,n,o,p,q,s,t,i,_,_,u,v,x,_⟩:=h.rule m;rw[e]at i;injection i with y A D;exact⟨g,n,o,p,q,s,t,y,u,Zw.of v,Zw.of x⟩
def FL (a:List Zc)(b j:Nat):Bool:=match a[j]?,a[b]? with
 |some r,Z q=>decide (q.rank<r.rank)||(decide (r.rank=q.rank)&&decide (j<b))
 |_,_=>false
def V2 (a:List Zc)(b:Nat):Nat->List WH
 |0=>[]
 |k+1=>V2 a b k++(match a[k]? with|some r=>if FL a b k then[VM r]else[]|none=>[])
theorem Qb (a:List Zc)(b:Nat):∀k,(V2 a b k).length<=k
 |0=>M _
 |k+1=>by
  have:=Qb a b k;unfold V2;rw[lA]
  split
  ·split<;>simp<;>omega
  ·simp;omega
theorem Qc (a:List Zc)(f:Nat)(A:WH):∀k,A∈V2 a f k↔∃j r,j<k/\a[j]?=Z r/\FL a f j=true/\A=VM r
 |0=>by simp[V2]
 |k+1=>by
  have g:=Qc a f A k;unfold V2;rw[z4,g]
  constructor
  ·rintro(⟨j,r,i,b,c,d⟩|h)
   ·exact⟨j,r,by omega,b,c,d⟩
   ·split at h
    ·rename_i r l
     split at h
     ·rename_i m
      exact⟨k,r,by omega,l,m,by simpa using h⟩
     ·cases h
    ·cases h
  ·rintro⟨j,r,i,b,c,d⟩
   by_cases e:j<k
   ·exact .inl ⟨j,r,e,b,c,d⟩
   ·obtain rfl:j=k:=by omega
    right
    rw[b];simp[c,d]
def IL (w:C)(A:WH)(e:Ending)(w':C):Prop:=(∃b d f g,e=z3 (.agg #[I b.a A.s0.length b.c,I d.a A.s1.length d.c,I f.a A.s2.length f.c,I g.a A.s3.length g.c])/\QD w' A b d f g/\UV w.heap.size w'.heap.size b d f g)/\F0 w w'
theorem Sr (w:C)(r:Zc)(n:Nat)(b:Option Addr)(d:Nat)(c:Option Addr)(f:Nat)(g:Option Addr)(h:Nat)(a:UL n r)(i:UJ r)(j:Zw w b r.mcc)(k:Zw w c r.cur):
  z9 F 114 #[.agg #[G r.name,J V r.rank,J V r.digits,J V r.lo,J V r.hi,I b r.mcc.length d,Y r.am.isSome,J V (r.am.getD (0,0)).1,J V (r.am.getD (0,0)).2,I c r.cur.length f,Y r.decline,Y r.cheapest,I g r.routes.length h,J V r.ahead]] w (IL w (VM r)):=by
 refine(O2 w r.name r.rank r.digits r.lo r.hi b d r.mcc r.am.isSome (r.am.getD (0,0)).1 (r.am.getD (0,0)).2 c f r.cur r.decline r.cheapest g r.routes.length h r.ahead a.bn.1 a.bn.2.2 (nL a.bn.2.1 (Cp a.bn.1)) j (z2 i.m4 (by decide)) k (z2 i.c4 (by decide))).mono ?_;rintro e w' ⟨⟨l,m,o,p,A,rfl,rfl,q,s⟩,t⟩;exact⟨⟨l,m,o,p,rfl,q,s⟩,t⟩
structure Rr (w:C)(ov:y4)(As:List WH)(es:List X9)(wr:C):Prop where
 ar:es.map X9.A=As
 ro:wr.ownsRow w.heap.size 215 4 ov es.length (WI es)
 ok:∀e,e∈es->e.ok wr/\∀x,x=e.x0\/x=e.x1\/x=e.x2\/x=e.x3->∀g o,x.a=Z ⟨g,o,U⟩->g<wr.heap.size/\ov.ownBlock≠Z g
 fr:F0 w wr
theorem Rr.more {w wr a:C}{d:y4}{f:List WH}{es:List X9}(h:Rr w d f es wr)(b:F0 wr a):Rr w d f es a:=
 ⟨h.ar,oF h.ro b (by simp),fun e c=>⟨(h.ok e c).1.fr b,fun x i g o j=>⟨nL ((h.ok e c).2 x i g o j).1 b.size,((h.ok e c).2 x i g o j).2⟩⟩,h.fr.trans b⟩
theorem Rr.app {w wr i B:C}{q:Option Addr}{r s:Nat}{N:List WH}{es:List X9}{A:WH}{j l m n:Rl}{t d:Nat}(h:Rr w (I q r s) N es wr)(P:F0 wr i)(G:QD i A j l m n)(p:UV wr.heap.size i.heap.size j l m n)
  (u:B.ownsRow w.heap.size 215 4 (I (Z ⟨t,0,U⟩) (es.length+1) d) (es.length+1) (WI es++R5 ⟨A,j,l,m,n⟩))(f:(i.alloc (O #[Xg j A.s0,Xg l A.s1,Xg m A.s2,Xg n A.s3] 215)).grownBy B (X q r s).ownBlock)(H:(X q r s).ownBlock=Z t\/(i.alloc (O #[Xg j A.s0,Xg l A.s1,Xg m A.s2,Xg n A.s3] 215)).heap.size<=t):
  Rr w (I (Z ⟨t,0,U⟩) (es.length+1) d) (N++[A]) (es++[⟨A,j,l,m,n⟩]) B:=by
 have J:=h.more P;have D:Fr (fun k=>(X q r s).ownBlock=Z k) i B:=((Fr.refl _ _).alloc _).grown f (fun k K=>.inl K)
 have Q:i.heap.size<(i.alloc (O #[Xg j A.s0,Xg l A.s1,Xg m A.s2,Xg n A.s3] 215)).heap.size:=by simp
 have v:∀g,g<i.heap.size->(X q r s).ownBlock≠Z g->(X (Z ⟨t,0,U⟩) (es.length+1) d).ownBlock≠Z g:=by
  intro g S M e
  have b:t=g:=by simpa[Value.ownBlock]using e
  subst b;rcases H with E|E
  ·exact M E
  ·omega
 refine⟨by simp[h.ar],?_,fun e y=>?_,(J.fr.alloc _).grown f (fun k K=>.inr (J.ro.lt k K).1)⟩
 ·rw[Q8,lA]
  exact u
 ·rcases z4.1 y with y|y
  ·obtain⟨E,F⟩:=J.ok e y
   exact⟨QD.frS E D (fun x c g o b _=>(F x c g o b).2),fun x c g o b=>⟨nL (F x c g o b).1 D.size,v g (F x c g o b).1 (F x c g o b).2⟩⟩
  ·rw[L.1 y]
   have z:∀x,x=j\/x=l\/x=m\/x=n->∀g o,x.a=Z ⟨g,o,U⟩->(X q r s).ownBlock≠Z g:=fun x c g o b R=>by
    have:=(h.ro.lt g R).2;have:=(p x c g o b).1;omega
   exact⟨QD.frS G D (fun x c g o b _=>z x c g o b),fun x c g o b=>⟨nL (p x c g o b).2 D.size,v g (p x c g o b).2 (z x c g o b)⟩⟩
theorem IM (w:C)(va:Option Addr)(c N i:Nat)(d:List Zc)(nr:Nat)(h:BA w va d)(hN:d.length=N)(h8:N<=8)(k0:i<N)(l0:∀r,r∈d->UL nr r/\UJ r):
  z9 F 181 #[I va N c,J V (i:Nat)] w fun e w'=>(∃a cc es,e=z3 (I a es.length cc)/\es.map X9.A=V2 d i N/\VF w' a es)/\F0 w w':=by
 obtain⟨ii,hi,m0,n0,o0⟩:=info_parts SM;have HR:=Za h;have HN:=Za hN;have p0:=Za l0
 have I0:(i:Int)<(N:Int):=by omega
 have y0:=Za k0;clear h hN l0 k0;go_enter Tryz.func181,Tryz.ntmps181;go_wp2_with fail
 go_loopg [5,10] N (fun m ov iv wr=>∃k es,k<=N/\m=N-k/\iv=J V (k:Nat)/\H (Rr w ov (V2 d i k) es wr))
 case atStart=>exact⟨0,[],by omega,rfl,rfl,rfl,oZ _ _ _ _,by simp,Fr.refl _ _⟩
 case round=>
  obtain⟨k,es,hk,rfl,rfl,t⟩:=hrel;by_cases J0:k<N
  ·have z0:(k:Int)<(N:Int):=by omega
   obtain⟨oa,oc,ho⟩:=oL t.o.ro;subst ho;obtain⟨r,hr⟩:∃r,d[k]?=Z r:=⟨_,gE (show k<d.length by have:=HN.o;omega)⟩;obtain⟨q,hq⟩:∃q,d[i]?=Z q:=⟨_,gE (show i<d.length by have:=HN.o;have:=y0.o;omega)⟩;obtain⟨g,ma,mc,ca,cc,pa,pc,ea,E,h1,h2⟩:=(HR.o.fr t.o.fr) k r hr;obtain⟨g',_,_,_,_,_,_,q0,r0,_,_⟩:=(HR.o.fr t.o.fr) i q hq
   have eg:g'=g:=by rw[ea]at q0;injection q0 with e;injection e with e;exact e.symm
   subst eg ea;have p1:=r0 1 _ rfl;have v0:=E 0 _ rfl;have v1:=E 1 _ rfl;have v2:=E 2 _ rfl;have v3:=E 3 _ rfl;have v4:=E 4 _ rfl;have v5:=E 5 _ rfl;have v6:=E 6 _ rfl;have v7:=E 7 _ rfl;have v8:=E 8 _ rfl;have v9:=E 9 _ rfl;have A0:=E 10 _ rfl;have B0:=E 11 _ rfl;have C0:=E 12 _ rfl;have D0:=E 13 _ rfl;rw[y6]at v0;have t0:=Za h1;have w0:=Za h2;have K:=Za hr;have E0:=Za hq;clear E r0 h1 h2 hr hq;go_upto_region 5 with fail;have u:H ((wr.alloc (O #[G r.name,J V r.rank,J V r.digits,J V r.lo,J V r.hi,I ma r.mcc.length mc,Y r.am.isSome,J V (r.am.getD (0,0)).1,J V (r.am.getD (0,0)).2,I ca r.cur.length cc,Y r.decline,Y r.cheapest,I pa r.routes.length pc,J V r.ahead] 120)).heap[wr.heap.size]?=Z (O #[G r.name,J V r.rank,J V r.digits,J V r.lo,J V r.hi,I ma r.mcc.length mc,Y r.am.isSome,J V (r.am.getD (0,0)).1,J V (r.am.getD (0,0)).2,I ca r.cur.length cc,Y r.decline,Y r.cheapest,I pa r.routes.length pc,J V r.ahead] 120)):=aN wr _;have n:H (F0 wr (wr.alloc (O #[G r.name,J V r.rank,J V r.digits,J V r.lo,J V r.hi,I ma r.mcc.length mc,Y r.am.isSome,J V (r.am.getD (0,0)).1,J V (r.am.getD (0,0)).2,I ca r.cur.length cc,Y r.decline,Y r.cheapest,I pa r.routes.length pc,J V r.ahead] 120))):=(Fr.refl _ _).alloc _;generalize wr.alloc (O #[G r.name,J V r.rank,J V r.digits,J V r.lo,J V r.hi,I ma r.mcc.length mc,Y r.am.isSome,J V (r.am.getD (0,0)).1,J V (r.am.getD (0,0)).2,I ca r.cur.length cc,Y r.decline,Y r.cheapest,I pa r.routes.length pc,J V r.ahead] 120)=w1 at*;obtain⟨Q,hQ⟩:∃Q,wr.heap.size=Q:=⟨_,rfl⟩;rw[hQ]at u
   rw[hQ];have HQ:=Za hQ;have p2:=(n.o.cell (p:=⟨g',i*14+1,U⟩) (bL wr _ p1) (by simp)).trans p1;obtain⟨c0,c1,c2,c3,c4,c5,c6,c7,c8,c9,v,y,z,B⟩:=ZX u.o;clear p1 v0 v1 v2 v3 v4 v5 v6 v7 v8 v9 A0 B0 C0 D0 hQ;obtain⟨b,hb⟩:∃b,FL d i k=b:=⟨_,rfl⟩
   have D:(decide (q.rank<r.rank)||(decide (r.rank=q.rank)&&decide (k<i)))=b:=by rw[<-hb];unfold FL;rw[K.o,E0.o]
   have HB:=Za hb;clear hb;by_cases g1:q.rank<r.rank
   ·have d1:decide (q.rank<r.rank)=true:=by simp[g1]
    have eb:b=true:=by rw[<-D];simp[g1]
    subst eb;clear D g1
    go_quiet (fail)
    have j:H (F0 wr (w1.drewN nq)):=n.o.trans ⟨rfl,rfl,rfl,M _,fun _ _ _=>rfl⟩;have h0:H ((w1.drewN nq).heap[Q]?=Z (O #[G r.name,J V r.rank,J V r.digits,J V r.lo,J V r.hi,I ma r.mcc.length mc,Y r.am.isSome,J V (r.am.getD (0,0)).1,J V (r.am.getD (0,0)).2,I ca r.cur.length cc,Y r.decline,Y r.cheapest,I pa r.routes.length pc,J V r.ahead] 120)):=u.o;clear p2 c0 c1 c2 c3 c4 c5 c6 c7 c8 c9 v y z B u n;generalize w1.drewN nq=w2 at*;obtain⟨c0,c1,c2,c3,c4,c5,c6,c7,c8,c9,v,y,z,B⟩:=ZX h0.o;have L:=p0.o r (mG K.o);have a0:=Za (Sr w2 r nr ma mc ca cc pa pc L.1 L.2 (t0.o.fr j.o (by simp)) (w0.o.fr j.o (by simp)));clear L
    go_wp2_with (go_at_call 114;refine a0.o.mono ?_)
    rintro e w5 ⟨⟨W,X,x2,x3,rfl,b0,P⟩,d0⟩
    have HE:H (V2 d i (k+1)=V2 d i k++[VM r]):=by
     show _=_
     conv=>lhs;unfold V2;rw[K.o]
     simp[HB.o]
    generalize VM r=A at*;have i0:=Za b0
    have j0:H (UV wr.heap.size w5.heap.size W X x2 x3):=fun x hx g o e=>⟨z2 j.o.size (P x hx g o e).1,(P x hx g o e).2⟩
    have R:=Za (j.o.trans d0);have e0:=Za (t.o.more R.o).ro;obtain⟨nn,s⟩:∃nn,es.length=nn:=⟨_,rfl⟩
    have G0:nn<=8:=by
     have h1:=congrArg y1 t.o.ar;have h2:=Qb d i k;rw[z7]at h1;omega
    have f0:=Za s;rw[s]at e0;rw[s];clear b0 P d0 a0 c0 c1 c2 c3 c4 c5 c6 c7 c8 c9 v y z B s
    go_wp2_with (at_builtin;refine wpList_append_lies _ rfl (.tmp 38) (.tmp 41) 217 rfl w.heap.size 215 ii _ 4 96 Tryz.underlying217 hi m0 n0 o0 rfl (by decide) (I oa nn oc) nn (WI es) rfl ?h1a ⟨w5.heap.size,0,U⟩ 1 1 [I W.a A.s0.length W.c,I X.a A.s1.length X.c,I x2.a A.s2.length x2.c,I x3.a A.s3.length x3.c] rfl rfl ?h2a ?h3a (by decide) ?h4a ?h5a ?h6a _ rfl ?h7a)
    case h1a=>exact e0.o.alloc _
    case h2a=>exact z5 (aN w5 (O #[I W.a A.s0.length W.c,I X.a A.s1.length X.c,I x2.a A.s2.length x2.c,I x3.a A.s3.length x3.c] 215))
    case h3a=>simp[z8]
    case h4a=>unfold maxLen;omega
    case h5a=>omega
    case h6a=>have:=R.o.size;have:=t.o.fr.size;simp;omega
    case h7a=>
     intro g2 g0 w8 l f S _
     have T:H (Rr w (I (Z ⟨g2,0,U⟩) (nn+1) g0) (V2 d i (k+1)) (es++[⟨A,W,X,x2,x3⟩]) w8):=by
      show Rr _ _ _ _ _
      rw[HE.o,<-f0.o];rw[<-f0.o]at l f S;exact t.o.app R.o i0.o j0.o l f (S.imp id (fun e=>by rw[e];simp))
     clear l f S;go_wp2_with fail;go_roundg (N-(k+1))
     case measure=>omega
     case rel=>exact⟨k+1,_,by omega,rfl,by go_num,T⟩
   ·have d1:decide (q.rank<r.rank)=false:=by simp[g1]
    by_cases g2:r.rank=q.rank
    ·have d2:((r.rank:Int)==(q.rank:Int))=true:=by simp[g2]
     have d3:decide (r.rank=q.rank)=true:=by simp[g2]
     by_cases g3:k<i
     ·have d4:decide (k<i)=true:=by simp[g3]
      have eb:b=true:=by rw[<-D];simp[g2,g3]
      subst eb;clear D g1 g2 g3
      go_quiet (fail)
      have j:H (F0 wr (w1.drewN nq)):=n.o.trans ⟨rfl,rfl,rfl,M _,fun _ _ _=>rfl⟩;have h0:H ((w1.drewN nq).heap[Q]?=Z (O #[G r.name,J V r.rank,J V r.digits,J V r.lo,J V r.hi,I ma r.mcc.length mc,Y r.am.isSome,J V (r.am.getD (0,0)).1,J V (r.am.getD (0,0)).2,I ca r.cur.length cc,Y r.decline,Y r.cheapest,I pa r.routes.length pc,J V r.ahead] 120)):=u.o;clear p2 c0 c1 c2 c3 c4 c5 c6 c7 c8 c9 v y z B u n;generalize w1.drewN nq=w2 at*;obtain⟨c0,c1,c2,c3,c4,c5,c6,c7,c8,c9,v,y,z,B⟩:=ZX h0.o;have L:=p0.o r (mG K.o);have a0:=Za (Sr w2 r nr ma mc ca cc pa pc L.1 L.2 (t0.o.fr j.o (by simp)) (w0.o.fr j.o (by simp)));clear L
      go_wp2_with (go_at_call 114;refine a0.o.mono ?_)
      rintro e w5 ⟨⟨W,X,x2,x3,rfl,b0,P⟩,d0⟩
      have HE:H (V2 d i (k+1)=V2 d i k++[VM r]):=by
       show _=_
       conv=>lhs;unfold V2;rw[K.o]
       simp[HB.o]
      generalize VM r=A at*;have i0:=Za b0
      have j0:H (UV wr.heap.size w5.heap.size W X x2 x3):=fun x hx g o e=>⟨z2 j.o.size (P x hx g o e).1,(P x hx g o e).2⟩
      have R:=Za (j.o.trans d0);have e0:=Za (t.o.more R.o).ro;obtain⟨nn,s⟩:∃nn,es.length=nn:=⟨_,rfl⟩
      have G0:nn<=8:=by
       have h1:=congrArg y1 t.o.ar;have h2:=Qb d i k;rw[z7]at h1;omega
      have f0:=Za s;rw[s]at e0;rw[s];clear b0 P d0 a0 c0 c1 c2 c3 c4 c5 c6 c7 c8 c9 v y z B s
      go_wp2_with (at_builtin;refine wpList_append_lies _ rfl (.tmp 38) (.tmp 41) 217 rfl w.heap.size 215 ii _ 4 96 Tryz.underlying217 hi m0 n0 o0 rfl (by decide) (I oa nn oc) nn (WI es) rfl ?h1b ⟨w5.heap.size,0,U⟩ 1 1 [I W.a A.s0.length W.c,I X.a A.s1.length X.c,I x2.a A.s2.length x2.c,I x3.a A.s3.length x3.c] rfl rfl ?h2b ?h3b (by decide) ?h4b ?h5b ?h6b _ rfl ?h7b)
      case h1b=>exact e0.o.alloc _
      case h2b=>exact z5 (aN w5 (O #[I W.a A.s0.length W.c,I X.a A.s1.length X.c,I x2.a A.s2.length x2.c,I x3.a A.s3.length x3.c] 215))
      case h3b=>simp[z8]
      case h4b=>unfold maxLen;omega
      case h5b=>omega
      case h6b=>have:=R.o.size;have:=t.o.fr.size;simp;omega
      case h7b=>
       intro g2 g0 w8 l f S _
       have T:H (Rr w (I (Z ⟨g2,0,U⟩) (nn+1) g0) (V2 d i (k+1)) (es++[⟨A,W,X,x2,x3⟩]) w8):=by
        show Rr _ _ _ _ _
        rw[HE.o,<-f0.o];rw[<-f0.o]at l f S;exact t.o.app R.o i0.o j0.o l f (S.imp id (fun e=>by rw[e];simp))
       clear l f S;go_wp2_with fail;go_roundg (N-(k+1))
       case measure=>omega
       case rel=>exact⟨k+1,_,by omega,rfl,by go_num,T⟩
     ·have d4:decide (k<i)=false:=by simp[g3]
      have eb:b=false:=by rw[<-D];simp[g2,g3]
      subst eb;clear D g1 g2 g3
      go_quiet (fail)
      have j:H (F0 wr (w1.drewN nq)):=n.o.trans ⟨rfl,rfl,rfl,M _,fun _ _ _=>rfl⟩
      have T:H (Rr w (I oa es.length oc) (V2 d i (k+1)) es (w1.drewN nq)):=by
       show Rr _ _ _ _ _
       have e:V2 d i (k+1)=V2 d i k:=by
        conv=>lhs;unfold V2;rw[K.o]
        simp[HB.o]
       rw[e];exact t.o.more j.o
      clear p2 c0 c1 c2 c3 c4 c5 c6 c7 c8 c9 v y z B u n;generalize w1.drewN nq=w2 at*;go_wp2_with fail;go_roundg (N-(k+1))
      case measure=>omega
      case rel=>exact⟨k+1,_,by omega,rfl,by go_num,T⟩
    ·have d2:((r.rank:Int)==(q.rank:Int))=false:=by simp;omega
     have d3:decide (r.rank=q.rank)=false:=by simp[g2]
     have eb:b=false:=by rw[<-D];simp[g1,g2]
     subst eb;clear D g1 g2
     go_quiet (fail)
     have j:H (F0 wr (w1.drewN nq)):=n.o.trans ⟨rfl,rfl,rfl,M _,fun _ _ _=>rfl⟩
     have T:H (Rr w (I oa es.length oc) (V2 d i (k+1)) es (w1.drewN nq)):=by
      show Rr _ _ _ _ _
      have e:V2 d i (k+1)=V2 d i k:=by
       conv=>lhs;unfold V2;rw[K.o]
       simp[HB.o]
      rw[e];exact t.o.more j.o
     clear p2 c0 c1 c2 c3 c4 c5 c6 c7 c8 c9 v y z B u n;generalize w1.drewN nq=w2 at*;go_wp2_with fail;go_roundg (N-(k+1))
     case measure=>omega
     case rel=>exact⟨k+1,_,by omega,rfl,by go_num,T⟩
  ·have z0:¬(k:Int)<(N:Int):=by omega
   have ek:k=N:=by omega
   have H0:=Za ek;clear ek;obtain⟨oa,oc,ho⟩:=oL t.o.ro;subst ho;go_wp2_with fail;go_ret;obtain⟨a',c',e1,h1,_⟩:=Hu t.o.ro (fun e he=>(t.o.ok e he).1);rw[e1];refine⟨⟨a',c',es,rfl,?_,h1⟩,t.o.fr⟩;rw[t.o.ar,H0.o]
def Dq (A:WH)(a:List WH):Bool:=IJ A (a.map fun B=>⟨B,⟨U,0⟩,⟨U,0⟩,⟨U,0⟩,⟨U,0⟩⟩)
theorem KW {A:WH}(b:∀side s,s∈A.at side->s.1<=s.2)(a:List WH):Dq A a=true↔∃p,W7 A 4 p=true/\∀B,B∈a->W7 B 4 p=false:=by
 unfold Dq;rw[KU b];simp
theorem Cv {A:WH}(a:∀side s,s∈A.at side->s.1<=s.2)(es:List X9):IJ A es=Dq A (es.map X9.A):=by
 rw[Bool.eq_iff_iff,KU a,KW a];simp
def Sd (a:List Zc)(j:Nat):Bool:=match a[j]? with
 |some r=>Dq (VM r) (V2 a j a.length)
 |none=>false
def Wv (a:List Zc):Nat->List ByteArray
 |0=>[]
 |k+1=>Wv a k++(match a[k]? with|some r=>if Sd a k then[]else[r.name]|none=>[])
theorem Na (a:List Zc):∀k,(Wv a k).length<=k
 |0=>M _
 |k+1=>by
  have:=Na a k;unfold Wv;rw[lA]
  split
  ·split<;>simp<;>omega
  ·simp;omega
def Se (l:List ByteArray):List y4:=l.map y5
theorem FM (w:C)(B:Nat)(va:Option Addr)(c N:Nat)(a:List Zc)(nr:Nat)(hB:w.cell? ⟨B,1,U⟩=Z (I va N c))(h:BA w va a)(hN:a.length=N)(h8:N<=8)(r0:∀r,r∈a->UL nr r/\UJ r):
  z9 F 140 #[E (Z ⟨B,0,U⟩)] w fun e w'=>(∃v,e=z3 v/\w'.ownsRow w.heap.size 9 1 v (Wv a N).length (Se (Wv a N))/\(Wv a N=[]->v=I U 0 0))/\F0 w w':=by
 obtain⟨ij,I0,J0,K0,L0⟩:=info_parts SJ;have HR:=Za h;have HN:=Za hN;have g0:=Za r0;have t0:=Za hB;clear h hN r0;go_enter Tryz.func140,Tryz.ntmps140;go_wp2_with fail;clear hB
 go_loopg [3,11] N (fun m ov iv wr=>∃k,k<=N/\m=N-k/\iv=J V (k:Nat)/\H (wr.ownsRow w.heap.size 9 1 ov (Wv a k).length (Se (Wv a k)))/\H (Wv a k=[]->ov=I U 0 0)/\H (F0 w wr))
 case atStart=>exact⟨0,by omega,rfl,rfl,oZ _ _ _ _,fun _=>rfl,Fr.refl _ _⟩
 case round=>
  obtain⟨k,hk,rfl,rfl,HO,HZ,D⟩:=hrel;obtain⟨oa,oc,ho⟩:=oL HO.o;subst ho;by_cases M0:k<N
  ·have N0:(k:Int)<(N:Int):=by omega
   obtain⟨r,hr⟩:∃r,a[k]?=Z r:=⟨_,gE (show k<a.length by have:=HN.o;omega)⟩;obtain⟨g,ma,mc,ca,cc,pa,pc,ea,f,h1,h2⟩:=(HR.o.fr D.o) k r hr;subst ea;have v0:=f 0 _ rfl;have v1:=f 1 _ rfl;have v2:=f 2 _ rfl;have v3:=f 3 _ rfl;have v4:=f 4 _ rfl;have v5:=f 5 _ rfl;have v6:=f 6 _ rfl;have v7:=f 7 _ rfl;have v8:=f 8 _ rfl;have v9:=f 9 _ rfl;have O0:=f 10 _ rfl;have P0:=f 11 _ rfl;have Q0:=f 12 _ rfl;have R0:=f 13 _ rfl;rw[y6]at v0;have S0:=Za h1;have T0:=Za h2;have b1:=Za hr;have d:=Za (g0.o r (mG hr))
   have h0:H (Wv a (k+1)=Wv a k++(if Sd a k then[]else[r.name])):=by show _=_;conv=>lhs;unfold Wv;rw[hr]
   have V0:H (Sd a k=Dq (VM r) (V2 a k N)):=by show _=_;unfold Sd;rw[hr,HN.o]
   clear f h1 h2 hr;have w0:H ((wr.alloc (O #[G r.name,J V r.rank,J V r.digits,J V r.lo,J V r.hi,I ma r.mcc.length mc,Y r.am.isSome,J V (r.am.getD (0,0)).1,J V (r.am.getD (0,0)).2,I ca r.cur.length cc,Y r.decline,Y r.cheapest,I pa r.routes.length pc,J V r.ahead] 120)).heap[wr.heap.size]?=Z (O #[G r.name,J V r.rank,J V r.digits,J V r.lo,J V r.hi,I ma r.mcc.length mc,Y r.am.isSome,J V (r.am.getD (0,0)).1,J V (r.am.getD (0,0)).2,I ca r.cur.length cc,Y r.decline,Y r.cheapest,I pa r.routes.length pc,J V r.ahead] 120)):=aN wr _;have y:H (F0 wr (wr.alloc (O #[G r.name,J V r.rank,J V r.digits,J V r.lo,J V r.hi,I ma r.mcc.length mc,Y r.am.isSome,J V (r.am.getD (0,0)).1,J V (r.am.getD (0,0)).2,I ca r.cur.length cc,Y r.decline,Y r.cheapest,I pa r.routes.length pc,J V r.ahead] 120))):=(Fr.refl _ _).alloc _;go_upto_region 5 with fail;generalize wr.alloc (O #[G r.name,J V r.rank,J V r.digits,J V r.lo,J V r.hi,I ma r.mcc.length mc,Y r.am.isSome,J V (r.am.getD (0,0)).1,J V (r.am.getD (0,0)).2,I ca r.cur.length cc,Y r.decline,Y r.cheapest,I pa r.routes.length pc,J V r.ahead] 120)=w1 at*;obtain⟨Q,hQ⟩:∃Q,wr.heap.size=Q:=⟨_,rfl⟩;rw[hQ]at w0;rw[hQ];have HQ:=Za hQ;clear v0 v1 v2 v3 v4 v5 v6 v7 v8 v9 O0 P0 Q0 R0 hQ
   have i0:H (∀W,F0 w1 W->W.heap[Q]?=Z (O #[G r.name,J V r.rank,J V r.digits,J V r.lo,J V r.hi,I ma r.mcc.length mc,Y r.am.isSome,J V (r.am.getD (0,0)).1,J V (r.am.getD (0,0)).2,I ca r.cur.length cc,Y r.decline,Y r.cheapest,I pa r.routes.length pc,J V r.ahead] 120)/\W.cell? ⟨B,1,U⟩=Z (I (Z ⟨g,0,U⟩) N c)):=fun W hf=>
    ⟨hf.whole w0.o (by simp),(((D.o.trans y.o).trans hf).cell (p:=⟨B,1,U⟩) (bL w _ t0.o) (by simp)).trans t0.o⟩
   refine wp_region_held_drew (S:=fun W=>W.heap[Q]?=Z (O #[G r.name,J V r.rank,J V r.digits,J V r.lo,J V r.hi,I ma r.mcc.length mc,Y r.am.isSome,J V (r.am.getD (0,0)).1,J V (r.am.getD (0,0)).2,I ca r.cur.length cc,Y r.decline,Y r.cheapest,I pa r.routes.length pc,J V r.ahead] 120)/\W.cell? ⟨B,1,U⟩=Z (I (Z ⟨g,0,U⟩) N c)) (by kernel_rfl) (i0.o _ (Fr.refl _ _).drew) (fun z=>?_);refine Uq 0 (v:=?v0z) ?y0z z ?r0z
   case y0z=>
    rintro w ⟨b,s1⟩;obtain⟨M,c1,P,c3,c4,c5,c6,c7,c8,c9,l,t,u,x⟩:=ZX b;clear b;go_simp
    with_reducible rfl
   try go_frame
   refine Uq 1 (v:=?v1z) ?y1z z ?r1z
   case y1z=>
    rintro w ⟨b,s1⟩;obtain⟨M,c1,P,c3,c4,c5,c6,c7,c8,c9,l,t,u,x⟩:=ZX b;clear b;go_simp
    with_reducible rfl
   try go_frame
   refine Uq 2 (v:=?v2z) ?y2z z ?r2z
   case y2z=>
    rintro w ⟨b,s1⟩;obtain⟨M,c1,P,c3,c4,c5,c6,c7,c8,c9,l,t,u,x⟩:=ZX b;clear b;go_simp
    with_reducible rfl
   try go_frame
   refine Uq 3 (v:=?v3z) ?y3z z ?r3z
   case y3z=>
    rintro w ⟨b,s1⟩;obtain⟨M,c1,P,c3,c4,c5,c6,c7,c8,c9,l,t,u,x⟩:=ZX b;clear b;go_simp
    with_reducible rfl
   try go_frame
   refine Uq 4 (v:=?v4z) ?y4z z ?r4z
   case y4z=>
    rintro w ⟨b,s1⟩;obtain⟨M,c1,P,c3,c4,c5,c6,c7,c8,c9,l,t,u,x⟩:=ZX b;clear b;go_simp
    with_reducible rfl
   try go_frame
   refine Uq 5 (v:=?v5z) ?y5z z ?r5z
   case y5z=>
    rintro w ⟨b,s1⟩;obtain⟨M,c1,P,c3,c4,c5,c6,c7,c8,c9,l,t,u,x⟩:=ZX b;clear b;go_simp
    with_reducible rfl
   try go_frame
   refine wpAnyH_ready (rs:=[6]) (by kernel_rfl) (by simp) ?_;refine Zb rfl (fun K2 hK=>?_) AllReadyH.nil
   try rw[if_pos (by rfl)]
   go_simp;refine(IM w1.drew (Z ⟨g,0,U⟩) c N k a nr (HR.o.fr ((D.o.trans y.o).trans (Fr.refl _ _).drew)) HN.o h8 M0 g0.o).mono ?_;rintro e w2 ⟨⟨a2,P,es,rfl,j0,x0⟩,y0⟩;have R:H (F0 w1 w2):=((Fr.refl _ _).drew).trans y0;have k0:=Za j0;have z0:=Za x0
   have d0:es.length<=10:=by
    have h1:=congrArg y1 j0;have h2:=Qb a k N;rw[z7]at h1;omega
   have HL:=Za d0;obtain⟨n2,l0⟩:∃n,es.length=n:=⟨_,rfl⟩;have A0:=Za l0;rw[l0];clear y0 j0 x0 d0 l0;refine hK.out _ _ (i0.o _ R.o) (fun z=>?_);clear hK K2
   try go_frame
   refine wpAnyH_ready (rs:=[7]) (by kernel_rfl) (by simp) ?_;refine Zb rfl (fun K2 hK=>?_) AllReadyH.nil
   try rw[if_pos (by rfl)]
   go_simp
   have B0:∀e,e∈es->∀i s,i<4->s∈e.A.at i->s.1<=10000000000/\s.2<=10000000000:=fun e he i s _ hs=>by
    have h1:e.A∈V2 a k N:=by rw[<-k0.o];exact List.mem_map_of_mem he
    obtain⟨j,q,_,hq,_,eq⟩:=(Qc a k e.A N).1 h1;rw[eq]at hs;have h2:=g0.o q (mG hq);exact(Rq h2.1 h2.2 i s hs).2
   have T:H (z9 F 180 _ w2 _):=KV w2 r.name r.rank r.digits r.lo r.hi ma mc r.mcc r.am.isSome (r.am.getD (0,0)).1 (r.am.getD (0,0)).2 ca cc r.cur r.decline r.cheapest pa r.routes.length pc r.ahead a2 P es d.o.1.bn.1 d.o.1.bn.2.2 (nL d.o.1.bn.2.1 (Cp d.o.1.bn.1)) (S0.o.fr (y.o.trans R.o) (by simp)) (z2 d.o.2.m4 (by decide)) (T0.o.fr (y.o.trans R.o) (by simp)) (z2 d.o.2.c4 (by decide)) z0.o HL.o B0;unfold Kh at T;rw[A0.o]at T;refine T.o.mono ?_;rintro e w3 ⟨rfl,C0⟩
   have eb:IJ (SP r.digits r.lo r.hi r.mcc r.am.isSome (r.am.getD (0,0)).1 (r.am.getD (0,0)).2 r.cur) es=Sd a k:=by
    rw[V0.o,<-k0.o];exact Cv (A:=VM r) (fun i s hs=>(Rq d.o.1 d.o.2 i s hs).1) es
   rw[eb];have m0:=Za (R.o.trans C0);clear C0 eb T B0 A0 HL k0 z0;refine hK.out _ _ (i0.o _ m0.o) (fun z=>?_);clear hK K2
   try go_frame
   have D0:=Za ((D.o.trans y.o).trans m0.o);have n0:=Za (oF HO.o (y.o.trans m0.o) (by simp));obtain⟨nn,a0⟩:∃nn,(Wv a k).length=nn:=⟨_,rfl⟩
   have d1:nn<=8:=by have:=Na a k;omega
   have o0:=Za a0;rw[a0]at n0;rw[a0];clear a0
   cases K:Sd a k with
   |true=>
    refine Uq 8 (v:=?v8t) ?y8t z ?r8t
    case y8t=>
     rintro w ⟨b,s1⟩;obtain⟨M,c1,P,c3,c4,c5,c6,c7,c8,c9,l,t,u,x⟩:=ZX b;clear b;go_simp
     with_reducible rfl
    try go_frame
    refine wpAnyH_done (by kernel_rfl) ?_ _
    have b0:H (w3.ownsRow w.heap.size 9 1 (I oa nn oc) (Wv a (k+1)).length (Se (Wv a (k+1)))):=by show y3 _ _ _ _ _ _ _;rw[h0.o,K,if_pos rfl,y2,o0.o];exact n0.o
    have W0:H (Wv a (k+1)=[]->X oa nn oc=I U 0 0):=by
     show _->_
     rw[h0.o,K,if_pos rfl,y2];have:=HZ.o;rw[o0.o]at this;exact this
    clear K z;go_wp2_with fail;go_roundg (N-(k+1))
    case measure=>omega
    case rel=>exact⟨k+1,by omega,rfl,by go_num,b0,W0,D0⟩
   |false=>
    refine Uq 8 (v:=?v8f) ?y8f z ?r8f
    case y8f=>
     rintro w ⟨b,s1⟩;obtain⟨M,c1,P,c3,c4,c5,c6,c7,c8,c9,l,t,u,x⟩:=ZX b;clear b;go_simp
     with_reducible rfl
    try go_frame
    refine wpAnyH_done (by kernel_rfl) ?_ _
    have E0:H (Wv a (k+1)=Wv a k++[r.name]):=by show _=_;rw[h0.o,K];rfl
    obtain⟨h3,_⟩:=z;have M:=(ZX h3).1;have G0:=Za (VS r.name w3 d.o.1.nm);clear K h3
    go_wp2_with (go_at_call 96;refine G0.o.mono ?_)
    rintro e w4 ⟨rfl,p0⟩;have H0:=Za (D0.o.trans p0);have b0:=Za (oF n0.o p0 (by simp));clear p0 M G0
    go_wp2_with (at_builtin;refine wpList_append_lies _ rfl (.tmp 25) (.tmp 29) 28 rfl w.heap.size 9 ij _ 1 16 Tryz.underlying28 I0 J0 K0 L0 rfl (by decide) (I oa nn oc) nn (Se (Wv a k)) rfl ?h1 ⟨w4.heap.size,0,U⟩ 1 1 [G r.name] rfl rfl ?h2 ?h3 (by decide) ?h4 ?h5 ?h6 _ rfl ?h7)
    case h1=>exact b0.o.alloc _
    case h2=>exact z5 (aN w4 (O #[G r.name] 9))
    case h3=>simp[z8]
    case h4=>unfold maxLen;omega
    case h5=>omega
    case h6=>have:=H0.o.size;simp;omega
    case h7=>
     intro g2 e0 w8 f0 L X0 _;have Y0:=Za ((H0.o.alloc _).grown L (fun k hk=>Or.inr (b0.o.lt k hk).1))
     have Z0:H (w8.ownsRow w.heap.size 9 1 (I (Z ⟨g2,0,U⟩) (nn+1) e0) (Wv a (k+1)).length (Se (Wv a (k+1)))):=by
      show y3 _ _ _ _ _ _ _
      rw[E0.o,List.length_append,o0.o,show Se (Wv a k++[r.name])=Se (Wv a k)++[G r.name]from by simp[Se]];exact f0
     have a1:H (Wv a (k+1)=[]->X (Z ⟨g2,0,U⟩) (nn+1) e0=I U 0 0):=fun h=>by rw[E0.o]at h;simp at h
     clear f0 L X0;go_wp2_with fail;go_roundg (N-(k+1))
     case measure=>omega
     case rel=>exact⟨k+1,by omega,rfl,by go_num,Z0,a1,Y0⟩
  ·have N0:¬(k:Int)<(N:Int):=by omega
   have ek:k=N:=by omega
   have q0:=Za ek;clear ek;go_wp2_with fail;go_ret;have e1:=HO.o;have e2:=HZ.o;rw[q0.o]at e1 e2;exact⟨⟨_,rfl,by rw[q0.o];exact e1,fun h=>by have:=e2 h;rw[q0.o];exact this⟩,D.o⟩
def Cw (w:C)(T:Nat)(a:List Zd)(R:List Zc):Prop:=FA w T a R/\(∃b c d e,w.cell? ⟨T,0,U⟩=Z (E (Z ⟨b,0,U⟩))/\Bk w b c d a R e)/\YE a R/\∀r,r∈R->UJ r
def KX (R:List Zc):List ByteArray:=Wv R R.length
theorem FN (w:C)(T:Nat)(a:List Zd)(R:List Zc)(h:Cw w T a R):
  z9 F 89 #[E (Z ⟨T,0,U⟩)] w fun e w'=>(∃v,e=z3 v/\w'.ownsRow w.heap.size 9 1 v (KX R).length (Se (KX R))/\(KX R=[]->v=I U 0 0))/\F0 w w':=by
 obtain⟨_,⟨l,t,u,x,m,d⟩,f,i⟩:=h;obtain⟨n,c,e,b⟩:=d.rules;have g:=d.c1;rw[e]at g;have p:=Za (FM w l n c R.length R a.length g b rfl f.l8 (fun r b=>⟨f.rl r b,i r b⟩));clear d b f i g e;go_enter Tryz.func89,Tryz.ntmps89
 go_wp2_with (go_at_call 140;refine p.o.mono ?_;rintro e y ⟨⟨v,rfl,j⟩,k⟩;have q:=Za j;have s:=Za k;clear j k m)
 go_ret;exact⟨⟨v,rfl,q.o⟩,s.o⟩
