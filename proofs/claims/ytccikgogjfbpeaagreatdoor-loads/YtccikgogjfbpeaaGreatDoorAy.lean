import Derived.Test.YtccikgogjfbpeaaGreatDoorAu
open Option renaming some->V,none->Z
open Go.Value renaming slice->U,pointer->O,int->H,bool->y4,slice->x7,agg->j2,agg->k9
open Go.IntKind renaming i64->G,i64->g8
open Go.Obj renaming cells->z4
open Go.World renaming putObj_heap_other->z5,putObj_heap_same->j6,ownsRow->j7
open Go renaming World->z6,Value->q9,Calls->j4
open Go.Proofs.Tryz renaming prog->z7
open List renaming mem_flatMap->z8,mem_cons->y7,mem_singleton->y9,mem_iff_getElem?->x4,any_eq_true->x6,take_of_length_le->x8,mem_append->q6,mem_filter->q7,eq_nil_of_length_eq_zero->q8,length_eq_zero_iff->j3,filter_eq_nil_iff->j5,append_toArray->j8,push_toArray->j9,length_take->v4,cons_append->v5,nodup_cons->v8,nil_append->k4,mem_map->k8
open Go.RowKit renaming Hid->z9
open Go.Ending renaming returned->y5
open Nat renaming le_trans->y6,le_refl->x9,zero_add->j0,mul_le_mul->k5,reduceSub->k6
open Or renaming inr->y8,inl->k7
open Bool renaming and_eq_true->x5,eq_iff_iff->v7
open Go.AllReadyH renaming nil->q5
namespace Go.Proofs.YtccikgogjfbpeaaGreatDoor
set_option maxRecDepth 30000
set_option maxHeartbeats 8000000
open Go.RowKit
theorem Sx.at {w0 w a n c l}(h:Sx w0 w (U a n c) l):Rw w a l:=by
 intro k s b;have q:=(iG.1 b).1;obtain⟨g,cap,e,t,_⟩:=j7.form h (by omega);injection e with d f i;subst d f i;have j:=j7.cellAt h (2*k) (by omega);have c1:=j7.cellAt h (2*k+1) (by omega)
 have r:∀(l:List Rm)(k:Nat)(s:Rm),l[k]?=V s->(RP l)[2*k]?=V (H G (s.1:Nat))/\(RP l)[2*k+1]?=V (H G (s.2:Nat)):=by
  intro l
  induction l with
  |nil=>intro k s h;simp at h
  |cons x r m=>
   intro k s h
   cases k with
   |zero=>
    simp at h;subst h;exact⟨rfl,rfl⟩
   |succ k=>
    simp at h;have e:=m k s h;rw[show 2*(k+1)=2*k+2 from by omega];exact e
 obtain⟨o,p⟩:=r l k s b;refine⟨g,0,rfl,?_,?_⟩
 ·rw[j0,j,o]
 rw[j0,c1,p]
theorem Sx.new {w0 w a n c l}(h:Sx w0 w (U a n c) l):∀g o,a=V ⟨g,o,Z⟩->w0.heap.size<=g/\g<w.heap.size:=by
 rintro g o rfl;rcases h.2 with⟨e,_⟩|⟨i,cap,b,e,d,f,_⟩
 ·cases e
 cases e
 exact⟨d,(iA.1 f).1⟩
def Tp (m n:Nat)(b c d e:GU):Prop:=∀x,x=b\/x=c\/x=d\/x=e->∀g o,x.a=V ⟨g,o,Z⟩->m<=g/\g<n
theorem Rw.frS {w w' S a l}(h:Rw w a l)(c:Fr S w w')(d:∀g o,a=V ⟨g,o,Z⟩->g<w.heap.size->¬S g):Rw w' a l:=by
 intro k s i;obtain⟨g,o,e,f,j⟩:=h k s i;have b:=bL w _ f;exact⟨g,o,e,(c.cell (p:=⟨g,o+2*k,Z⟩) b (d g o e b)).trans f,(c.cell (p:=⟨g,o+2*k+1,Z⟩) b (d g o e b)).trans j⟩
theorem PR.frS {w w' S A b c d e}(h:PR w A b c d e)(f:Fr S w w')(i:∀x,x=b\/x=c\/x=d\/x=e->∀g o,x.a=V ⟨g,o,Z⟩->g<w.heap.size->¬S g):PR w' A b c d e:=
 ⟨h.p0.frS f (i b (.inl rfl)),h.p1.frS f (i c (.inr (.inl rfl))),h.p2.frS f (i d (.inr (.inr (.inl rfl)))),h.p3.frS f (i e (.inr (.inr (.inr rfl)))),h.few⟩
def RT (dg lo hi:Nat)(b:List Nat)(a:Bool)(c d:Nat)(e:List Nat):SE:=⟨[WN dg lo hi],Yk b 9999,[if a then(c,d)else(0,1000000000)],Yk e 999⟩
theorem Sn {l m}(h:l.length<=10):(Yk l m).length<=10:=by unfold Yk;split<;>simp[h]
theorem KC {w0 W}(a c l b)(h:Zu w0 a l)(j:l.length<=4000)(f:F0 w0 W):
  j4 z7 174 #[U a l.length c,H G (b:Nat)] W fun e w'=>(∃v,e=y5 v/\Sx w0 w' v (Yk l b))/\F0 W w':=by
 have hi:Zu W a l:=fun k x m=>by
  obtain⟨g,e,i⟩:=h k x m;exact⟨g,e,(f.cell (p:=⟨g,k,Z⟩) (bL w0 _ i)).trans i⟩
 refine(F2 W a c l b hi j).mono ?_;rintro e w' ⟨⟨v,rfl,n⟩,d⟩;exact⟨⟨v,rfl,oS n f.size⟩,d⟩
theorem MJ (w nm rk dg lo hi M O i f y z N Q j dc ch pa pn pc ah)(hd:dg<=6)(E0:lo<=hi)(G0:hi<1000000)(hm:Zu w M i)(H0:i.length<=10)(hc:Zu w N j)(I0:j.length<=10):
  j4 z7 114 #[GS nm rk dg lo hi M i.length O f y z N j.length Q dc ch pa pn pc ah] w fun e w'=>(∃x0 x1 x2 x3 A,A=RT dg lo hi i f y z j/\e=y5 (j2 #[Xn x0 A.s0,Xn x1 A.s1,Xn x2 A.s2,Xn x3 A.s3])/\PR w' A x0 x1 x2 x3/\Tp w.heap.size w'.heap.size x0 x1 x2 x3)/\F0 w w':=by
 obtain⟨p0,t0⟩:=Vx w (Lm nm rk dg lo hi M i.length O f y z N j.length Q dc ch pa pn pc ah);have R:=(SA w (Lm nm rk dg lo hi M i.length O f y z N j.length Q dc ch pa pn pc ah) (z4 #[U Z 0 0,U Z 0 0,U Z 0 0,U Z 0 0] 215)).2.2;have b0:z9 (F0 (w.alloc (Lm nm rk dg lo hi M i.length O f y z N j.length Q dc ch pa pn pc ah)) ((w.alloc (Lm nm rk dg lo hi M i.length O f y z N j.length Q dc ch pa pn pc ah)).alloc (z4 #[U Z 0 0,U Z 0 0,U Z 0 0,U Z 0 0] 215))):=Zt.alloc _
 have d0:z9 (∀W,j4 z7 173 #[GS nm rk dg lo hi M i.length O f y z N j.length Q dc ch pa pn pc ah] W fun e w'=>e=y5 (j2 #[H G ((WN dg lo hi).1:Nat),H G ((WN dg lo hi).2:Nat)])/\F0 W w'):=fun W=>CX W nm rk dg lo hi M i.length O f y z N j.length Q dc ch pa pn pc ah hd E0 G0
 have HM:=Za hm;have HC:=Za hc;have f0:=Za H0;have g0:=Za I0;unfold Lm at t0 p0 R b0;unfold GS at d0 ⊢;go_enter Tryz.func114,Tryz.ntmps114;go_upto_region 1 with fail;generalize w.alloc _=w0 at*;generalize w0.alloc _=w1 at*;have C:=Za (b0.o.whole t0.o);have c:=Za (p0.o.trans b0.o);obtain⟨P,hP⟩:∃P,w.heap.size=P:=⟨_,rfl⟩;have HP:=Za hP;rw[hP]at C R;rw[hP];obtain⟨n1,h0⟩:∃n,i.length=n:=⟨_,rfl⟩;obtain⟨n2,i0⟩:∃n,j.length=n:=⟨_,rfl⟩;have J0:=Za h0;have K0:=Za i0;rw[h0,i0]at C d0;rw[h0,i0];refine wp_region_held_drew (S:=fun W=>W.heap[P]?=V (z4 #[.string nm,H G rk,H G dg,H G lo,H G hi,U M n1 O,y4 f,H G y,H G z,U N n2 Q,y4 dc,y4 ch,U pa pn pc,H G ah] 120)) (by kernel_rfl) C.o (fun hH=>?_);refine UP 0 (v:=?v0z) ?y0z hH ?r0z
 case y0z=>
  rintro w r;obtain⟨c0,c1,c2,c3,c4,c5,c6,c7,c8,c9,D,E,F,I⟩:=ZY r;go_simp
  with_reducible rfl
 try go_frame
 refine UP 3 (v:=?v3z) ?y3z hH ?r3z
 case y3z=>
  rintro w r;obtain⟨c0,c1,c2,c3,c4,c5,c6,c7,c8,c9,D,E,F,I⟩:=ZY r;go_simp
  with_reducible rfl
 try go_frame
 refine UP 4 (v:=?v4z) ?y4z hH ?r4z
 case y4z=>
  rintro w r;obtain⟨c0,c1,c2,c3,c4,c5,c6,c7,c8,c9,D,E,F,I⟩:=ZY r;go_simp
  with_reducible rfl
 try go_frame
 refine UP 6 (v:=?v6z) ?y6z hH ?r6z
 case y6z=>
  rintro w r;obtain⟨c0,c1,c2,c3,c4,c5,c6,c7,c8,c9,D,E,F,I⟩:=ZY r;go_simp
  with_reducible rfl
 try go_frame
 refine UP 8 (v:=?v8z) ?y8z hH ?r8z
 case y8z=>
  rintro w r;obtain⟨c0,c1,c2,c3,c4,c5,c6,c7,c8,c9,D,E,F,I⟩:=ZY r;go_simp
  with_reducible rfl
 try go_frame
 refine UP 9 (v:=?v9z) ?y9z hH ?r9z
 case y9z=>
  rintro w r;obtain⟨c0,c1,c2,c3,c4,c5,c6,c7,c8,c9,D,E,F,I⟩:=ZY r;go_simp
  with_reducible rfl
 try go_frame
 refine sQ (X:=⟨_,_,w1,_,_,_,_,_,_,_,WN dg lo hi,Yk i 9999,Yk j 999,?s,?f5,?f9,?f14,?pan,?_⟩) _ _ _ _ _ _ _ _ (Za ⟨Zt.drew,rfl,rfl,rfl,rfl,rfl⟩) rfl rfl
 case s=>exact fun W hf=>hf.whole C.o
 case f5=>exact fun W _=>d0.o W
 case f9=>
  intro W hf;rw[<-J0.o];exact KC M O i 9999 (HM.o.fr c.o) (by have:=f0.o;omega) hf
 case f14=>
  intro W hf;rw[<-K0.o];exact KC N Q j 999 (HC.o.fr c.o) (by have:=g0.o;omega) hf
 case pan=>exact fun _ _ d _ _ h=>by cases d<;>exact h
 intro J v6 v9 Q0 R0 w5 S0 L0 h6 h9 v0 A0 T;obtain⟨y0,k0,e0⟩:=oL h6;obtain⟨y1,k1,e1⟩:=oL h9;obtain⟨y2,k2,e2⟩:=oL v0;obtain⟨y3,k3,e3⟩:=oL A0;subst e0 e1 e2 e3;have T0:P+1<w1.heap.size:=(iA.1 R.o).1;have j0:=Za (T.whole C.o);have a:=Za (T.whole R.o);have B0:=Za (c.o.trans T);have H6:=Za h6;have H9:=Za h9;have l0:=Za v0;have Y:=Za A0;have HH:=Za L0
 have M0:J≠P+1:=by omega
 have V0:P<=J:=by omega
 have f6:=Zc j0.o 6;have f7:=Zc j0.o 7;have f8:=Zc j0.o 8
 cases f with
 |false=>
  have r0:=Zc a.o 0;have r1:=Zc a.o 1;have r2:=Zc a.o 2;have r3:=Zc a.o 3;have z0:=bF a.o 0;have z1:=bF a.o 1;have z2:=bF a.o 2;have z3:=bF a.o 3;have q0:=Zc HH.o 0;have q1:=Zc HH.o 1;have q2:=Zc HH.o 2;have q3:=Zc HH.o 3;go_wp2_with fail;have t1:=heap_setCell_same w5 (P+1) 0 _ _ (U y0 1 k0) a.o;have l:=heap_setCell_same _ (P+1) 1 _ _ (U y1 (Yk i 9999).length k1) t1;have m:=heap_setCell_same _ (P+1) 2 _ _ (U y2 1 k2) l;have t4:=heap_setCell_same _ (P+1) 3 _ _ (U y3 (Yk j 999).length k3) m
  have q:w.heap.size<=P+1:=by have:=HP.o;omega
  have m0:=(((B0.o.setCell (p:=⟨P+1,0,Z⟩) (y8 q) (U y0 1 k0)).setCell (p:=⟨P+1,1,Z⟩) (y8 q) (U y1 (Yk i 9999).length k1)).setCell (p:=⟨P+1,2,Z⟩) (y8 q) (U y2 1 k2)).setCell (p:=⟨P+1,3,Z⟩) (y8 q) (U y3 (Yk j 999).length k3);have r:=Zc t4 0;have s1:=Zc t4 1;have s2:=Zc t4 2;have s3:=Zc t4 3;refine bodyPost_ret (v:=j2 #[U y0 1 k0,U y1 (Yk i 9999).length k1,U y2 1 k2,U y3 (Yk j 999).length k3]) (by simp[results,Tryz.results114,go_sem,r,s1,s2,s3]) rfl ⟨⟨⟨y0,k0⟩,⟨y1,k1⟩,⟨y2,k2⟩,⟨y3,k3⟩,_,rfl,rfl,?_,?_⟩,m0⟩
  ·refine⟨?_,?_,?_,?_,fun k=>?_⟩
   ·exact((((H6.o.set a.o).set t1).set l).set m).at
   ·exact((((H9.o.set a.o).set t1).set l).set m).at
   ·exact((((l0.o.set a.o).set t1).set l).set m).at
   ·exact((((Y.o.set a.o).set t1).set l).set m).at
   unfold RT SE.at
   split
   ·simp
   ·exact Sn f0.o
   ·simp
   exact Sn g0.o
  rintro x (rfl|rfl|rfl|rfl) g o e
  ·exact⟨y6 c.o.size (H6.o.new g o e).1,(Sx.new ((((H6.o.set a.o).set t1).set l).set m) g o e).2⟩
  ·exact⟨y6 c.o.size (H9.o.new g o e).1,(Sx.new ((((H9.o.set a.o).set t1).set l).set m) g o e).2⟩
  ·exact⟨y6 c.o.size (l0.o.new g o e).1,(Sx.new ((((l0.o.set a.o).set t1).set l).set m) g o e).2⟩
  exact⟨y6 c.o.size (Y.o.new g o e).1,(Sx.new ((((Y.o.set a.o).set t1).set l).set m) g o e).2⟩
 |true=>
  have C0:=(Lp w5 (z4 #[H G (y:Nat),H G (z:Nat)] 118)).1;have HA:=Za C0;have D0:=Za (Sx.one (y,z) T.size);have t:=Za (C0.whole HH.o);have p2:=Zc t.o 2;have pz:=bF t.o 2;go_upto_region 4 with fail;generalize w5.alloc _=w6 at*;obtain⟨B,hB⟩:∃B,w5.heap.size=B:=⟨_,rfl⟩;rw[hB]at D0;rw[hB];have N0:=Za (HA.o.whole a.o);have e7:=heap_setCell_same w6 J 2 _ _ (U (V ⟨B,0,Z⟩) 1 1) t.o;have O0:Fr (fun k=>k=J) w6 (w6.setCell ⟨J,2,Z⟩ (U (V ⟨B,0,Z⟩) 1 1)):=(Fr.refl (fun k=>k=J) w6).setCell (p:=⟨J,2,Z⟩) (k7 rfl) _;have b:=Za (O0.whole N0.o (fun e=>M0 e.symm));have P0:z9 (F0 w (w6.setCell ⟨J,2,Z⟩ (U (V ⟨B,0,Z⟩) 1 1))):=(B0.o.trans HA.o).setCell (p:=⟨J,2,Z⟩) (y8 (by have:=HP.o;show _<=J;omega)) _;have n0:=Za ((H6.o.fr HA.o).set (k:=2) (u:=U (V ⟨B,0,Z⟩) 1 1) t.o);have o0:=Za ((H9.o.fr HA.o).set (k:=2) (u:=U (V ⟨B,0,Z⟩) 1 1) t.o);have K:=Za ((Y.o.fr HA.o).set (k:=2) (u:=U (V ⟨B,0,Z⟩) 1 1) t.o);have L:=Za (D0.o.set (k:=2) (u:=U (V ⟨B,0,Z⟩) 1 1) t.o);have a0:=Za e7;generalize w6.setCell ⟨J,2,Z⟩ (U (V ⟨B,0,Z⟩) 1 1)=w7 at*;have r0:=Zc b.o 0;have r1:=Zc b.o 1;have r2:=Zc b.o 2;have r3:=Zc b.o 3;have z0:=bF b.o 0;have z1:=bF b.o 1;have z2:=bF b.o 2;have z3:=bF b.o 3;have q0:=Zc a0.o 0;have q1:=Zc a0.o 1;have q2:=Zc a0.o 2;have q3:=Zc a0.o 3;go_wp2_with fail;have t1:=heap_setCell_same w7 (P+1) 0 _ _ (U y0 1 k0) b.o;have l:=heap_setCell_same _ (P+1) 1 _ _ (U y1 (Yk i 9999).length k1) t1;have m:=heap_setCell_same _ (P+1) 2 _ _ (U (V ⟨B,0,Z⟩) 1 1) l;have t4:=heap_setCell_same _ (P+1) 3 _ _ (U y3 (Yk j 999).length k3) m
  have q:w.heap.size<=P+1:=by have:=HP.o;omega
  have m0:=(((P0.o.setCell (p:=⟨P+1,0,Z⟩) (y8 q) (U y0 1 k0)).setCell (p:=⟨P+1,1,Z⟩) (y8 q) (U y1 (Yk i 9999).length k1)).setCell (p:=⟨P+1,2,Z⟩) (y8 q) (U (V ⟨B,0,Z⟩) 1 1)).setCell (p:=⟨P+1,3,Z⟩) (y8 q) (U y3 (Yk j 999).length k3);have r:=Zc t4 0;have s1:=Zc t4 1;have s2:=Zc t4 2;have s3:=Zc t4 3;refine bodyPost_ret (v:=j2 #[U y0 1 k0,U y1 (Yk i 9999).length k1,U (V ⟨B,0,Z⟩) 1 1,U y3 (Yk j 999).length k3]) (by simp[results,Tryz.results114,go_sem,r,s1,s2,s3]) rfl ⟨⟨⟨y0,k0⟩,⟨y1,k1⟩,⟨V ⟨B,0,Z⟩,1⟩,⟨y3,k3⟩,_,rfl,rfl,?_,?_⟩,m0⟩
  ·refine⟨?_,?_,?_,?_,fun k=>?_⟩
   ·exact((((n0.o.set b.o).set t1).set l).set m).at
   ·exact((((o0.o.set b.o).set t1).set l).set m).at
   ·exact((((L.o.set b.o).set t1).set l).set m).at
   ·exact((((K.o.set b.o).set t1).set l).set m).at
   unfold RT SE.at
   split
   ·simp
   ·exact Sn f0.o
   ·simp
   exact Sn g0.o
  rintro x (rfl|rfl|rfl|rfl) g o e
  ·exact⟨y6 c.o.size (n0.o.new g o e).1,(Sx.new ((((n0.o.set b.o).set t1).set l).set m) g o e).2⟩
  ·exact⟨y6 c.o.size (o0.o.new g o e).1,(Sx.new ((((o0.o.set b.o).set t1).set l).set m) g o e).2⟩
  ·exact⟨y6 c.o.size (L.o.new g o e).1,(Sx.new ((((L.o.set b.o).set t1).set l).set m) g o e).2⟩
  exact⟨y6 c.o.size (K.o.new g o e).1,(Sx.new ((((K.o.set b.o).set t1).set l).set m) g o e).2⟩
def Xx (side:Nat)(A:SE)(es:List Ta):List Nat:=Sh (YZ side (A.at side) es)
theorem Dv {g n c q}(h:g≠q):∀k,(x7 (V ⟨g,0,Z⟩) n c).ownBlock=V k->k≠q:=by
 intro k a
 have e:g=k:=by simpa[Value.ownBlock]using a
 rw[<-e];exact h
theorem Ef (w side A x0 x1 x2 x3 a c es)(hs:side<4)(h:PR w A x0 x1 x2 x3)(C0:A.at side≠[])(he:VZ w a es)(hl:es.length<=10)(hb:∀e,e∈es->∀s,s∈e.A.at side->s.1<=10000000000/\s.2<=10000000000):
  j4 z7 213 #[H G (side:Nat),j2 #[Xn x0 A.s0,Xn x1 A.s1,Xn x2 A.s2,Xn x3 A.s3],U a es.length c] w fun e w'=>(∃g cap,w.heap.size<=g/\e=y5 (U (V ⟨g,0,Z⟩) (Xx side A es).length cap)/\∀j n,(Xx side A es)[j]?=V n->w'.cell? ⟨g,j,Z⟩=V (H G (n:Nat)))/\F0 w w':=by
 obtain⟨ii,hi,D0,E0,G0⟩:=info_parts Y2;have HE:=Za he;have HB:=Za hb;have hc:=JJ (t:=215) (aN w (z4 (Rn A x0 x1 x2 x3) 215)) hs;have H0:=(Vx w (z4 #[Xn x0 A.s0,Xn x1 A.s1,Xn x2 A.s2,Xn x3 A.s3] 215)).1;unfold Rn at hc;obtain⟨l,F⟩:∃l,A.at side=l:=⟨_,rfl⟩;obtain⟨x,hx⟩:∃x,Hb x0 x1 x2 x3 side=x:=⟨_,rfl⟩
 have HS:z9 (Rw w x.a l):=by have e:=h.at side;rw[F,hx]at e;exact e
 have HV:z9 (Xx side A es=Sh (YZ side l es)):=by show _=_;unfold Xx;rw[F]
 have I0:z9 (l.length<=10):=by have e:=h.few side;rw[F]at e;exact e
 have J0:=Za hl
 have k0:z9 (∀e,e∈es->(e.A.at side).length<=10):=fun e hm=>by
  obtain⟨k,C,rfl⟩:=List.mem_iff_getElem.1 hm;exact(he k _ (gE C)).1.few side
 have X0:z9 (0<l.length):=by rw[F]at C0;exact List.length_pos_iff.2 C0
 rw[F,hx]at hc
 have K0:(side:Int)<4:=by omega
 unfold Xn at hc H0 ⊢;obtain⟨M,hM⟩:∃M,es.length=M:=⟨_,rfl⟩;have HM:=Za hM
 have H1:M<=10:=by omega
 rw[hM];go_enter Tryz.func213,Tryz.ntmps213;go_wp2_with fail;obtain⟨N,hN⟩:∃N,l.length=N:=⟨_,rfl⟩;rw[hN]at hc ⊢;have HN:=Za hN
 have I1:N<=10:=by have:=I0.o;omega
 go_loopg [7,9,11,16] N (fun m ov _ _ iv wr=>∃k,k<=N/\m=N-k/\iv=H G (k:Nat)/\z9 (wr.ownsRow w.heap.size 3 1 ov (YZ side (l.take k) es).length (Zg (YZ side (l.take k) es)))/\z9 (F0 w wr))
 case atStart=>exact⟨0,by omega,rfl,rfl,oZ _ _ _ _,H0⟩
 obtain⟨k,C,rfl,rfl,HO,l0⟩:=hrel;obtain⟨oa,oc,ho⟩:=oL HO.o;subst ho;obtain⟨R,T⟩:∃R,(YZ side (l.take k) es).length=R:=⟨_,rfl⟩
 have K1:R<=2010:=by
  rw[<-T];have h1:=PT side es k0.o (l.take k)
  have h2:(l.take k).length<=10:=by rw[v4];have:=I0.o;omega
  have h3:=k5 (show 1+20*es.length<=201 by have:=J0.o;omega) h2;omega
 have X:=Za T;rw[T]at HO;rw[T];by_cases L0:k<N
 ·have K0:(k:Int)<(N:Int):=by omega
  have hx:=gE (show k<l.length by have:=HN.o;omega);obtain⟨g,o,ea,h1,h2⟩:=(HS.o.fr l0.o) k _ hx;have Y0:=Za (F3 side (es:=es) hx);generalize l[k]'(by have:=HN.o;omega)=s at*;obtain⟨lo,b⟩:=s
  dsimp only at h1 h2
  obtain⟨xa,xc⟩:=x
  dsimp only at ea
  subst ea;rw[show o+2*k=o+k*2 from by omega]at h1;rw[show o+2*k+1=o+k*2+1 from by omega]at h2;obtain⟨z,I⟩:=Vx wr (z4 #[H G (lo:Int),H G (b:Int)] 118)
  have m0:z9 (∀k,(x7 oa R oc).ownBlock=V k->k≠wr.heap.size):=fun k C=>by have:=(HO.o.lt k C).2;omega
  go_upto_region 5 with fail;generalize wr.alloc _=w1 at*;obtain⟨q,hq⟩:∃q,wr.heap.size=q:=⟨_,rfl⟩;have HQ:=Za hq;rw[hq]at I m0;rw[hq];have z0:=Zc I.o 0;have z1:=Zc I.o 1;have M0:=Za (l0.o.trans z.o);have D:=Za (oF HO.o z.o)
  go_wp2_with (at_builtin;refine wpList_append_lies _ rfl (.tmp 20) (.tmp 23) 25 rfl w.heap.size 3 ii _ 1 8 Tryz.underlying25 hi D0 E0 G0 rfl (by decide) (U oa R oc) R (Zg (YZ side (l.take k) es)) rfl ?h1 ⟨w1.heap.size,0,Z⟩ 1 1 [H G (lo:Nat)] rfl rfl ?h2 ?h3 (by decide) ?h4 ?h5 ?h6 _ rfl ?_)
  case h1=>exact D.o.alloc _
  try case h2=>exact World.news_of_block (aN w1 (z4 #[H G (lo:Nat)] 3))
  case h3=>simp[Value.oneCell']
  case h4=>unfold maxLen;omega
  case h5=>omega
  case h6=>have:=M0.o.size;simp;omega
  intro g2 N0 w8 J d n0 _;have Z0:=Za ((M0.o.alloc _).grown d (fun k C=>y8 (D.o.lt k C).1));have a1:=Za ((((Fr.refl (fun k=>(x7 oa R oc).ownBlock=V k) w1).alloc _).grown d (fun k C=>k7 C)).whole I.o (fun e=>m0.o q e rfl))
  have b1:z9 (w8.ownsRow w.heap.size 3 1 (U (V ⟨g2,0,Z⟩) (R+1) N0) (YZ side (l.take k) es++st1 side (lo,b) (es.take 0)).length (Zg (YZ side (l.take k) es++st1 side (lo,b) (es.take 0)))):=by
   have e:st1 side (lo,b) (es.take 0)=[lo]:=by simp[st1]
   rw[e,lA,X.o,Mz];exact J
  have d1:z9 (g2≠q):=by
   show _≠_
   rcases n0 with e|e
   ·exact m0.o g2 e
   have:=(iA.1 I.o).1
   omega
  go_wp2_with fail
  go_loopg [7,11,27] M (fun m ov _ jv wq=>∃j,j<=M/\m=M-j/\jv=H G (j:Nat)/\z9 (wq.ownsRow w.heap.size 3 1 ov (YZ side (l.take k) es++st1 side (lo,b) (es.take j)).length (Zg (YZ side (l.take k) es++st1 side (lo,b) (es.take j))))/\z9 (F0 w wq)/\z9 (wq.heap[q]?=V (z4 #[H G (lo:Int),H G (b:Int)] 118))/\z9 (∀k,ov.ownBlock=V k->k≠q))
  case atStart=>exact⟨0,by omega,rfl,rfl,b1,Z0,a1,Dv d1.o⟩
  obtain⟨j,hj,rfl,rfl,K,o0,f1,O⟩:=hrel;obtain⟨pa,pc,ho⟩:=oL K.o;subst ho;obtain⟨E,Y⟩:∃E,(YZ side (l.take k) es++st1 side (lo,b) (es.take j)).length=E:=⟨_,rfl⟩
  have L1:E<=2300:=by
   rw[<-Y,lA,X.o];have h1:=Do side (lo,b) (es.take j) (fun e he=>k0.o e (List.mem_of_mem_take he))
   have h2:(es.take j).length<=10:=by rw[v4];have:=J0.o;omega
   omega
  have p0:=Za Y;rw[Y]at K O;rw[Y];by_cases M1:j<M
  ·have i1:(j:Int)<(M:Int):=by omega
   have hx:=gE (show j<es.length by have:=HM.o;omega);obtain⟨h0,ge,oe,ea,a0⟩:=(HE.o.fr o0.o) j _ hx;have q0:=Za (HB.o _ (List.getElem_mem (show j<es.length by have:=HM.o;omega)));have b0:=Za (zk side (lo,b) hx);generalize es[j]'(by have:=HM.o;omega)=e at*;subst ea;have r0:=Za (Ta.at h0 side);have d0:=Za (h0.few side);obtain⟨B,y0,y1,y2,y3⟩:=e
   dsimp only at r0 d0 q0 b0
   have c0:wr.cell? ⟨ge,oe+j*4,Z⟩=V (U y0.a B.s0.length y0.c):=a0 0 _ rfl;have c1:wr.cell? ⟨ge,oe+j*4+1,Z⟩=V (U y1.a B.s1.length y1.c):=a0 1 _ rfl;have c2:wr.cell? ⟨ge,oe+j*4+2,Z⟩=V (U y2.a B.s2.length y2.c):=a0 2 _ rfl;have c3:wr.cell? ⟨ge,oe+j*4+3,Z⟩=V (U y3.a B.s3.length y3.c):=a0 3 _ rfl;have z:=(Vx wr (z4 #[U y0.a B.s0.length y0.c,U y1.a B.s1.length y1.c,U y2.a B.s2.length y2.c,U y3.a B.s3.length y3.c] 215)).1;have P:z9 ((wr.alloc (z4 #[U y0.a B.s0.length y0.c,U y1.a B.s1.length y1.c,U y2.a B.s2.length y2.c,U y3.a B.s3.length y3.c] 215)).cell? ⟨wr.heap.size,side,Z⟩=V (Xn (Hb y0 y1 y2 y3 side) (B.at side))):=JJ (t:=215) (aN wr (z4 (Rn B y0 y1 y2 y3) 215)) hs
   have j1:∀k,(x7 pa E pc).ownBlock=V k->k<wr.heap.size:=fun k C=>(K.o.lt k C).2
   have O0:=Za j1;go_upto_region 9 with fail;generalize wr.alloc _=w2 at*;obtain⟨r,hr⟩:∃r,wr.heap.size=r:=⟨_,rfl⟩;rw[hr]at P O0;rw[hr];have HR:=Za hr;obtain⟨L,hL⟩:∃L,B.at side=L:=⟨_,rfl⟩;obtain⟨y,hy⟩:∃y,Hb y0 y1 y2 y3 side=y:=⟨_,rfl⟩;rw[hL,hy]at P r0;rw[hL]at d0 q0 b0;unfold Xn at P;have k1:=Za (oF K.o z.o);have f0:=Za (z.o.whole f1.o);have l1:=Za (r0.o.fr z.o);have t0:=Za (o0.o.trans z.o)
   have g0:z9 (∀W,Fr (fun k=>(x7 pa E pc).ownBlock=V k) w2 W->W.cell? ⟨q,0,Z⟩=V (H G (lo:Int))/\W.cell? ⟨q,1,Z⟩=V (H G (b:Int))/\W.cell? ⟨r,side,Z⟩=V (U y.a L.length y.c)):=fun W hf=>by
    have e:=hf.whole f0.o (fun e=>O.o q e rfl);exact⟨Zc e 0,Zc e 1,(hf.cell (p:=⟨r,side,Z⟩) (bL w2 _ P.o) (fun e=>by have:=O0.o r e;omega)).trans P.o⟩
   refine wp_region_held_drew (S:=fun W=>W.cell? ⟨q,0,Z⟩=V (H G (lo:Int))/\W.cell? ⟨q,1,Z⟩=V (H G (b:Int))/\W.cell? ⟨r,side,Z⟩=V (U y.a L.length y.c)) (by kernel_rfl) (g0.o _ Zt.drew) (fun hH=>?_)
   iterate 5 (refine YO 0 hH ?_;try go_frame)
   refine Xz [5] ?_;refine Zb rfl (fun K2 hK=>?_) q5
   try rw[if_pos (by rfl)]
   go_simp;have P0:=zj w2.drew (lo,b) y L (l1.o.fr (Fr.refl (fun _=>False) w2).drew) d0.o q0.o
   dsimp only at P0
   refine P0.mono ?_;rintro e w3 ⟨⟨v,rfl,hv,m1⟩,n1⟩;have f:z9 (F0 w2 w3):=(Zt.drew).trans n1;have v0:=Za hv;have i0:=Za (oF k1.o f.o);obtain⟨va,vc,o1⟩:=oL hv;subst o1;obtain⟨m,hm⟩:∃m,(YB (lo,b) L).length=m:=⟨_,rfl⟩
   have N1:m<=20:=by rw[<-hm];have:=Ro (lo,b) L;have:=d0.o;omega
   have j0:=Za hm;have Q0:=Za m1;rw[hm]at v0 Q0;rw[hm];refine hK.out _ _ (g0.o _ (f.o.mono (fun _ h=>h.elim))) (fun hH=>?_)
   try go_frame
   by_cases R0:m=0
   ·have e0:=Q0.o R0
    injection e0 with e1 e2 e3;subst e1 e3 R0;refine Xz [6] ?_;refine Zb rfl (fun K2 hK=>?_) q5
    try rw[if_pos (by rfl)]
    refine Mx (.tmp 31) (.tmp 36) 25 rfl w.heap.size 3 ii 1 Tryz.underlying25 hi (U pa E pc) E (Zg (YZ side (l.take k) es++st1 side (lo,b) (es.take j))) rfl i0.o rfl ?hz
    have Q:z9 (w3.ownsRow w.heap.size 3 1 (U pa E pc) (YZ side (l.take k) es++st1 side (lo,b) (es.take (j+1))).length (Zg (YZ side (l.take k) es++st1 side (lo,b) (es.take (j+1))))):=by
     rw[b0.o,q8 j0.o,List.append_nil,p0.o];exact i0.o
    have w0:=Za (t0.o.trans f.o);have A0:=Za (f.o.whole f0.o);refine hK.out _ _ (g0.o _ (f.o.mono (fun _ h=>h.elim))) (fun hH=>?_)
    try go_frame
    refine ZX 7 hH ?_
    try go_frame
    refine wpAnyH_done (by kernel_rfl) ?_ _;go_wp2_with fail;go_roundg (M-(j+1))
    case measure=>omega
    exact⟨j+1,by omega,rfl,by go_num,Q,w0,A0,O⟩
   obtain⟨g3,c3,e3,O1,J1⟩:=v0.o.form (by omega)
   injection e3 with e1 e2 e4;subst e1
   have p1:∀i u,(Zg (YB (lo,b) L))[i]?=V u->w3.cell? (Addr.add ⟨g3,0,Z⟩ i)=V u:=by
    intro i u hu;have L0:=(iG.1 hu).1;rw[My,j0.o]at L0;have e:=v0.o.cellAt i (by omega);rw[hu]at e;rw[<-e];simp[Addr.add]
    split<;>simp[*]
   have q1:=Za p1;refine Xz [6] ?_;refine Zb rfl (fun K2 hK=>?_) q5
   try rw[if_pos (by rfl)]
   refine wp_append_lies _ (.tmp 31) (.tmp 36) 25 rfl w.heap.size 3 ii _ 1 8 Tryz.underlying25 hi D0 E0 G0 rfl (by decide) (U pa E pc) E (Zg (YZ side (l.take k) es++st1 side (lo,b) (es.take j))) rfl i0.o ⟨g3,0,Z⟩ m vc (Zg (YB (lo,b) L)) rfl ?g1 q1.o (F4 _) (by omega) ?g4 ?g5 ?g6 _ rfl ?_
   case g1=>rw[My,j0.o,Nat.mul_one]
   case g4=>unfold maxLen;omega
   case g5=>omega
   case g6=>have:=t0.o.size;have:=f.o.size;omega
   intro g4 S0 w4 J d n0 _;have T0:z9 (Fr (fun k=>(x7 pa E pc).ownBlock=V k) w2 w4):=(f.o.mono (fun _ h=>h.elim)).grown d (fun k C=>k7 C);have w0:=Za ((t0.o.trans f.o).grown d (fun k C=>y8 (i0.o.lt k C).1));have A0:=Za (T0.o.whole f0.o (fun e=>O.o q e rfl))
   have Q:z9 (w4.ownsRow w.heap.size 3 1 (U (V ⟨g4,0,Z⟩) (E+m) S0) (YZ side (l.take k) es++st1 side (lo,b) (es.take (j+1))).length (Zg (YZ side (l.take k) es++st1 side (lo,b) (es.take (j+1))))):=by
    rw[b0.o,<-List.append_assoc,Mz,lA,p0.o,j0.o];exact J
   have r1:z9 (g4≠q):=by
    show _≠_
    rcases n0 with e|e
    ·exact O.o g4 e
    have:=(iA.1 f0.o).1
    have:=f.o.size;omega
   refine hK.out _ _ (g0.o _ T0.o) (fun hH=>?_)
   try go_frame
   refine ZX 7 hH ?_
   try go_frame
   refine wpAnyH_done (by kernel_rfl) ?_ _;go_wp2_with fail;go_roundg (M-(j+1))
   case measure=>omega
   exact⟨j+1,by omega,rfl,by go_num,Q,w0,A0,Dv r1.o⟩
  have i1:¬(j:Int)<(M:Int):=by omega
  have ej:j=M:=by omega
  have Q:z9 (wr.ownsRow w.heap.size 3 1 (U pa E pc) (YZ side (l.take (k+1)) es).length (Zg (YZ side (l.take (k+1)) es))):=by
   have e:=K.o;rw[Y0.o,show st1 side (lo,b) es=st1 side (lo,b) (es.take j)from by rw[x8 (by have:=HM.o;omega)],p0.o];exact e
  go_wp2_with fail;go_roundg (N-(k+1))
  case measure=>omega
  exact⟨k+1,by omega,rfl,by go_num,Q,o0⟩
 have K0:¬(k:Int)<(N:Int):=by omega
 have ek:l.take k=l:=x8 (by have:=HN.o;omega)
 have h0:0<R:=by
  rw[<-X.o,ek];have hp:=X0.o
  cases l with
  |nil=>simp at hp
  |cons s r=>simp[YZ,st1]
 obtain⟨g,cap,eo,hg,P1⟩:=HO.o.form h0;injection eo with e1 e2 e3;subst e1 e3;have D:=HO;rw[ek]at D X;obtain⟨_,V0,_,t1,_⟩:=Ku D.o;have B0:=Za (zm D.o (by omega));have HG:=Za hg;go_wp2_with fail;refine B0.o.mono ?_;rintro e w5 ⟨rfl,v1,A1⟩;have B1:=Za (He (cap:=oc) v1 (show _=R by rw[List.length_mergeSort];simpa[Kt]using t1) V0 (by omega));have C1:=Za (l0.o.monoNew A1 (fun i e=>y8 (by have:=HG.o;omega)));go_wp2_with fail;refine B1.o.mono ?_;rintro e w6 ⟨rfl,D1,E1⟩;have F1:=Za (C1.o.monoNew E1 (fun i e=>y8 (by have:=HG.o;omega)));have G1:=Za D1;go_wp2_with fail;go_ret
 have W0:Lib.compact ((Kt (YZ side l es)).mergeSort fun x y=>decide (x<=y))=Kt (Xx side A es):=by rw[HV.o,<-CY];rfl
 refine⟨⟨g,oc,HG.o,?_,fun j n hj=>?_⟩,F1.o⟩
 ·rw[W0]
  simp[Kt]
 refine G1.o j n ?_
 rw[W0];simp[Kt,hj]
theorem Hp (side)(A:SE)(b d f g a n c w):
  j4 z7 172 #[H G (side:Nat),j2 #[Xn b A.s0,Xn d A.s1,Xn f A.s2,Xn g A.s3],U a n c] w fun e w'=>e=y5 (.func (.func 212) #[] #[O (V ⟨w.heap.size,0,Z⟩),O (V ⟨w.heap.size+1+1,0,Z⟩),O (V ⟨w.heap.size+1,0,Z⟩)])/\w'=((w.alloc (z4 #[H G (side:Nat)] 3)).alloc (z4 #[Xn b A.s0,Xn d A.s1,Xn f A.s2,Xn g A.s3] 215)).alloc (z4 #[U a n c] 217):=by
 have h:∀(fn:Fn)(first cap:Array q9)(w:z6),(Instr.makeFunc fn first cap).run z7 w=.ok (.func fn first cap) w:=fun _ _ _ _=>rfl
 unfold Xn;go_enter Tryz.func172,Tryz.ntmps172;go_wp2;go_ret;exact⟨rfl,rfl⟩
structure Ry where
 p0:Nat
 p1:Nat
 p2:Nat
 p3:Nat
def Ry.set (p:Ry)(side n:Nat):Ry:=
 match side with
 |0=>{p with p0:=n}
 |1=>{p with p1:=n}
 |2=>{p with p2:=n}
 |_=>{p with p3:=n}
def Ry.at (p:Ry):Nat->Nat
 |0=>p.p0
 |1=>p.p1
 |2=>p.p2
 |_=>p.p3
def XY (A:SE):Nat->List Ta->List (Ry×Nat)
 |0,es=>[(⟨0,0,0,0⟩,es.length)]
 |k+1,es=>(Xx (3-k) A es).flatMap fun n=>(XY A k (Vi (3-k) n es)).map fun y=>(y.1.set (3-k) n,y.2)
theorem RU (n:Nat):∀l:List Nat,(∃x,x∈l/\x<=n)->∃m,m∈l/\m<=n/\∀x,x∈l->x<=n->x<=m
 |[],h=>by obtain⟨x,a,_⟩:=h;cases a
 |y::r,h=>by
  by_cases c:∃x,x∈r/\x<=n
  ·obtain⟨m,g,i,f⟩:=RU n r c
   by_cases j:y<=n/\m<=y
   ·refine⟨y,by simp,j.1,fun x a b=>?_⟩
    rcases y7.1 a with rfl|a
    ·omega
    have:=f x a b;omega
   refine⟨m,by simp[g],i,fun x a b=>?_⟩
   rcases y7.1 a with rfl|a
   ·omega
   exact f x a b
  obtain⟨x,a,b⟩:=h
  rcases y7.1 a with rfl|a
  ·refine⟨x,by simp,b,fun z d e=>?_⟩
   rcases y7.1 d with rfl|d
   ·omega
   exact absurd ⟨z,d,e⟩ c
  exact absurd ⟨x,a,b⟩ c
theorem Hq {Yq n}(h:Yq.1<=n/\n<=Yq.2):n∈Rx Yq n:=by simp[Rx,YY,h]
theorem Eg {side n Yq es}(f:YY Yq n=true):∃m,m∈st1 side Yq es/\YY Yq m=true/\∀e,e∈es->Xv e.A side m=Xv e.A side n:=by
 simp only[YY,x5,decide_eq_true_eq]at f;obtain⟨m,j,l,g⟩:=RU n (st1 side Yq es) ⟨Yq.1,by simp[st1],f.1⟩;have k:=g Yq.1 (by simp[st1]) f.1;refine⟨m,j,by simp only[YY,x5,decide_eq_true_eq];omega,fun e i=>?_⟩
 have d:∀t,t∈e.A.at side->YY t m=YY t n:=by
  intro t c
  have c1:Yq.1<=t.1->t.1<=n->t.1<=m:=fun a b=>g t.1 (by
   simp only[st1,y7,z8];refine y8 ⟨e,i,?_⟩;simp only[YB,z8]
   exact⟨t,c,by simp only[OT,q6];exact k7 (Hq (by omega))⟩) b
  have o:Yq.1<=t.2+1->t.2+1<=n->t.2+1<=m:=fun a b=>g (t.2+1) (by
   simp only[st1,y7,z8];refine y8 ⟨e,i,?_⟩;simp only[YB,z8]
   exact⟨t,c,by simp only[OT,q6];exact y8 (Hq (by omega))⟩) b
  rw[v7];simp only[YY,x5,decide_eq_true_eq];omega
 unfold Xv;rw[v7];simp only[x6]
 constructor
 ·rintro⟨t,c,h⟩;exact⟨t,c,by rw[<-d t c];exact h⟩
 rintro⟨t,c,h⟩;exact⟨t,c,by rw[d t c];exact h⟩
theorem Hr {side n A es}(a:Xv A side n=true):∃m,m∈Xx side A es/\Xv A side m=true/\∀e,e∈es->Xv e.A side m=Xv e.A side n:=by
 simp only[Xv,x6]at a;obtain⟨Yq,b,a⟩:=a;obtain⟨m,c,d,f⟩:=Eg (side:=side) (es:=es) a;refine⟨m,?_,?_,f⟩
 ·unfold Xx
  rw[MB];simp only[YZ,z8];exact⟨Yq,b,c⟩
 simp only[Xv,x6]
 exact⟨Yq,b,d⟩
theorem C6 {side m A es}(c:∀s,s∈A.at side->s.1<=s.2)(h:m∈Xx side A es):Xv A side m=true:=by
 unfold Xx at h;rw[MB]at h;simp only[YZ,z8]at h;obtain⟨Yq,b,h⟩:=h;simp only[Xv,x6];refine⟨Yq,b,?_⟩;simp only[st1,y7,z8]at h;rcases h with rfl|⟨e,_,h⟩
 ·have:=c Yq b
  simp only[YY,x5,decide_eq_true_eq];omega
 simp only[YB,z8,OT,q6]at h
 obtain⟨t,_,h⟩:=h
 have g:∀x,m∈Rx Yq x->YY Yq m=true:=by
  intro x a;unfold Rx at a
  split at a
  ·rename_i d
   simp at a;subst a;exact d
  cases a
 rcases h with h|h
 ·exact g _ h
 exact g _ h
def V6 (A:SE):Nat->Ry->Bool
 |0,_=>true
 |k+1,p=>Xv A (3-k) (p.at (3-k))&&V6 A k p
theorem OB (p:Ry){s}(h:s<4)(n):(p.set s n).at s=n:=by
 have:s=0\/s=1\/s=2\/s=3:=by omega
 rcases this with rfl|rfl|rfl|rfl<;>rfl
theorem JM (p:Ry){s t}(h:s<4)(d:t<4)(a:s≠t)(n):(p.set s n).at t=p.at t:=by
 have b:s=0\/s=1\/s=2\/s=3:=by omega
 have c:t=0\/t=1\/t=2\/t=3:=by omega
 rcases b with rfl|rfl|rfl|rfl<;>rcases c with rfl|rfl|rfl|rfl<;>first|rfl|exact absurd rfl a
theorem MK (A:SE)(p:Ry)(s n:Nat)(a:s<4):∀k,k+s<=3->V6 A k (p.set s n)=V6 A k p
 |0,_=>rfl
 |k+1,h=>by
  unfold V6;rw[JM p a (by omega) (by omega) n,MK A p s n a k (by omega)]
theorem U7 {A:SE}(a:∀side s,s∈A.at side->s.1<=s.2):∀k,k<=4->∀(es:List Ta)(y:Ry×Nat),y∈XY A k es->V6 A k y.1=true/\y.2=(es.filter fun e=>V6 e.A k y.1).length
 |0,_,es,y,h=>by
  simp only[XY,y9]at h;subst h;refine⟨rfl,?_⟩
  show es.length=(List.filter (fun _=>true) es).length
  rw[List.filter_eq_self.2 (fun _ _=>rfl)]
 |k+1,hk,es,y,h=>by
  simp only[XY,z8,k8]at h;obtain⟨n,c,z,d,rfl⟩:=h;obtain⟨f,g⟩:=U7 a k (by omega) _ z d
  have b:∀B:SE,V6 B (k+1) (z.1.set (3-k) n)=(Xv B (3-k) n&&V6 B k z.1):=fun B=>by
   conv=>lhs;unfold V6
   rw[OB z.1 (by omega) n,MK B z.1 (3-k) n (by omega) k (by omega)]
  refine⟨?_,?_⟩
  ·show V6 A (k+1) (z.1.set (3-k) n)=true
   rw[b,C6 (a _) c,f];rfl
  show z.2=_
  rw[g];unfold Vi;rw[List.filter_filter]
  congr 1
  refine List.filter_congr fun e _=>?_
  rw[b,Bool.and_comm]
theorem Qp {A:SE}:∀k,k<=4->∀(es:List Ta)(p:Ry),V6 A k p=true->∃y,y∈XY A k es/\∀e,e∈es->V6 e.A k y.1=V6 e.A k p
 |0,_,es,p,_=>⟨_,y9.2 rfl,fun _ _=>rfl⟩
 |k+1,hk,es,p,h=>by
  unfold V6 at h;rw[x5]at h;obtain⟨m,b,_,c⟩:=Hr (es:=es) h.1;obtain⟨z,d,f⟩:=Qp k (by omega) (Vi (3-k) m es) p h.2;refine⟨(z.1.set (3-k) m,z.2),?_,fun e a=>?_⟩
  ·simp only[XY,z8,k8]
   exact⟨m,b,z,d,rfl⟩
  show V6 e.A (k+1) (z.1.set (3-k) m)=_
  unfold V6;rw[OB z.1 (by omega) m,MK e.A z.1 (3-k) m (by omega) k (by omega),<-c e a]
  cases g:Xv e.A (3-k) m with
  |false=>rfl
  |true=>
   rw[f e (by unfold Vi;rw[q7];exact⟨a,g⟩)]
theorem C7 {A}(d:∀side s,s∈A.at side->s.1<=s.2)(es):(∃y,y∈XY A 4 es/\y.2=0)↔∃p,V6 A 4 p=true/\∀e,e∈es->V6 e.A 4 p=false:=by
 constructor
 ·rintro⟨y,a,g⟩
  obtain⟨h,b⟩:=U7 d 4 (by omega) es y a;refine⟨y.1,h,fun e c=>?_⟩;rw[g]at b;have f:=q8 b.symm;rw[j5]at f
  simpa using f e c
 rintro⟨p,i,j⟩
 obtain⟨y,a,k⟩:=Qp 4 (by omega) es p i;obtain⟨_,b⟩:=U7 d 4 (by omega) es y a;refine⟨y,a,?_⟩;rw[b,j3,j5];intro e c;rw[k e c,j e c];simp
open Go.Shelf
def O7 (a:List Nat):List Deferred:=a.map fun D=>{target:=.collected D,args:=#[]}
def zy (W:z6):List Nat->z6
 |[]=>W
 |D::r=>zy (W.putObj D (.deferred Z)) r
theorem WZ {F:Fence}{n:Nat}{P:Program}{fn:Func}{tmps:Array q9}{R:Ending->z6->Prop}:∀(a:List Nat)(W:z6),a.Nodup->(∀D,D∈a->W.heap[D]?=V (.deferred (V [])))->LeavesIn F n P fn tmps R [] .returning (zy W a)->LeavesInM F n P fn tmps R (O7 a) .returning W
 |[],_,_,_,h=>h
 |D::r,W,hd,hD,h=>by
  obtain⟨c,d⟩:=v8.1 hd;refine⟨by simp,.inl ⟨D,_,rfl,run_takeDeferred (hD D (by simp)),?_⟩⟩;refine WZ r _ d (fun E b=>?_) h;exact(z5 (fun e=>c (by first|exact e▸b|exact e.symm▸b))).trans (hD E (by simp[b]))
def YC {β:Type}(M:Nat)(I:β->z6->Prop):Prop:=∀s W a,I s W->Fr (fun k=>M<=k) W a->I s a
def zz {α:Type}(S:Nat->Prop)(I:List α->z6->Prop)(b:Code->List α->z6->Prop)(a:List α)(W:z6):Exit->Act->z6->Prop
 | .normal,_,W'=>Fr S W W'/\I a W'
 | .ret,_,W'=>Fr S W W'/\b .ret a W'
 | .exit id,_,W'=>Fr S W W'/\b (.exit id) a W'
 |_,_,_=>False
def JN (B:Nat)(r:Loop)(W:z6):Prop:=W.heap[B+1]?=V (.loop r)/\W.heap[B]?=V (.deferred (V []))
def zA (B:Nat)(r:Loop)(c:Code)(W:z6):Prop:=W.heap[B+1]?=V (.loop {r with state:=.done,pending:=V c})/\W.heap[B]?=V (.deferred (V []))
def Tq (S:Nat->Prop)(B:Nat):Nat->Prop:=fun k=>S k\/k=B\/k=B+1
theorem Qq {S l W}(h:S l)(o):Fr S W (W.putObj l o):=by
 have a:=grownBy_putObj' W l o;exact⟨a.os,a.tape,a.output,a.size,fun k c b=>z5 (by rintro rfl;exact b h)⟩
theorem YC.put {β M I}(h:YC M I){s:β}{W l}(o)(a:I s W)(b:M<=l):I s (W.putObj l o):=h s W _ a (Qq b o)
theorem YC.alloc {β M I}(h:YC M I){s:β}{W}(o)(a:I s W):I s (W.alloc o):=h s W _ a (Zt.alloc o)
theorem YC.mono {β M N}{I:β->z6->Prop}(h:YC M I)(a:M<=N):YC N I:=fun s W b c d=>h s W b c (d.mono (fun _ e=>y6 a e))
theorem YC.and {β M}{I K:β->z6->Prop}(h:YC M I)(k:YC M K):YC M (fun s W=>I s W/\K s W):=fun s W a b c=>⟨h s W a b.1 c,k s W a b.2 c⟩
theorem YC.map {β γ M I}(h:YC M I)(f:γ->β):YC M (fun(s:γ) W=>I (f s) W):=fun s W a b c=>h (f s) W a b c
theorem YC.pure {β M}(p:β->Prop):YC M (fun(s:β)(_:z6)=>p s):=fun _ _ _ a _=>a
theorem YC.fr {β M S a}(h:a.heap.size<=M):YC M (fun(_:β) W=>Fr S a W):=fun _ _ _ b c=>b.monoNew c (fun _ hi=>.inr (y6 h hi))
theorem YC.block {β M b o}(h:b<M):YC M (fun(_:β)(W:z6)=>W.heap[b]?=V o):=fun _ W _ a c=>(c.block b (iA.1 a).1 (by show¬M<=b;omega)).trans a
theorem JO {M:Nat}:∀(a:List Nat)(W:z6),(∀D,D∈a->M<=D)->Fr (fun k=>M<=k) W (zy W a)
 |[],W,_=>Fr.refl _ W
 |D::r,W,h=>(Qq (S:=fun k=>M<=k) (h D (by simp)) _).trans (JO r _ (fun E b=>h E (by simp[b])))
theorem Pe {S k X Y o}(h:Fr S X Y)(b:¬S k)(a:X.heap[k]?=V o):Y.heap[k]?=V o:=
 (h.block k (iA.1 a).1 b).trans a
theorem C8 {α P m B S r I L}{b:α->Array q9}{x pre}{N:Nat->Act->z6->Prop}{W}(O:Fence.wide.fn r.fn)(o:r.state=.ready)(z:r.pending=Z)(Q:(b x).size=r.params.size)(hS:∀k,S k->k<B)(hI:YC B I)(A:∀c,YC B (L c))(R:∀m g,OwnFrom B (fun(_:Unit) W=>N m g W))(J:JN B r W)(d:∀K:Act->z6->Prop,(∀g a,Fr S W a->I pre a->N W.heap.size g a->K g a)->r.assign.wpIn (Fence.wide.inRound (B+1)) m P (Exit.then K (fun _ _ _=>False)) {tmps:=(r.params.zip (b x)).foldl (fun t (p,v)=>t.setIfInBounds p v) r.tmps,defers:=[]} W)(q:∀M g a,B+2<=M->I pre a->N M g a->r.body.wpIn (Fence.wide.inRound (B+1)) m P (zz (fun k=>S k\/M<=k) I L (pre++[x]) a) g a):
  YieldAt Fence.wide m P (B+1) (b x) W fun e a=>Fr (Tq S B) W a/\((e=y5 (y4 true)/\I (pre++[x]) a/\JN B r a)\/(e=y5 (y4 false)/\∃c,L c (pre++[x]) a/\zA B r c a)):=by
 refine⟨r.fn,_,r.assign,r.body,run_yield J.1 Q,roundIn_of_wpIn O (d _ fun g C D hi hx=>?_)⟩
 have n1:¬S (B+1):=fun h=>by have:=hS _ h;omega
 have n0:¬S B:=fun h=>by have:=hS _ h;omega
 have U:B+2<=W.heap.size:=(iA.1 J.1).1;have X:=Pe D n1 J.1;have hd:=Pe D n0 J.2;have D:=D.mono (T:=Tq S B) (fun k h=>.inl h);refine⟨_,run_beginRound X o,?_⟩;have Y:=(iA.1 X).1;have a0:(C.putObj (B+1) (.loop {r with state:=.busy})).heap[B+1]?=V (.loop {r with state:=.busy}):=j6 Y;have b0:(C.putObj (B+1) (.loop {r with state:=.busy})).heap[B]?=V (.deferred (V [])):=(z5 (by omega)).trans hd;have c0:Fr (Tq S B) C (C.putObj (B+1) (.loop {r with state:=.busy})):=Qq (.inr (.inr rfl)) _;refine wpIn_mono (q _ g _ U (hI.put _ hi (by omega)) ((R _ g).putObj (s:=()) _ hx (by omega) X rfl)) ?_;intro e a3 E w
 have u:∀j,Fr (fun k=>S k\/W.heap.size<=k) (C.putObj (B+1) (.loop {r with state:=.busy})) E->E.heap[B+1]?=V (.loop {r with state:=.busy})/\(E.putObj (B+1) j).heap[B+1]?=V j/\(E.putObj (B+1) j).heap[B]?=V (.deferred (V []))/\Fr (Tq S B) W (E.putObj (B+1) j):=fun j l=>by
  have n:=Pe l (by rintro(h|h);exact n1 h;omega) a0;exact⟨n,j6 (iA.1 n).1,(z5 (by omega)).trans (Pe l (by rintro(h|h);exact n0 h;omega) b0),((D.trans c0).monoNew l (fun i hi=>hi.elim (fun h=>.inl (.inl h)) .inr)).trans (Qq (.inr (.inr rfl)) _)⟩
 have er:({{r with state:=.busy}with state:=.ready,pending:=Z}:Loop)=r:=by
  cases r
  simp at o z;subst o z;rfl
 cases e with
 |normal=>
  obtain⟨l,f⟩:=w;obtain⟨n,F,G,H⟩:=u (.loop r) l;have y:=run_endRound (P:=P) Z n;simp only[Option.isNone_none,if_true,er]at y;exact⟨_,_,y,H,.inl ⟨rfl,hI.put _ f (by omega),F,G⟩⟩
 |ret=>
  obtain⟨l,f⟩:=w;obtain⟨n,F,G,H⟩:=u (.loop {r with state:=.done,pending:=V .ret}) l;have y:=run_endRound (P:=P) (V .ret) n;exact⟨_,_,y,H,.inr ⟨rfl,.ret,(A _).put _ f (by omega),F,G⟩⟩
 |exit id=>
  obtain⟨l,f⟩:=w;obtain⟨n,F,G,H⟩:=u (.loop {r with state:=.done,pending:=V (.exit id)}) l;have y:=run_endRound (P:=P) (V (.exit id)) n;exact⟨_,_,y,H,.inr ⟨rfl,.exit id,(A _).put _ f (by omega),F,G⟩⟩
 |goto t=>exact w.elim
 |panic c=>exact w.elim
 |outgrown=>exact w.elim
def Hs {α:Type}(P:Program)(gf:Nat)(lb:Array q9)(b:α->Array q9)(S:Nat->Prop)(c:List α)(w:z6):Prop:=
 ∀(n l:Nat)(J d:List α->z6->Prop)(W:z6),Fr S w W->(∀k,S k->k<W.heap.size)->YC W.heap.size J->YC W.heap.size d->
  (∀pre x f,pre++[x]<+:c->J pre f->YieldAt Fence.wide n P l (b x) f fun e a=>Fr S f a/\((e=y5 (y4 true)/\J (pre++[x]) a)\/(e=y5 (y4 false)/\d (pre++[x]) a)))->
  J [] W->CallsIn Fence.wide (n+1) P gf (#[.func (.yield l) #[] #[]]++lb) W fun e a=>(∃v,e=y5 v)/\(J c a\/∃pre,pre<+:c/\d pre a)
theorem Dw {A B k o p}(a:Fr (fun i=>k+2<=i) A B)(h:A.heap[k+1]?=V o/\A.heap[k]?=V p):B.heap[k+1]?=V o/\B.heap[k]?=V p:=
 ⟨(a.block _ (iA.1 h.1).1 (by show¬k+2<=k+1;omega)).trans h.1,(a.block _ (iA.1 h.2).1 (by show¬k+2<=k;omega)).trans h.2⟩
theorem PV {α P g b assign body Q a w w0 n gf S lb d y}(hg:a.eval g=.func (.func gf) #[] lb)(eg:∀args w,(callFunc gf args).run P w=.ok (.enter gf args) w)(z:Hs P gf lb d (Tq S w.heap.size) y w0)(L:Fr S w0 w)(N:∀x,(d x).size=b.size)(Y:∀k,S k->k<w.heap.size)(I H)(C:YC w.heap.size I)(j:∀c,YC w.heap.size (H c))(h0:I [] w)(O:α->Nat->Act->z6->Prop)(R:∀x m i,OwnFrom w.heap.size (fun(_:Unit) W=>O x m i W))(f:∀pre x W K,pre++[x]<+:y->I pre W->(∀i u,Fr S W u->I pre u->O x W.heap.size i u->K i u)->assign.wpIn (Fence.wide.inRound (w.heap.size+1)) n P (Exit.then K (fun _ _ _=>False)) {tmps:=(b.zip (d x)).foldl (fun t (p,v)=>t.setIfInBounds p v) a.tmps,defers:=[]} W)(l:∀pre x M i W,pre++[x]<+:y->w.heap.size+2<=M->I pre W->O x M i W->body.wpIn (Fence.wide.inRound (w.heap.size+1)) n P (zz (fun k=>S k\/M<=k) I H (pre++[x]) W) i W)(o:∀W,I y W->W.heap[w.heap.size]?=V (.deferred (V []))->Q .normal {a with defers:={target:=.collected w.heap.size,args:=#[]}::a.defers} W)(q:∀c pre W,pre<+:y->H c pre W->W.heap[w.heap.size]?=V (.deferred (V []))->c.wpIn Fence.wide (n+2) P Q {a with defers:={target:=.collected w.heap.size,args:=#[]}::a.defers} W):
  (Code.rangeFunc g b assign body).wpIn Fence.wide (n+2) P Q a w:=by
 refine wpIn_rangeFunc ?_;intro fn T;obtain⟨_,hD,hL⟩:=Ic w (.deferred (V [])) (.loop {state:=.ready,pending:=Z,fn,tmps:=a.tmps,params:=b,assign,body,defers:=w.heap.size});have U:=C.alloc (.loop {state:=.ready,pending:=Z,fn,tmps:=a.tmps,params:=b,assign,body,defers:=w.heap.size}) (C.alloc (.deferred (V [])) h0);have X:Fr (Tq S w.heap.size) w0 ((w.alloc (.deferred (V []))).alloc (.loop {state:=.ready,pending:=Z,fn,tmps:=a.tmps,params:=b,assign,body,defers:=w.heap.size})):=((L.alloc _).alloc _).mono (fun k h=>.inl h)
 have D:((w.alloc (.deferred (V []))).alloc (.loop {state:=.ready,pending:=Z,fn,tmps:=a.tmps,params:=b,assign,body,defers:=w.heap.size})).heap.size=w.heap.size+2:=by simp
 refine⟨w.heap.size+1,_,((w.alloc (.deferred (V []))).alloc (.loop {state:=.ready,pending:=Z,fn,tmps:=a.tmps,params:=b,assign,body,defers:=w.heap.size})),{target:=.fn (.func gf) lb,args:=#[.func (.yield (w.heap.size+1)) #[] #[]]},((w.alloc (.deferred (V []))).alloc (.loop {state:=.ready,pending:=Z,fn,tmps:=a.tmps,params:=b,assign,body,defers:=w.heap.size})),gf,#[.func (.yield (w.heap.size+1)) #[] #[]]++lb,((w.alloc (.deferred (V []))).alloc (.loop {state:=.ready,pending:=Z,fn,tmps:=a.tmps,params:=b,assign,body,defers:=w.heap.size})),run_enterLoop_outer _ _ _ _ _,?q1,?q0,?q2,?q4,?_⟩
 case q0=>exact fun _ _=>trivial
 case q4=>intro h;cases h
 case q1=>simp only[resolve,hg];simp[go_sem]
 case q2=>simp[invoke,go_sem,eg]
 generalize(w.alloc _).alloc _=W1 at*;have hr:=z n (w.heap.size+1) (fun pre W=>I pre W/\JN w.heap.size {state:=.ready,pending:=Z,fn,tmps:=a.tmps,params:=b,assign,body,defers:=w.heap.size} W) (fun pre W=>∃c,H c pre W/\zA w.heap.size {state:=.ready,pending:=Z,fn,tmps:=a.tmps,params:=b,assign,body,defers:=w.heap.size} c W) W1 X ?k0 ?k1 ?k2 ?k3 ⟨U,hL,hD⟩
 case k0=>
  rintro k (h|rfl|rfl)
  ·have:=Y k h;omega
  ·omega
  omega
 case k1=>
  intro s A B J r;rw[D]at r;exact⟨C s A B J.1 (r.mono (fun k hk=>by show w.heap.size<=k;omega)),Dw r J.2⟩
 case k2=>
  intro s A B J r;rw[D]at r;obtain⟨c,E,F⟩:=J;exact⟨c,j c s A B E (r.mono (fun k hk=>by show w.heap.size<=k;omega)),Dw r F⟩
 case k3=>
  intro pre x W2 hp hJ;exact C8 T rfl rfl (N x) Y C j (R x) hJ.2 (fun K hK=>f pre x W2 K hp hJ.1 hK) (fun M i u hM hi hx=>l pre x M i u hp hM hi hx)
 refine hr.mono ?_;rintro e W3 ⟨⟨v,rfl⟩,(⟨hi,E,F⟩|⟨pre,G,c,hi,E,F⟩)⟩
 ·exact⟨Z,_,run_endLoop E (by simp),o _ (C.put _ hi (by omega)) ((z5 (by omega)).trans F)⟩
 exact⟨V c,_,run_endLoop E (by simp),q c pre _ G ((j c).put _ hi (by omega)) ((z5 (by omega)).trans F)⟩
attribute [local go_sem] Oper.semAt_some
def KE (p:Ry):q9:=j2 #[H G (p.p0:Nat),H G (p.p1:Nat),H G (p.p2:Nat),H G (p.p3:Nat)]
def C9 (y:Ry×Nat):Array q9:=#[KE y.1,H G (y.2:Nat)]
set_option maxRecDepth 100000 in
theorem Bc (Bs g m N c S a w)(s:∀W,Fr S w W->W.cell? ⟨Bs,0,Z⟩=V (H G 4)/\W.cell? ⟨g,0,Z⟩=V (U a N c)):
  Hs z7 212 #[O (V ⟨Bs,0,Z⟩),O (V ⟨g,0,Z⟩),O (V ⟨m,0,Z⟩)] C9 S [(⟨0,0,0,0⟩,N)] w:=by
 intro n l J B W t C u v x y;obtain⟨c1,q⟩:=s W t;have r:=(Vx W (z4 #[.func (.yield l) #[] #[]] 312)).1;refine callsIn_wide.2 ?_
 show j4 _ _ #[.func (.yield l) #[] #[],O (V ⟨Bs,0,Z⟩),O (V ⟨g,0,Z⟩),O (V ⟨m,0,Z⟩)] W _
 obtain⟨fn,tmps,b,body,d,z⟩:=x [] (⟨0,0,0,0⟩,N) (W.alloc (z4 #[.func (.yield l) #[] #[]] 312)) (by simp) (u.alloc _ y);unfold C9 KE at d;replace d:(Instr.yield l #[j2 #[H G 0,H G 0,H G 0,H G 0],H G (N:Nat)]).run z7 (W.alloc (z4 #[.func (.yield l) #[] #[]] 312))=.ok (.round l fn tmps b body) (W.alloc (z4 #[.func (.yield l) #[] #[]] 312)):=d;have h:=Za z;have D:=(r.o.cell (p:=⟨g,0,Z⟩) (bL W _ q)).trans q;have E:=(r.o.cell (p:=⟨Bs,0,Z⟩) (bL W _ c1)).trans c1;go_enter Tryz.func212,Tryz.ntmps212;go_upto_region 2 with fail;refine(wpIn_wide (n:=n+1)).1 ?_
 gi_wp2
 refine h.o.mono ?_;rintro e F ⟨A,(⟨rfl,i⟩|⟨rfl,f⟩)⟩
 ·have j:=Za i
  gi_wp2
  go_wp2_with fail;refine bodyPost_ret (results_none rfl _ _ _) rfl ?_;exact⟨⟨_,rfl⟩,.inl j.o⟩
 have k:=Za f
 gi_wp2
 go_wp2_with fail;refine bodyPost_ret (results_none rfl _ _ _) rfl ?_;exact⟨⟨_,rfl⟩,.inr ⟨_,by simp,k.o⟩⟩
theorem RW {β}{C b:Nat}{d t}:OwnFrom C (fun(_:β)(W:z6)=>W.heap[b]?=V (z4 d t)):=fun _ W i row a f g=>
 (f.block _ (iA.1 a).1 (fun e=>by obtain⟨_,o,c,h⟩:=g _ e.symm;rw[a]at c;cases c;cases h)).trans a
theorem ML:∀(es:List Ta)(k:Nat)(e:Ta),es[k]?=V e->∀(j:Nat)(v:q9),(Q7 e)[j]?=V v->(Ve es)[k*4+j]?=V v
 |[],k,e,h=>by simp at h
 |x::r,0,e,h=>by
  simp at h;subst h;intro j v a;have b:=(iG.1 a).1
  show(Q7 x++Ve r)[0*4+j]?=V v
  rw[List.getElem?_append_left (by omega),Nat.zero_mul,j0];exact a
 |x::r,k+1,e,h=>by
  intro j v a;have l:(Q7 x).length=4:=rfl
  show(Q7 x++Ve r)[(k+1)*4+j]?=V v
  rw[aR (by omega),l,show(k+1)*4+j-4=k*4+j from by omega];exact ML r k e (by simpa using h) j v a
theorem Dx {W l v es t}(h:W.ownsRow l t 4 v es.length (Ve es))(f:∀e,e∈es->e.ok W):∃a c,v=U a es.length c/\VZ W a es/\∀g o,a=V ⟨g,o,Z⟩->l<=g/\g<W.heap.size:=by
 by_cases n:0<es.length
 ·obtain⟨g,cap,rfl,i,p⟩:=h.form n
  refine⟨_,_,rfl,fun k e b=>⟨f e (mG b),g,0,rfl,fun j v q=>?_⟩,fun r o e=>?_⟩
  ·have m:=h.cells (g:=g) rfl _ _ (ML es k e b j v q)
   have d:∀k,(⟨g,0,Z⟩:Addr).add k=⟨g,k,Z⟩:=fun k=>by unfold Addr.add;split<;>simp_all
   rw[d]at m;rw[j0];exact m
  cases e
  exact⟨i,p⟩
 have b:es=[]:=j3.1 (by omega)
 subst b;rcases h.2 with⟨rfl,_⟩|⟨g,cap,s,rfl,i,u,_⟩
 ·exact⟨Z,0,rfl,fun k e b=>by simp at b,fun g o e=>by cases e⟩
 refine⟨_,_,rfl,fun k e b=>by simp at b,fun r o e=>?_⟩
 cases e
 exact⟨i,(iA.1 u).1⟩
theorem VZ.frS {w w' S a es}(h:VZ w a es)(m:Fr S w w')(n:∀g o,a=V ⟨g,o,Z⟩->g<w.heap.size->¬S g)(b:∀e,e∈es->e.ok w'):VZ w' a es:=by
 intro k e c;obtain⟨_,g,o,d,f⟩:=h k e c;refine⟨b e (mG c),g,o,d,fun j v i=>?_⟩;have l:=bL w _ (f j v i);exact(m.cell (p:=⟨g,o+k*4+j,Z⟩) l (n g o d l)).trans (f j v i)
theorem VZ.old {w w' a es}(h:VZ w a es)(b:Fr (fun k=>w.heap.size<=k) w w'):VZ w' a es:=by
 refine h.frS b (fun g o _ c d=>by omega) (fun e f=>?_);obtain⟨k,i⟩:=x4.1 f;exact(h k e i).1.frS b (fun x _ g o _ c d=>by omega)
structure JP (W:z6)(Bs Bo Ba side:Nat)(A:SE)(x0 x1 x2 x3:GU)(a:Option Addr)(c:Nat)(es:List Ta):Prop where
 s:W.cell? ⟨Bs,0,Z⟩=V (H G (side:Nat))
 o:W.cell? ⟨Bo,0,Z⟩=V (U a es.length c)
 a0:W.cell? ⟨Ba,0,Z⟩=V (Xn x0 A.s0)
 a1:W.cell? ⟨Ba,1,Z⟩=V (Xn x1 A.s1)
 a2:W.cell? ⟨Ba,2,Z⟩=V (Xn x2 A.s2)
 a3:W.cell? ⟨Ba,3,Z⟩=V (Xn x3 A.s3)
 ar:PR W A x0 x1 x2 x3
 ars:VZ W a es
def Ia (side n:Nat)(y:Ry×Nat):Ry×Nat:=(y.1.set side n,y.2)
def zB (A:SE)(k:Nat)(es:List Ta)(side n:Nat):List (Ry×Nat):=(XY A k (Vi side n es)).map (Ia side n)
def Wb (A:SE)(k:Nat)(es:List Ta)(side:Nat)(l:List Nat):List (Ry×Nat):=l.flatMap (zB A k es side)
theorem zC (A k side es)(h:side+k=3):XY A (k+1) es=Wb A k es side (Xx side A es):=by
 obtain rfl:side=3-k:=by omega
 rfl
theorem Eh (A k es side l n):Wb A k es side (l++[n])=Wb A k es side l++zB A k es side n:=by simp[Wb]
theorem MM {A k es side}{l:List Nat}{j n}(h:l[j]?=V n):Wb A k es side (l.take (j+1))=Wb A k es side (l.take j)++zB A k es side n:=by
 rw[List.take_add_one,h];exact Eh A k es side _ n
theorem Be {A k es side l}(j):Wb A k es side (l.take j)<+:Wb A k es side l:=by
 refine⟨Wb A k es side (l.drop j),?_⟩;unfold Wb;rw[<-List.flatMap_append,List.take_append_drop]
theorem MN {A k es side l j n}(h:l[j]?=V n){pre}(a:pre<+:XY A k (Vi side n es)):Wb A k es side (l.take j)++pre.map (Ia side n)<+:Wb A k es side l:=by
 refine List.IsPrefix.trans ?_ (Be (j+1));rw[MM h];exact(List.prefix_append_right_inj _).2 (a.map _)
theorem Ei {W side A b c d f a es}(m:es.length<=10)(h:PR W A b c d f)(g:VZ W a es):(Xx side A es).length<=2010:=by
 have i:∀e,e∈es->(e.A.at side).length<=10:=fun e j=>by
  obtain⟨k,l⟩:=x4.1 j;exact(g k e l).1.few side
 have n:=PT side es i (A.at side);have o:=F5 (YZ side (A.at side) es);have p:=k5 (show 1+20*es.length<=201 by omega) (h.few side);unfold Xx;omega
theorem xx {W:z6}{B side v0 v1 v2 v3 t}(a:side<4)(h:W.heap[B]?=V (z4 #[v0,v1,v2,v3] t)):∃u,W.cell? ⟨B,side,Z⟩=V u:=by
 have:side=0\/side=1\/side=2\/side=3:=by omega
 rcases this with rfl|rfl|rfl|rfl
 ·exact⟨_,Zc h 0⟩
 ·exact⟨_,Zc h 1⟩
 ·exact⟨_,Zc h 2⟩
 exact⟨_,Zc h 3⟩
theorem vJ (p:Ry)(side n)(d:side<4)(B)(W:z6)(t)(h:W.heap[B]?=V (z4 #[H G (p.p0:Nat),H G (p.p1:Nat),H G (p.p2:Nat),H G (p.p3:Nat)] t)):
  (W.setCell ⟨B,side,Z⟩ (H G (n:Nat))).cell? ⟨B,0,Z⟩=V (H G ((p.set side n).p0:Nat))/\(W.setCell ⟨B,side,Z⟩ (H G (n:Nat))).cell? ⟨B,1,Z⟩=V (H G ((p.set side n).p1:Nat))/\(W.setCell ⟨B,side,Z⟩ (H G (n:Nat))).cell? ⟨B,2,Z⟩=V (H G ((p.set side n).p2:Nat))/\(W.setCell ⟨B,side,Z⟩ (H G (n:Nat))).cell? ⟨B,3,Z⟩=V (H G ((p.set side n).p3:Nat)):=by
 have a:=Zc h 0;have c1:=Zc h 1;have b:=Zc h 2;have c:=Zc h 3
 have:side=0\/side=1\/side=2\/side=3:=by omega
 rcases this with rfl|rfl|rfl|rfl
 ·exact⟨cS _ _ _ a,(cO _ _ _ _ (by simp)).trans c1,(cO _ _ _ _ (by simp)).trans b,(cO _ _ _ _ (by simp)).trans c⟩
 ·exact⟨(cO _ _ _ _ (by simp)).trans a,cS _ _ _ c1,(cO _ _ _ _ (by simp)).trans b,(cO _ _ _ _ (by simp)).trans c⟩
 ·exact⟨(cO _ _ _ _ (by simp)).trans a,(cO _ _ _ _ (by simp)).trans c1,cS _ _ _ b,(cO _ _ _ _ (by simp)).trans c⟩
 exact⟨(cO _ _ _ _ (by simp)).trans a,(cO _ _ _ _ (by simp)).trans c1,(cO _ _ _ _ (by simp)).trans b,cS _ _ _ c⟩
attribute [local go_sem] Oper.semAt_some
def TU:Code->Option Code
 | .rangeFunc g d a b=>V (.rangeFunc g d a b)
 | .seq a b=>(TU a).or (TU b)
 | .block _ c=>TU c
 | .loop c=>TU c
 |_=>Z
def xy (f:Func):Code:=(f.body.bind TU).getD .skip
set_option maxRecDepth 100000 in
theorem Ht (side n l N M)(hs:side<4)(S J Jx d xs Bs By Bn Cs Co Ca w Q ds t0 t2 t3 t5 t7 t8 t9 f g j q r t v y z D E I L P R T U X Y a0 b0 c0 o0 q0 d0 f0 g0 i0 j0 k0 l0 m0 n0)(x0:Hs z7 212 #[O (V ⟨Cs,0,Z⟩),O (V ⟨Co,0,Z⟩),O (V ⟨Ca,0,Z⟩)] C9 (Tq S w.heap.size) xs w)(hS:∀k,S k->k<M)(hM:M<=w.heap.size)(hJ:YC M J)(B0:YC M Jx)(hY:∀pre x W1,pre++[x]<+:xs->J (d++pre.map (Ia side n)) W1->YieldAt Fence.wide N z7 l (C9 (Ia side n x)) W1 fun e W'=>Fr S W1 W'/\((e=y5 (y4 true)/\J (d++(pre++[x]).map (Ia side n)) W')\/(e=y5 (y4 false)/\Jx (d++(pre++[x]).map (Ia side n)) W')))(hc:∀W,Fr S w W->W.cell? ⟨Bs,0,Z⟩=V (H G (side:Nat))/\W.cell? ⟨By,0,Z⟩=V (.func (.yield l) #[] #[])/\W.cell? ⟨Bn,0,Z⟩=V (H G (n:Nat)))(h0:J d w)(r0:∀W,Fr S w W->J (d++xs.map (Ia side n)) W->W.heap[w.heap.size]?=V (.deferred (V []))->Q .normal {tmps:=#[t0,O (V ⟨Bs,0,Z⟩),t2,t3,O (V ⟨By,0,Z⟩),t5,O (V ⟨Bn,0,Z⟩),t7,t8,t9,f,g,j,q,r,t,v,y,z,D,E,I,L,P,R,T,U,X,Y,a0,b0,c0,.func (.func 212) #[] #[O (V ⟨Cs,0,Z⟩),O (V ⟨Co,0,Z⟩),O (V ⟨Ca,0,Z⟩)],o0,q0,d0,f0,g0,i0,j0,k0,l0,m0,n0],defers:={target:=.collected w.heap.size,args:=#[]}::ds} W)(s0:∀pre W,pre<+:xs->Fr S w W->Jx (d++pre.map (Ia side n)) W->W.heap[w.heap.size]?=V (.deferred (V []))->Q .ret {tmps:=#[t0,O (V ⟨Bs,0,Z⟩),t2,t3,O (V ⟨By,0,Z⟩),t5,O (V ⟨Bn,0,Z⟩),t7,t8,t9,f,g,j,q,r,t,v,y,z,D,E,I,L,P,R,T,U,X,Y,a0,b0,c0,.func (.func 212) #[] #[O (V ⟨Cs,0,Z⟩),O (V ⟨Co,0,Z⟩),O (V ⟨Ca,0,Z⟩)],o0,q0,d0,f0,g0,i0,j0,k0,l0,m0,n0],defers:={target:=.collected w.heap.size,args:=#[]}::ds} W):
  (xy Tryz.f212).wpIn Fence.wide 2 z7 Q {tmps:=#[t0,O (V ⟨Bs,0,Z⟩),t2,t3,O (V ⟨By,0,Z⟩),t5,O (V ⟨Bn,0,Z⟩),t7,t8,t9,f,g,j,q,r,t,v,y,z,D,E,I,L,P,R,T,U,X,Y,a0,b0,c0,.func (.func 212) #[] #[O (V ⟨Cs,0,Z⟩),O (V ⟨Co,0,Z⟩),O (V ⟨Ca,0,Z⟩)],o0,q0,d0,f0,g0,i0,j0,k0,l0,m0,n0],defers:=ds} w:=by
 conv=>arg 4;whnf
 refine PV (n:=0) rfl (enters_of Tryz.func212 (by kernel_rfl) rfl) x0 Zt (fun _=>rfl) (fun k hk=>nL (hS k hk) hM)
  (fun pre W=>J (d++pre.map (Ia side n)) W/\Fr S w W) (fun c pre W=>c=.ret/\(Jx (d++pre.map (Ia side n)) W/\Fr S w W))
  (YC.and (YC.map (hJ.mono hM) (fun(pre:List (Ry×Nat))=>d++pre.map (Ia side n))) (YC.fr (x9 _))) (fun c=>YC.and (YC.pure (fun(_:List (Ry×Nat))=>c=.ret)) (YC.and (YC.map (B0.mono hM) (fun(pre:List (Ry×Nat))=>d++pre.map (Ia side n))) (YC.fr (x9 _)))) ⟨by simpa using h0,Zt⟩
  (fun x m a' W=>∃a,m<=a/\W.heap[a]?=V (z4 #[H G (x.1.p0:Nat),H G (x.1.p1:Nat),H G (x.1.p2:Nat),H G (x.1.p3:Nat)] 139)/\a'={tmps:=#[t0,O (V ⟨Bs,0,Z⟩),t2,t3,O (V ⟨By,0,Z⟩),t5,O (V ⟨Bn,0,Z⟩),O (V ⟨a,0,Z⟩),H G (x.2:Nat),t9,f,g,j,q,r,t,v,y,z,D,E,I,L,P,R,T,U,X,Y,a0,b0,c0,.func (.func 212) #[] #[O (V ⟨Cs,0,Z⟩),O (V ⟨Co,0,Z⟩),O (V ⟨Ca,0,Z⟩)],KE x.1,H G (x.2:Nat),d0,f0,g0,i0,j0,k0,l0,m0,n0],defers:=[]})
  (fun x m a' s A B row hs hg hr=>by obtain⟨a,h1,h2,h3⟩:=hs;exact⟨a,h1,RW (C:=w.heap.size) () A B row h2 hg hr,h3⟩) ?assign ?body ?done ?_
 case assign=>
  rintro pre x W K hp ⟨hi,hf⟩ hK;unfold C9 KE
  gi_wp2
  exact hK _ _ (Zt.alloc _) ⟨(hJ.mono hM).alloc _ hi,hf.alloc _⟩ ⟨W.heap.size,x9 _,aN W _,rfl⟩
 case body=>
  rintro pre x m a' W hp hm ⟨hi,hf⟩ ⟨a,C0,hB,rfl⟩;obtain⟨c1,c2,c3⟩:=hc W hf;have E0:a<W.heap.size:=(iA.1 hB).1;have f1:Fr (fun k=>M<=k) W (W.setCell ⟨a,side,Z⟩ (H G (n:Nat))):=Zt.setCell (p:=⟨a,side,Z⟩) (.inl (by show M<=a;omega)) _;have f2:Fr (fun k=>S k\/m<=k) W (W.setCell ⟨a,side,Z⟩ (H G (n:Nat))):=Zt.setCell (p:=⟨a,side,Z⟩) (.inl (.inr C0)) _;obtain⟨e0,e1,e2,e3⟩:=vJ x.1 side n hs a W _ hB
  have DU:By≠a:=by have:=bL w _ (hc w Zt).2.1;show By≠a;simp at this;omega
  have d2:(W.setCell ⟨a,side,Z⟩ (H G (n:Nat))).cell? ⟨By,0,Z⟩=V (.func (.yield l) #[] #[]):=(cO _ _ _ _ (by simp)).trans c2;obtain⟨u,hu⟩:∃u,W.cell? ⟨a,side,Z⟩=V u:=xx hs hB;have F0:=bF hB side;obtain⟨fn,tmps,assign,body,D0,hR⟩:=hY pre x (W.setCell ⟨a,side,Z⟩ (H G (n:Nat))) hp (hJ _ _ _ hi f1);have y0:=Za hR;have HF:=Za hf;have z0:=Za f2;unfold C9 KE Ia at D0
  have G0:(side:Int)<4:=by omega
  gi_wp2
  refine⟨rfl,?_⟩;refine RoundIn.mono (F:=Fence.wide.inRound (w.heap.size+1)) ⟨y0.o.1,fun c cs _=>y0.o.2 c cs (room_wide _)⟩ ?_;rintro e W3 ⟨A0,(⟨rfl,v0⟩|⟨rfl,v0⟩)⟩
  ·have b:=Za (z0.o.trans (A0.mono (fun k h=>.inl h)))
   have w0:=Za v0
   gi_wp2
   exact⟨b.o,w0.o,HF.o.monoNew b.o (fun i h=>h.elim .inl (fun h=>.inr (by omega)))⟩
  have b:=Za (z0.o.trans (A0.mono (fun k h=>.inl h)))
  have w0:=Za v0
  gi_wp2
  exact⟨b.o,rfl,w0.o,HF.o.monoNew b.o (fun i h=>h.elim .inl (fun h=>.inr (by omega)))⟩
 case done=>
  rintro W ⟨hi,hf⟩ hD;exact r0 W hf hi hD
 rintro c pre W hp ⟨rfl,hi,hf⟩ hD
 gi_wp2
 exact s0 pre W hp hf hi hD
attribute [local go_sem] Oper.semAt_some
def vK (Q:Exit->Act->z6->Prop):Exit->Act->z6->Prop
 | .normal,a,w=>Q .normal a w
 | .ret,a,w=>Q .ret a w
 |_,_,_=>False
theorem zD {P}{c:Code}{Q a w}(h:c.wp P (vK Q) a w):c.wp P Q a w:=wp_mono h (fun e _ _ h=>by
 cases e with
 |normal=>exact h
 |ret=>exact h
 |_=>exact h.elim)
structure zE (S:Nat->Prop)(J:List (Ry×Nat)->z6->Prop)(dn:List (Ry×Nat))(W ws:z6)(Ds:List Nat)(wr:z6):Prop where
 j:J dn wr
 f:Fr S ws wr
 nd:Ds.Nodup
 ds:∀D,D∈Ds->W.heap.size<=D/\wr.heap[D]?=V (.deferred (V []))
set_option maxRecDepth 100000 in
theorem Ej (k side)(hk:side+k=3)(Bs Q u c S A B C E F a es w)(hl:es.length<=10)(k0:A.at side≠[])(hb:∀e,e∈es->∀s,s∈e.A.at side->s.1<=10000000000/\s.2<=10000000000)(h:∀W,Fr S w W->JP W Bs Q u side A B C E F a c es)(ih:∀n Bs Q u c S a w,(∀W,Fr S w W->JP W Bs Q u (side+1) A B C E F a c (Vi side n es))->Hs z7 212 #[O (V ⟨Bs,0,Z⟩),O (V ⟨Q,0,Z⟩),O (V ⟨u,0,Z⟩)] C9 S (XY A k (Vi side n es)) w):
  Hs z7 212 #[O (V ⟨Bs,0,Z⟩),O (V ⟨Q,0,Z⟩),O (V ⟨u,0,Z⟩)] C9 S (XY A (k+1) es) w:=by
 rw[zC A k side es hk];obtain⟨L,b0⟩:∃L,Xx side A es=L:=⟨_,rfl⟩;rw[b0];intro n l J Jx W hW hS hJ B0 hY h0
 have hs:side<4:=by omega
 have l0:=Za h;have T0:=Za ih;have HW:=Za hW;have m0:=Za hS;have HJ:=Za hJ;have C0:=Za B0;have HY:=Za hY;have H0:=Za h0;have y1:=Za hb;have z1:=Za k0;have HK:=Za hk;have V0:=Za b0
 have A1:L.length<=2010:=by rw[<-b0];exact Ei hl (h W hW).ar (h W hW).ars
 have D0:=Za hl
 have B1:((side:Int)==4)=false:=by simp;omega
 have n0:=Za hs;refine callsIn_of_wp_marks Tryz.func212 rfl trivial ?_ rfl
 show Code.wpIn _ _ _ _ _ {tmps:=#[.func (.yield l) #[] #[],O (V ⟨Bs,0,Z⟩),O (V ⟨Q,0,Z⟩),O (V ⟨u,0,Z⟩)]++Array.replicate (Tryz.f212.ntmps-4) undef,defers:=[]} _
 simp only[Tryz.ntmps212,k6,Array.replicate_succ,Array.replicate_zero,j9,j8,k4,v5];refine(wpIn_wide (n:=n+1)).2 (zD ?_);obtain⟨W1,c0⟩:∃W1,W.alloc (z4 #[.func (.yield l) #[] #[]] 312)=W1:=⟨_,rfl⟩
 have f1:Fr S W W1:=by rw[<-c0];exact Zt.alloc _
 obtain⟨By,o0⟩:∃By,W.heap.size=By:=⟨_,rfl⟩
 have o1:W1.heap[By]?=V (z4 #[.func (.yield l) #[] #[]] 312):=by rw[<-c0,<-o0];exact aN W _
 have j1:J [] W1:=by rw[<-c0];exact hJ.alloc _ h0
 have q1:=h W1 (hW.trans f1);have c1:=q1.s;have c2:=q1.o;have c3:=q1.a0;have c4:=q1.a1;have c5:=q1.a2;have c6:=q1.a3;have d0:=Za f1;have W0:=Za o1;have X0:=Za j1;have p0:=Za (Ef W1 side A B C E F a c es hs q1.ar k0 q1.ars hl hb);unfold Xn at p0;clear b0 hk q1 f1 o1 j1 h ih hW hS hJ B0 hY h0 hb k0 hl hs;go_upto_region 3 with fail;have Y0:=Za o0;clear c0 o0
 go_wp2_with (go_at_call 213;refine p0.o.mono ?_)
 rintro e ws ⟨⟨g,cap,hg,rfl,q0⟩,r0⟩;rw[V0.o]at q0 ⊢;have E0:=Za q0
 have HG:z9 (¬S g):=fun h=>by have:=m0.o g h;have:=d0.o.size;omega
 have e0:z9 (Fr S W1 ws):=r0.mono (fun _ h=>h.elim);have Z0:z9 (J [] ws):=HJ.o _ _ _ X0.o (r0.mono (fun _ h=>h.elim));clear q0 r0 hg p0 c1 c2 c3 c4 c5 c6;go_wp2_with fail;obtain⟨I,hI⟩:∃I:Nat->Act->z6->Prop,∀m a' wr,I m a' wr↔∃(j:Nat)(T:List Nat)(u6 u22 u23 u24 u25 u26 u27 u28 u29 u30 u31 u32 u43:q9),j<=L.length/\m=L.length-j/\a'={tmps:=#[.func (.yield l) #[] #[],O (V ⟨Bs,0,Z⟩),O (V ⟨Q,0,Z⟩),O (V ⟨u,0,Z⟩),O (V ⟨By,0,Z⟩),undef,u6,undef,undef,H G (side:Nat),y4 false,undef,undef,undef,undef,undef,H G (side:Nat),j2 #[U B.a A.s0.length B.c,U C.a A.s1.length C.c,U E.a A.s2.length E.c,U F.a A.s3.length F.c],U a es.length c,U (V ⟨g,0,Z⟩) L.length cap,H G (L.length:Nat),H G (j:Nat),u22,u23,u24,u25,u26,u27,u28,u29,u30,u31,u32,undef,undef,undef,undef,undef,undef,undef,undef,undef,undef,u43],defers:=O7 T}/\z9 (zE S J (Wb A k es side (L.take j)) W ws T wr):=⟨_,fun _ _ _=>Iff.rfl⟩;refine wp_loop_ghost_k I L.length ((hI _ _ _).2 ⟨0,[],_,_,_,_,_,_,_,_,_,_,_,_,_,Nat.zero_le _,rfl,rfl,Z0.o,Zt,List.nodup_nil,by simp⟩) ?_;intro m a' wr hi J2 K2 G0 I0;obtain⟨j,T,u6,u22,u23,u24,u25,u26,u27,u28,u29,u30,u31,u32,u43,X,rfl,rfl,M⟩:=(hI _ _ _).1 hi
 have HN:z9 (∀(f0:List Nat)(u6 u22 u23 u24 u25 u26 u27 u28 u29 u30 u31 u32 u43:q9)(wn:z6),j<L.length->zE S J (Wb A k es side (L.take (j+1))) W ws f0 wn->K2 {tmps:=#[.func (.yield l) #[] #[],O (V ⟨Bs,0,Z⟩),O (V ⟨Q,0,Z⟩),O (V ⟨u,0,Z⟩),O (V ⟨By,0,Z⟩),undef,u6,undef,undef,H G (side:Nat),y4 false,undef,undef,undef,undef,undef,H G (side:Nat),j2 #[U B.a A.s0.length B.c,U C.a A.s1.length C.c,U E.a A.s2.length E.c,U F.a A.s3.length F.c],U a es.length c,U (V ⟨g,0,Z⟩) L.length cap,H G (L.length:Nat),H G ((j:Int)+1),u22,u23,u24,u25,u26,u27,u28,u29,u30,u31,u32,undef,undef,undef,undef,undef,undef,undef,undef,undef,undef,u43],defers:=O7 f0} wn):=fun f0 u6 u22 u23 u24 u25 u26 u27 u28 u29 u30 u31 u32 u43 wn b1 N=>
  I0 _ _ ⟨L.length-(j+1),by omega,G0 _ _ _ ((hI _ _ _).2 ⟨j+1,f0,u6,u22,u23,u24,u25,u26,u27,u28,u29,u30,u31,u32,u43,b1,rfl,rfl,N⟩)⟩
 clear hi hI I0 G0 J2 I;by_cases t0:j<L.length
 ·have d1:(j:Int)<(L.length:Int):=by omega
  obtain⟨r,g0⟩:∃r,L[j]?=V r:=⟨_,gE t0⟩;have v0:=Za g0;have cl:=(M.o.f.cell (p:=⟨g,j,Z⟩) (bL ws _ (E0.o j r g0)) HG.o).trans (E0.o j r g0);obtain⟨Y,w0⟩:∃Y,wr.alloc (z4 #[H G (r:Nat)] 3)=Y:=⟨_,rfl⟩;obtain⟨Bn,y0⟩:∃Bn,wr.heap.size=Bn:=⟨_,rfl⟩
  have y:z9 (F0 wr Y):=by show Fr _ _ _;rw[<-w0];exact Zt.alloc _
  have J0:z9 (Y.heap[Bn]?=V (z4 #[H G (r:Nat)] 3)):=by show _=_;rw[<-w0,<-y0];exact aN wr _
  have HQ:z9 (∀b,F0 Y b->JP b Bs Q u side A B C E F a c es/\b.cell? ⟨Bn,0,Z⟩=V (H G (r:Nat))):=fun b d=>
   ⟨l0.o b ((((HW.o.trans d0.o).trans e0.o).trans M.o.f).trans ((y.o.trans d).mono (fun _ h=>h.elim))),bC (d.whole J0.o) 0 _ rfl⟩
  have i0:z9 (∀b,F0 Y b->b.cell? ⟨Bs,0,Z⟩=V (H G (side:Nat))/\b.cell? ⟨Bn,0,Z⟩=V (H G (r:Nat))/\b.cell? ⟨Q,0,Z⟩=V (U a es.length c)/\b.cell? ⟨u,0,Z⟩=V (U B.a A.s0.length B.c)/\b.cell? ⟨u,1,Z⟩=V (U C.a A.s1.length C.c)/\b.cell? ⟨u,2,Z⟩=V (U E.a A.s2.length E.c)/\b.cell? ⟨u,3,Z⟩=V (U F.a A.s3.length F.c)):=fun b d=>by
   obtain⟨N,h2⟩:=HQ.o b d;exact⟨N.s,h2,N.o,N.a0,N.a1,N.a2,N.a3⟩
  have t1:g8.wrap ((side:Int)+1)=(side:Int)+1:=IntWalk.i64_in _ (by have:=n0.o;constructor<;>omega);clear g0;go_upto_region 6 with fail;have e1:=Za y0;clear y0 w0 cl;refine wp_region_held_drew (S:=fun b=>b.cell? ⟨Bs,0,Z⟩=V (H G (side:Nat))/\b.cell? ⟨Bn,0,Z⟩=V (H G (r:Nat))/\b.cell? ⟨Q,0,Z⟩=V (U a es.length c)/\b.cell? ⟨u,0,Z⟩=V (U B.a A.s0.length B.c)/\b.cell? ⟨u,1,Z⟩=V (U C.a A.s1.length C.c)/\b.cell? ⟨u,2,Z⟩=V (U E.a A.s2.length E.c)/\b.cell? ⟨u,3,Z⟩=V (U F.a A.s3.length F.c)) (by kernel_rfl) (i0.o _ Zt.drew) (fun hH=>?_)
  iterate 6 (refine YO 0 hH ?_;try go_frame)
  clear t1;refine Xz [6] ?_;refine Zb rfl (fun K2 hK=>?_) q5
  try rw[if_pos (by rfl)]
  go_simp;refine(FZ Y.drew side r a c es n0.o (HQ.o _ Zt.drew).1.ars D0.o).mono ?_;rintro e w6 ⟨⟨v,rfl,hv⟩,K0⟩;have q:z9 (F0 Y w6):=(Zt.drew).trans K0
  obtain⟨a6,c6,g1,L0,M0⟩:=Dx hv (fun e he=>by
   obtain⟨i,hi⟩:=x4.1 (q7.1 he).1
   exact((HQ.o _ q.o).1.ars i e hi).1)
  subst g1;obtain⟨N6,z0⟩:∃N6,(Vi side r es).length=N6:=⟨_,rfl⟩;have i1:=Za z0;have k1:=Za L0;have l1:=Za M0;rw[z0];clear hv L0 M0 K0 z0;refine hK.out _ _ (i0.o _ q.o) (fun hH=>?_);clear hK K2
  try go_frame
  refine Xz [7] ?_;refine Zb rfl (fun K2 hK=>?_) q5
  try rw[if_pos (by rfl)]
  go_simp;have N0:=Hp (side+1) A B C E F a6 N6 c6 w6;refine N0.mono ?_;rintro e t ⟨rfl,he⟩;obtain⟨P,K⟩:∃P,w6.heap.size=P:=⟨_,rfl⟩;rw[K]
  have z:z9 (F0 w6 t):=by show Fr _ _ _;rw[he];exact((Zt.alloc _).alloc _).alloc _
  have O0:z9 (t.heap.size=P+3):=by show _=_;rw[he,<-K];simp
  have P0:z9 (t.heap[P]?=V (z4 #[H G (((side+1:Nat)):Int)] 3)):=by
   show _=_
   rw[he,<-K];exact(((Fr.refl (fun _=>False) _).alloc _).alloc _).whole (aN w6 _) (by simp)
  have Q0:z9 (t.heap[P+1]?=V (z4 #[Xn B A.s0,Xn C A.s1,Xn E A.s2,Xn F A.s3] 215)):=by
   show _=_
   rw[he,<-K];exact((Fr.refl (fun _=>False) _).alloc _).whole (by have:=aN (w6.alloc (z4 #[H G (((side+1:Nat)):Int)] 3)) (z4 #[Xn B A.s0,Xn C A.s1,Xn E A.s2,Xn F A.s3] 215);simpa using this)
  have R0:z9 (t.heap[P+1+1]?=V (z4 #[U a6 N6 c6] 217)):=by
   show _=_
   rw[he,<-K];have:=aN ((w6.alloc (z4 #[H G (((side+1:Nat)):Int)] 3)).alloc (z4 #[Xn B A.s0,Xn C A.s1,Xn E A.s2,Xn F A.s3] 215)) (z4 #[U a6 N6 c6] 217)
   simpa using this
  have A0:=Za K;clear N0 he K;refine hK.out _ _ (i0.o _ (q.o.trans z.o)) (fun hH=>?_);clear hK K2
  try go_frame
  refine wpAnyH_done (by kernel_rfl) ?_ _;go_wp2_with fail;refine(wpIn_wide (n:=2)).1 ?_;have S0:Fr S W t:=((d0.o.trans e0.o).trans M.o.f).trans (((y.o.trans q.o).trans z.o).mono (fun _ h=>h.elim));have R:=HW.o.trans S0;have m1:=y.o.size;have n1:=q.o.size;have p1:=((d0.o.trans e0.o).trans M.o.f).size
  have r1:W.heap.size<=P:=by have:=A0.o;omega
  have v1:=O0.o
  have nS:∀i,W.heap.size<=i->¬S i:=fun i hi h=>by have:=m0.o i h;omega
  have nR:∀i,W.heap.size<=i->i<P+3->¬Tq S t.heap.size i:=by
   rintro i N h2 (h|h|h)
   ·exact nS i N h
   ·omega
   omega
  have fR:∀b,Fr (Tq S t.heap.size) t b->Fr S w b:=fun b d=>R.monoNew d (by
   rintro i (h|h|h)
   ·exact .inl h
   ·right;have:=R.size;omega
   right;have:=R.size;omega)
  have nd:(t.heap.size::T).Nodup:=v8.2 ⟨fun h=>by
   have:=(iA.1 (M.o.ds _ h).2).1
   have:=y.o.size;have:=A0.o;omega,M.o.nd⟩
  have j0:∀b,Fr S t b->b.heap[t.heap.size]?=V (.deferred (V []))->∀D,D∈t.heap.size::T->W.heap.size<=D/\b.heap[D]?=V (.deferred (V [])):=fun b d hD D hd=>by
   rcases y7.1 hd with rfl|hd
   ·exact⟨by omega,hD⟩
   obtain⟨N,h2⟩:=M.o.ds D hd
   exact⟨N,Pe ((((y.o.trans q.o).trans z.o).mono (fun _ h=>h.elim)).trans d) (nS D N) h2⟩
  refine Ht side r l n W.heap.size n0.o S J Jx (Wb A k es side (L.take j)) (XY A k (Vi side r es)) Bs By Bn P (P+1+1) (P+1) t _ (O7 T) _ _ _ _ _ _ _ _ _ _ _ _ _ _ _ _ _ _ _ _ _ _ _ _ _ _ _ _ _ _ _ _ _ _ _ _ _ _ _ _ ?hseq m0.o (by omega) HJ.o C0.o ?hY ?hc ?h0 ?hd ?_
  case hseq=>
   refine T0.o r P (P+1+1) (P+1) c6 (Tq S t.heap.size) a6 t (fun b d=>?_);have hq:=l0.o b (fR b d);have ba:=d.whole Q0.o (nR _ (by omega) (by omega));have hN:=i1.o;refine⟨bC (d.whole P0.o (nR _ (by omega) (by omega))) 0 _ rfl,?_,Zc ba 0,Zc ba 1,Zc ba 2,Zc ba 3,hq.ar,?_⟩
   ·rw[hN];exact bC (d.whole R0.o (nR _ (by omega) (by omega))) 0 _ rfl
   refine((k1.o.fr z.o).frS d (fun g o e _=>?_) (fun e he=>?_))
   ·have h6:=l1.o g o e
    have h5:Y.drew.heap.size=Y.heap.size:=rfl;have:=A0.o;exact nR g (by omega) (by omega)
   obtain⟨i,hi⟩:=x4.1 (q7.1 he).1
   exact(hq.ars i e hi).1
  case hY=>
   intro pre x b hp X
   have eq:(Wb A k es side (L.take j)++pre.map (Ia side r))++[Ia side r x]=Wb A k es side (L.take j)++(pre++[x]).map (Ia side r):=by simp
   have hy:=HY.o (Wb A k es side (L.take j)++pre.map (Ia side r)) (Ia side r x) b (by rw[eq];exact MN v0.o hp) X;rw[eq]at hy;exact hy
  case hc=>
   intro b d;have N:=Y0.o.symm;have h2:=e1.o.symm;refine⟨(l0.o b (R.trans d)).s,?_,?_⟩
   ·exact bC ((((e0.o.trans M.o.f).trans (((y.o.trans q.o).trans z.o).mono (fun _ h=>h.elim))).trans d).whole W0.o (nS By (by omega))) 0 _ rfl
   exact bC (d.whole ((q.o.trans z.o).whole J0.o) (nS Bn (by omega))) 0 _ rfl
  case h0=>exact HJ.o _ _ _ M.o.j (((y.o.trans q.o).trans z.o).mono (fun _ h=>h.elim))
  case hd=>
   intro b d X hD;have w1:z9 (zE S J (Wb A k es side (L.take (j+1))) W ws (t.heap.size::T) b):=⟨by rw[MM v0.o];exact X,(M.o.f.trans (((y.o.trans q.o).trans z.o).mono (fun _ h=>h.elim))).trans d,nd,j0 b d hD⟩;clear d X hD j0 nd fR nR nS v1 r1 p1 n1 m1 R S0 hH i0 HQ;go_wp2_with fail;exact HN.o (t.heap.size::T) _ _ _ _ _ _ _ _ _ _ _ _ _ b t0 w1.o
  intro pre b hp d X hD;refine WZ (t.heap.size::T) b nd (fun D h=>(j0 b d hD D h).2) ?_;refine⟨_,results_none rfl _ _ _,⟨_,rfl⟩,.inr ⟨_,MN v0.o hp,?_⟩⟩;exact C0.o _ _ _ X (JO _ _ (fun D h=>(j0 b d hD D h).1))
 have d1:¬(j:Int)<(L.length:Int):=by omega
 have ej:L.take j=L:=x8 (by omega);have HE:z9 (L.take j=L):=ej;clear t0 ej;go_wp2_with fail;refine WZ T wr M.o.nd (fun D h=>(M.o.ds D h).2) ?_;refine⟨_,results_none rfl _ _ _,⟨_,rfl⟩,.inl ?_⟩;have X:=M.o.j;rw[HE.o]at X;exact HJ.o _ _ _ X (JO _ _ (fun D h=>(M.o.ds D h).1))
theorem PW (A:SE)(j l m p:GU)(f:∀i,i<4->A.at i≠[]):∀(k:Nat),k<=4->∀(Bs b d c:Nat)(S:Nat->Prop)(a:Option Addr)(es:List Ta)(w:z6),es.length<=10->
  (∀e,e∈es->∀i s,i<4->s∈e.A.at i->s.1<=10000000000/\s.2<=10000000000)->(∀W,Fr S w W->JP W Bs b d (4-k) A j l m p a c es)->
  Hs z7 212 #[O (V ⟨Bs,0,Z⟩),O (V ⟨b,0,Z⟩),O (V ⟨d,0,Z⟩)] C9 S (XY A k es) w
 |0,_,Bs,b,d,c,S,a,es,w,_,_,h=>Bc Bs b d es.length c S a w (fun W g=>⟨(h W g).s,(h W g).o⟩)
 |k+1,hk,Bs,b,d,c,S,a,es,w,hl,hb,h=>by
  refine Ej k (4-(k+1)) (by omega) Bs b d c S A j l m p a es w hl (f _ (by omega)) (fun e q s r=>hb e q _ s (by omega) r) h (fun n Bs b d c S a w t=>?_);refine PW A j l m p f k (by omega) Bs b d c S a _ w (y6 (Hd _ _ _) hl) (fun e q=>hb e (q7.1 q).1) (fun W g=>?_);rw[show 4-k=4-(k+1)+1 from by omega];exact t W g
attribute [local go_sem] Oper.semAt_some
theorem Bf {w w' a b c}(h:w'=((w.alloc a).alloc b).alloc c):w'.heap.size=w.heap.size+3/\w'.heap[w.heap.size]?=V a/\w'.heap[w.heap.size+1]?=V b/\w'.heap[w.heap.size+1+1]?=V c/\F0 w w':=by
 subst h;refine⟨by simp,?_,?_,?_,((Zt.alloc _).alloc _).alloc _⟩
 ·exact(((Fr.refl (fun _=>False) _).alloc _).alloc _).whole (aN w _) (by simp)
 ·exact((Fr.refl (fun _=>False) _).alloc _).whole (by have:=aN (w.alloc a) b;simpa using this)
 have:=aN ((w.alloc a).alloc b) c
 simpa using this
theorem Pf (A:SE)(b d f g a n c w):
  j4 z7 113 #[j2 #[Xn b A.s0,Xn d A.s1,Xn f A.s2,Xn g A.s3],U a n c] w fun e w'=>∃B,e=y5 (.func (.func 212) #[] #[O (V ⟨B,0,Z⟩),O (V ⟨B+1+1,0,Z⟩),O (V ⟨B+1,0,Z⟩)])/\w.heap.size<=B/\w'.heap.size=B+3/\w'.heap[B]?=V (z4 #[H G ((0:Nat):Int)] 3)/\w'.heap[B+1]?=V (z4 #[Xn b A.s0,Xn d A.s1,Xn f A.s2,Xn g A.s3] 215)/\w'.heap[B+1+1]?=V (z4 #[U a n c] 217)/\F0 w w':=by
 have m:z9 (∀W,j4 z7 172 #[H G 0,j2 #[U b.a A.s0.length b.c,U d.a A.s1.length d.c,U f.a A.s2.length f.c,U g.a A.s3.length g.c],U a n c] W fun e w'=>e=y5 (.func (.func 212) #[] #[O (V ⟨W.heap.size,0,Z⟩),O (V ⟨W.heap.size+1+1,0,Z⟩),O (V ⟨W.heap.size+1,0,Z⟩)])/\w'=((W.alloc (z4 #[H G ((0:Nat):Int)] 3)).alloc (z4 #[Xn b A.s0,Xn d A.s1,Xn f A.s2,Xn g A.s3] 215)).alloc (z4 #[U a n c] 217)):=fun W=>Hp 0 A b d f g a n c W
 unfold Xn;go_enter Tryz.func113,Tryz.ntmps113
 go_wp2_with (go_at_call 172;refine(m.o _).mono ?_)
 rintro e w' ⟨rfl,p⟩;obtain⟨t1,h,i,j,q⟩:=Bf p;have k:z9 (w.heap.size<=(w.alloc (z4 #[U b.a A.s0.length b.c,U d.a A.s1.length d.c,U f.a A.s2.length f.c,U g.a A.s3.length g.c] 215)).heap.size/\F0 w (w.alloc (z4 #[U b.a A.s0.length b.c,U d.a A.s1.length d.c,U f.a A.s2.length f.c,U g.a A.s3.length g.c] 215))):=⟨by simp,Zt.alloc _⟩;generalize w.alloc _=r at*;obtain⟨B,l⟩:∃B,r.heap.size=B:=⟨_,rfl⟩;rw[l]at t1 h i j k;rw[l];have s:=Za t1;have t:=Za h;have u:=Za i;have v:=Za j;have x:=Za q;clear m p t1 h i j q l;go_wp2_with fail;go_ret;exact⟨B,rfl,k.o.1,s.o,t.o,u.o,v.o,k.o.2.trans x.o⟩
def Ek (A:SE)(es:List Ta):Bool:=(XY A 4 es).any fun y=>y.2==0
theorem Hu {A}(a:∀side s,s∈A.at side->s.1<=s.2)(es):Ek A es=true↔∃p,V6 A 4 p=true/\∀e,e∈es->V6 e.A 4 p=false:=by
 rw[<-C7 a];unfold Ek;simp
attribute [local go_sem] Oper.semAt_some
theorem Dy (dg lo hi b a c d e i):(RT dg lo hi b a c d e).at i≠[]:=by
 have h:∀(l:List Nat)(m:Nat),Yk l m≠[]:=fun l m=>by
  unfold Yk
  split
  ·simp
  rename_i h;simpa using h
 unfold RT SE.at
 split
 ·simp
 ·exact h _ _
 ·simp
 exact h _ _
set_option maxRecDepth 100000 in
theorem Hv (w R rk dg lo hi L X f b t u M Y j dc ch pa pn pc ah a c es)(hd:dg<=6)(k0:lo<=hi)(l0:hi<1000000)(hm:Zu w L f)(m0:f.length<=10)(hc:Zu w M j)(n0:j.length<=10)(he:VZ w a es)(hl:es.length<=10)(hb:∀e,e∈es->∀i s,i<4->s∈e.A.at i->s.1<=10000000000/\s.2<=10000000000):
  j4 z7 180 #[GS R rk dg lo hi L f.length X b t u M j.length Y dc ch pa pn pc ah,U a es.length c] w fun e w'=>e=y5 (y4 (Ek (RT dg lo hi f b t u j) es))/\F0 w w':=by
 obtain⟨w0,d⟩:∃w0,(w.alloc (Lm R rk dg lo hi L f.length X b t u M j.length Y dc ch pa pn pc ah)).alloc (z4 #[y4 false] 4)=w0:=⟨_,rfl⟩;obtain⟨P,hP⟩:∃P,w.heap.size=P:=⟨_,rfl⟩
 have v:z9 (F0 w w0):=by show Fr _ _ _;rw[<-d];exact(Zt.alloc _).alloc _
 have J0:w0.heap.size=P+2:=by rw[<-d,<-hP];simp
 have N:z9 (w0.heap[P]?=V (Lm R rk dg lo hi L f.length X b t u M j.length Y dc ch pa pn pc ah)):=by
  show _=_
  rw[<-d,<-hP];exact((Fr.refl (fun _=>False) _).alloc _).whole (aN w _)
 have o0:z9 (w0.heap[P+1]?=V (z4 #[y4 false] 4)):=by
  show _=_
  rw[<-d,<-hP];have:=aN (w.alloc (Lm R rk dg lo hi L f.length X b t u M j.length Y dc ch pa pn pc ah)) (z4 #[y4 false] 4)
  simpa using this
 have Q:=Za (MJ w0 R rk dg lo hi L X f b t u M Y j dc ch pa pn pc ah hd k0 l0 (hm.fr v.o) m0 (hc.fr v.o) n0);have p0:=Za (Dy dg lo hi f b t u j);have HE:=Za he;have HL:=Za hl;have q0:=Za hb;generalize RT dg lo hi f b t u j=A at*;obtain⟨n1,a0⟩:∃n,f.length=n:=⟨_,rfl⟩;obtain⟨n2,d0⟩:∃n,j.length=n:=⟨_,rfl⟩;obtain⟨n3,e0⟩:∃n,es.length=n:=⟨_,rfl⟩;have r0:=Za e0;rw[a0,d0]at N Q d;rw[a0,d0,e0];unfold Lm at N d;unfold GS at Q ⊢;obtain⟨c0,c1,c2,c3,c4,c5,c6,c7,c8,c9,K0,L0,M0,N0⟩:=ZY N.o;have t0:=Za hP;refine(callsIn_wide (n:=5)).1 ?_;refine callsIn_of_wp_marks Tryz.func180 rfl trivial ?_ rfl;simp only[Tryz.ntmps180,List.size_toArray,List.length_cons,List.length_nil,Nat.reduceAdd,k6,Array.replicate_succ,Array.replicate_zero,j9,j8,k4,v5];refine(wpIn_wide (n:=5)).2 (zD ?_);go_upto_region 1 with fail
 go_wp2_with (go_at_call 114;refine Q.o.mono ?_)
 rintro e w1 ⟨⟨x0,x1,x2,x3,z,rfl,rfl,v0,y0⟩,A0⟩;have f0:=Za (Pf z x0 x1 x2 x3 a n3 c w1);have B0:=Za v0;have C0:=Za y0;have C:=Za A0;unfold Xn at f0 ⊢
 go_wp2_with (go_at_call 113;refine f0.o.mono ?_)
 rintro e w2 ⟨B,rfl,hB,D0,b0,b1,b2,E0⟩;have HB:=Za hB;have G0:=Za D0;have H0:=Za b0;have H1:=Za b1;have H2:=Za b2;have l:=Za E0;go_wp2_with fail;generalize k9 #[.string R,H G rk,H G dg,H G lo,H G hi,U L n1 X,y4 b,H G t,H G u,U M n2 Y,y4 dc,y4 ch,U pa pn pc,H G ah]=RV;generalize k9 #[U x0.a z.s0.length x0.c,U x1.a z.s1.length x1.c,U x2.a z.s2.length x2.c,U x3.a z.s3.length x3.c]=AV;have e1:=t0.o;have e2:=C.o.size;have e3:=l.o.size;have e4:=HB.o;have e5:=G0.o;have o2:=(C.o.trans l.o).whole o0.o
 have J:Hs z7 212 #[O (V ⟨B,0,Z⟩),O (V ⟨B+1+1,0,Z⟩),O (V ⟨B+1,0,Z⟩)] C9 (Tq (fun k=>k=P+1) w2.heap.size) (XY z 4 es) w2:=by
  have nR:∀i,i≠P+1->i<B+3->¬Tq (fun k=>k=P+1) w2.heap.size i:=by
   rintro i h1 h2 (h|h|h)<;>omega
  refine PW z x0 x1 x2 x3 (fun i _=>p0.o i) 4 (x9 _) B (B+1+1) (B+1) c _ a es w2 HL.o q0.o (fun W q=>?_);have ba:=q.whole H1.o (nR _ (by omega) (by omega));refine⟨bC (q.whole H0.o (nR _ (by omega) (by omega))) 0 _ rfl,?_,Zc ba 0,Zc ba 1,Zc ba 2,Zc ba 3,?_,?_⟩
  ·rw[r0.o];exact bC (q.whole H2.o (nR _ (by omega) (by omega))) 0 _ rfl
  ·refine(B0.o.fr l.o).frS q (fun x hx g o e O0=>?_)
   have h1:=(C0.o x hx g o e).1;rintro(h|h|h)
   ·omega
   ·omega
   omega
  refine HE.o.old ((((v.o.trans C.o).trans l.o).mono (fun _ h=>h.elim)).trans (q.mono ?_))
  rintro k (h|h|h)<;>(show _<=k;omega)
 obtain⟨xs,g0⟩:∃xs,XY z 4 es=xs:=⟨_,rfl⟩;rw[g0]at J
 have h0:z9 (Ek z es=xs.any fun y=>y.2==0):=by show _=_;rw[<-g0];rfl
 have r:z9 (P+1<w2.heap.size):=by show _<_;omega
 have E:=Za ((v.o.trans C.o).trans l.o)
 have i0:z9 (w.heap.size<=P+1):=by show _<=_;omega
 refine(wpIn_wide (n:=2)).1 ?_;refine PV (n:=0) (S:=fun k=>k=P+1) rfl (enters_of Tryz.func212 (by kernel_rfl) rfl) J Zt (fun _=>rfl) (by rintro k rfl;exact r.o)
  (fun pre W=>(∀y,y∈pre->y.2≠0)/\(W.heap[P+1]?=V (z4 #[y4 false] 4)/\Fr (fun k=>k=P+1) w2 W)) (fun co pre W=>(co=.ret/\∃y,y∈pre/\y.2=0)/\(W.heap[P+1]?=V (z4 #[y4 true] 4)/\Fr (fun k=>k=P+1) w2 W))
  (YC.and (YC.pure (fun(pre:List (Ry×Nat))=>∀y,y∈pre->y.2≠0)) (YC.and (YC.block r.o) (YC.fr (x9 _)))) (fun co=>YC.and (YC.pure (fun(pre:List (Ry×Nat))=>co=.ret/\∃y,y∈pre/\y.2=0)) (YC.and (YC.block r.o) (YC.fr (x9 _)))) ⟨by simp,o2,Zt⟩
  (fun x _ a' _=>a'={tmps:=#[RV,U a n3 c,O (V ⟨P,0,Z⟩),undef,O (V ⟨P+1,0,Z⟩),undef,H G (x.2:Nat),RV,AV,U a n3 c,.func (.func 212) #[] #[O (V ⟨B,0,Z⟩),O (V ⟨B+1+1,0,Z⟩),O (V ⟨B+1,0,Z⟩)],KE x.1,H G (x.2:Nat),undef,undef],defers:=[]})
  (fun x m a' s W W' row hs hg hr=>hs) ?assign ?body ?done ?_
 case assign=>
  rintro pre x W K hp hi hK;unfold C9
  gi_wp2
  exact hK _ _ Zt hi rfl
 case body=>
  rintro pre x m a' W hp hm ⟨hi,F,q⟩ rfl;have HI:=Za hi;have HF:=Za q;have HO:=Za F;have z0:=Zc F 0;have z1:=bF F 0;by_cases hx:x.2=0
  ·have hz:((x.2:Int)==0)=true:=by simp[hx]
   have HX:=Za hx
   gi_wp2
   refine⟨Zt.setCell (p:=⟨P+1,0,Z⟩) (.inl (.inl rfl)) _,⟨rfl,x,by simp,HX.o⟩,heap_setCell_same W (P+1) 0 _ _ _ HO.o,HF.o.setCell (p:=⟨P+1,0,Z⟩) (.inl rfl) _⟩
  have hz:((x.2:Int)==0)=false:=by simp;omega
  have HX:=Za hx
  gi_wp2
  refine⟨Zt,fun y I=>?_,HO.o,HF.o⟩;rcases q6.1 I with I|I
  ·exact HI.o y I
  rw[y9.1 I];exact HX.o
 case done=>
  rintro W ⟨hi,F,q⟩ hD;have HI:=Za hi;have HF:=Za q;have HO:=Za F;have HD:=Za hD;have z0:=Zc F 0;have z1:=bF F 0;go_wp2_with fail;have f1:Fr (fun k=>k=P+1) w2 (W.setCell ⟨P+1,0,Z⟩ (y4 false)):=HF.o.setCell (p:=⟨P+1,0,Z⟩) (.inl rfl) _;have o1:=heap_setCell_same W (P+1) 0 _ _ (y4 false) HO.o
  have j0:P+1≠w2.heap.size:=by have:=r.o;omega
  have d1:(W.setCell ⟨P+1,0,Z⟩ (y4 false)).heap[w2.heap.size]?=V (.deferred (V [])):=((Fr.refl (fun k=>k=P+1) W).setCell (p:=⟨P+1,0,Z⟩) (.inl rfl) _).whole HD.o (fun e=>j0 e.symm);refine WZ [w2.heap.size] _ (by simp) (fun D h=>by rw[y9.1 h];exact d1) ?_;have o3:((W.setCell ⟨P+1,0,Z⟩ (y4 false)).putObj w2.heap.size (.deferred Z)).heap[P+1]?=V (z4 #[y4 false] 4):=(z5 (by omega)).trans o1;refine⟨y4 false,?_,?_,?_⟩
  ·have c3:=Zc o3 0
   show(results _ _).run _ ((W.setCell ⟨P+1,0,Z⟩ (y4 false)).putObj w2.heap.size (.deferred Z))=_
   simp[results,Tryz.results180,go_sem,c3];rfl
  ·rw[h0.o]
   congr 2
   symm
   rw[List.any_eq_false];intro y I;have:=HI.o y I;simp[this]
  exact E.o.monoNew (f1.mono (T:=fun k=>k=P+1\/k=w2.heap.size) (fun _ h=>.inl h)|>.trans (Qq (.inr rfl) _)) (fun k h=>.inr (by have:=i0.o;have:=E.o.size;omega))
 rintro co pre W hp ⟨⟨rfl,y,I,I0⟩,F,q⟩ hD;have HF:=Za q;have HO:=Za F;have HD:=Za hD;have HP:=Za hp;have HY:=Za (show y∈pre/\y.2=0 from⟨I,I0⟩)
 gi_wp2
 have j0:P+1≠w2.heap.size:=by have:=r.o;omega
 refine WZ [w2.heap.size] _ (by simp) (fun D h=>by rw[y9.1 h];exact HD.o) ?_;have o3:(W.putObj w2.heap.size (.deferred Z)).heap[P+1]?=V (z4 #[y4 true] 4):=(z5 (by omega)).trans HO.o;refine⟨y4 true,?_,?_,?_⟩
 ·have c3:=Zc o3 0
  show(results _ _).run _ (W.putObj w2.heap.size (.deferred Z))=_
  simp[results,Tryz.results180,go_sem,c3];rfl
 ·rw[h0.o]
  congr 2
  symm
  rw[x6];exact⟨y,HP.o.subset HY.o.1,by simp[HY.o.2]⟩
 exact E.o.monoNew (HF.o.mono (T:=fun k=>k=P+1\/k=w2.heap.size) (fun _ h=>.inl h)|>.trans (Qq (.inr rfl) _)) (fun k h=>.inr (by have:=i0.o;have:=E.o.size;omega))
