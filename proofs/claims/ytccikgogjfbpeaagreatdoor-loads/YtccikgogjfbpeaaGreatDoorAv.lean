import Derived.Test.YtccikgogjfbpeaaGreatDoorAu
import Derived.Lib.SliceRun
open Option renaming some->I,none->J
open Go.Value renaming slice->V,pointer->Y,string->Z,int->U,bool->H,string->z6,oneCell'->z7,slice->y7,agg->j3
open Go.IntKind renaming i64->E
open Go.RowKit renaming Hid->B
open Go.Proofs.Tryz renaming prog->G
open Go.Ending renaming returned->M
open Go.World renaming news_of_block->N
open List renaming append_assoc->C,getElem?_map->F,append_nil->y9,length_map->x6,take_of_length_le->x7,getElem?_eq_none->x8,getElem?_set->q8,length_take->j0
open Go.Obj renaming cells->Q
open Or renaming inl->z8,inr->x9
open And renaming intro->z9
open Nat renaming le_refl->y6,zero_le->q9,mul_le_mul->j1,sub_self->j2
open Go renaming Calls->y8,World->q0
namespace Go.Proofs.YtccikgogjfbpeaaGreatDoor
set_option maxRecDepth 30000
set_option maxHeartbeats 8000000
open Go.RowKit
theorem GS (R:List Ze)(a:Nat):∀d,∃t,WR R (a+d)=WR R a++t
 |0=>⟨[],by simp⟩
 |d+1=>by
  obtain⟨t,h⟩:=GS R a d;refine⟨t++(match R[a+d]? with|some r=>if RE R (a+d)then[]else[r.name]|none=>[]),?_⟩
  show WR R (a+d)++(match R[a+d]? with|some r=>if RE R (a+d)then[]else[r.name]|none=>[])=_
  rw[h,C]
theorem Lm {R i r}(a:R[i]?=I r):WR R (i+1)=WR R i++(if RE R i then[]else[r.name]):=by
 show WR R i++_=_
 rw[a]
theorem yv {R i r}(a:R[i]?=I r)(b:RE R i=false):(L0 R)[(WR R i).length]?=I r.name:=by
 obtain⟨t,e⟩:=GS R (i+1) (R.length-(i+1));rw[show i+1+(R.length-(i+1))=R.length from by have:=(iG.1 a).1;omega,Lm a,b]at e;unfold L0;rw[e,C,aR (y6 _),j2];rfl
theorem DT {R i}(hi:i<R.length):(LZ R)[i]?=I (H (!RE R i)):=by
 unfold LZ;rw[F,List.getElem?_range hi];rfl
theorem GZ.ded {w W D rts R}(h:GZ w W D R.length fun k b=>b=false↔∃p,Y6 p=true/\Qr R p=I k)(g:Yy rts R)(j:∀r,r∈R->Tg r):W.ownsRow w.heap.size 4 1 (V (I ⟨D,0,J⟩) R.length R.length) R.length (LZ R)/\F0 w W:=by
 obtain⟨a,c,l,m⟩:=h
 have q:a.length=R.length:=by rw[c.1,Nat.mul_one]
 have e:a=LZ R:=List.ext_getElem? fun i=>by
  by_cases hi:i<R.length
  ·obtain⟨b,n,d⟩:=l i hi
   have f:=xH g j (gE hi);rw[n,DT hi]
   cases b with
   |false=>rw[f.2 (d.1 rfl)];rfl
   |true=>
    cases o:RE R i with
    |false=>rfl
    |true=>have:=d.2 (f.1 o);cases this
  rw[x8 (by omega),x8 (by simp[LZ];omega)]
 rw[<-e];exact⟨c,m⟩
theorem GT (c w L v nv ov mv kv j xs es fs X)(h:RF c w L v nv ov mv kv j xs es fs)(hX:X∈xs)(hc:j<=4611686018427387904)(hE:(es.length+4)*24<=140737488355328):
  y8 G 48 #[Y (I ⟨L,0,J⟩),Y (I ⟨X,0,J⟩)] w fun e w'=>e=M (H true)/\(∃u x es',O0 w c w' L v u ov x kv (j+1) xs es' fs/\es'.length=es.length+4/\∀e,e∈es'->e∈es\/e.n<=8796093022208)/\SK [1,3,4,7,9,11] c w w':=by
 obtain⟨T,q,rts,R0,lo,m,y,p0,r0,hx,J0,A,s0,c0,_⟩:=(h.tb X hX).now;obtain⟨R,hR⟩:∃R,LY lo R0=R:=⟨_,rfl⟩
 have f1:R.length<=8:=by rw[<-hR];have:=r0.bk.l8;cases lo<;>simp[LY];omega
 have HR:=Za hR;rw[hR]at A c0;have HS:=Za h;have t0:=Za s0;have C:=Za r0;have HX:=Za hx;have v0:=Za J0;have d0:=Za A;have K0:=Za c0;have w0:=Za (z9 hc hE);have e0:=Za (s0 w Zt).1.dead;rw[hR]at e0;have x0:=Zc hx 0;obtain⟨K,f0⟩:∃K,(L0 R).length=K:=⟨_,rfl⟩;have y0:=Za f0;obtain⟨n,hn⟩:∃n,R.length=n:=⟨_,rfl⟩;have t:=Za hn
 have g1:n<=8:=by omega
 have b1:K<=8:=by have:=MS R R.length;unfold L0 at f0;omega
 rw[f0]at e0;go_enter Tryz.func48,Tryz.ntmps48;go_wp2_with fail;refine e0.o.mono ?_;rintro e p ⟨⟨lv,rfl,N⟩,z0⟩;obtain⟨oa,oc,e⟩:=oL N;subst e;have g0:=Za N;have f:=Za z0
 have M0:B (∃c1,Wz w c c1/\Cl c1 (V oa K oc) 7/\RF c1 p L v nv ov mv kv j xs es fs):=by
  have ha:Wz w c fun k=>if(y7 oa K oc).ownBlock=I k then 7 else c k:=fun k l=>if_neg fun e=>by have:=(N.lt k e).1;omega
  exact⟨_,ha,fun k l=>if_pos l,HS.o.keep z0 ha⟩
 obtain⟨c1,O⟩:=M0.o;have HC:=Za O
 have h1:∀(w:q0)(a:Option Addr)(n c:Nat),(binOp .eql 95 (V a n c) (V J 0 0)).run G w=.ok (H a.isNone) w:=fun w a n c=>Go.Lib.run_eql_slice_nil w _ _ a n c 0 0 Tryz.underlying95
 obtain⟨da,dl,dc,N0⟩:∃da dl dc,p0=V da dl dc:=d0.o.2.elim (fun e=>⟨_,_,_,e⟩) fun⟨D,e,_⟩=>⟨_,_,_,e⟩
 subst N0;have P:=f.o.whole HX.o;have b0:=Za P;have x5:=Zc P 5;have x2:=Zc P 2;go_upto_region 3 with fail
 go_cut [25] (fun bv wz=>bv=H (da.isNone&&!lo)/\wz=p)
 case first=>
  rcases da with _|z<;>rcases lo with _|_
  all_goals
   go_wp2_with fail;go_meet;exact⟨rfl,rfl⟩
 case rest=>
 obtain⟨rfl,hw⟩:=hcut;replace hw:=hw.symm;subst hw
 go_upto_if 25 with fail
 go_cut [] (fun wz=>B (Fr (fun k=>k=X) p wz)/\B (O0 p c1 wz L v nv ov mv kv j xs es fs)/\B (∃a2 t2 da dc,wz.heap[X]?=I (Q #[Y (I ⟨T,0,J⟩),Y (I ⟨q,0,J⟩),H lo,H a2,t2,V da n dc] 97)/\∃b,wz.ownsRow b 4 1 (V da n dc) n (LZ R)))
 case first=>
  have P:=b0.o;rcases d0.o.2 with e|⟨D,e,_,b,s⟩
  ·injection e with e1 e2 e3
   subst e1 e2 e3;have x1:=Zc P 1
   cases lo with
   |true=>
    obtain rfl:n=0:=by rw[<-t.o,<-HR.o];rfl
    obtain rfl:R=[]:=HR.o.symm;go_wp2_with fail;go_meet;exact⟨Zt,⟨c1,Wz.refl _ _,HC.o.2.2⟩,_,_,_,_,b0.o,0,oZ _ _ _ _⟩
   |false=>
   obtain rfl:R=R0:=HR.o.symm;have A0:=Za (F5 p q rts R (by obtain⟨_,_,_,h⟩:=t0.o p (f.o.mono);exact Sm.of h) C.o.bk fun r hr=>⟨(C.o.ar r hr).m4,(C.o.ar r hr).c4⟩);rw[t.o]at A0;go_wp2_with fail;refine A0.o.mono ?_;rintro e w2 ⟨D,rfl,B0⟩;rw[<-t.o]at B0;obtain⟨d1,d2⟩:=B0.ded C.o.bk C.o.ar;rw[t.o]at d1;have h0:=d2.whole b0.o;have e5:=Zc h0 5;have f5:=bF h0 5
   have d:B (Fr (fun k=>k=X) p (w2.setCell ⟨X,5,J⟩ (V (I ⟨D,0,J⟩) n n))/\O0 p c1 (w2.setCell ⟨X,5,J⟩ (V (I ⟨D,0,J⟩) n n)) L v nv ov mv kv j xs es fs/\(w2.setCell ⟨X,5,J⟩ (V (I ⟨D,0,J⟩) n n)).heap[X]?=I (Q #[Y (I ⟨T,0,J⟩),Y (I ⟨q,0,J⟩),H false,H m,y,V (I ⟨D,0,J⟩) n n] 97)/\(w2.setCell ⟨X,5,J⟩ (V (I ⟨D,0,J⟩) n n)).ownsRow p.heap.size 4 1 (V (I ⟨D,0,J⟩) n n) n (LZ R)):=by
    have hf:Fr (fun k=>k=X) p (w2.setCell ⟨X,5,J⟩ (V (I ⟨D,0,J⟩) n n)):=(d2.mono).trans (Tx _ 5)
    have ha:Wz p c1 fun k=>if k=D then 11 else c1 k:=fun k l=>if_neg fun e=>by have:=(d1.lt D rfl).1;omega
    have i0:=(iA.1 HX.o).1;have C0:=(HC.o.1 X i0).trans v0.o;have e:=heap_setCell_same w2 X 5 _ _ (V (I ⟨D,0,J⟩) n n) h0
    have e':(w2.setCell ⟨X,5,J⟩ (V (I ⟨D,0,J⟩) n n)).heap[X]?=I (Q #[Y (I ⟨T,0,J⟩),Y (I ⟨q,0,J⟩),H false,H m,y,V (I ⟨D,0,J⟩) n n] 97):=by simpa using e
    have hr:=oF d1 (Tx (w:=w2) (L:=X) (V (I ⟨D,0,J⟩) n n) 5) fun k l=>by have:=f.o.size;omega
    refine⟨hf,⟨_,ha,HC.o.2.2.tells C0 hf ha ?_⟩,e',hr⟩
    have P0:=(d0.o.keep f.o HC.o.1 (by simp)).keep hf ha fun k l=>by rw[l,C0];decide
    refine K0.o _ _ m y _ ((f.o.mono).trans hf) (HC.o.1.trans ha f.o.size) e' ⟨P0.1,x9 ⟨D,by rw[t.o],P1 (if_pos rfl),p.heap.size,by rw[t.o];exact hr⟩⟩
   go_wp2_with fail;go_meet;exact⟨d.o.1,d.o.2.1,_,_,_,_,d.o.2.2.1,_,d.o.2.2.2⟩
  rw[t.o]at e
  injection e with e1 e2 e3;replace e2:=e2.symm;replace e3:=e3.symm;subst e1 e2 e3
  have d:B (O0 p c1 p L v nv ov mv kv j xs es fs/\p.ownsRow b 4 1 (V (I ⟨D,0,J⟩) n n) n (LZ R)):=⟨⟨c1,Wz.refl _ _,HC.o.2.2⟩,by
   rw[t.o]at s
   exact oF s f.o⟩
  simp only[Option.isNone_some,Bool.false_and];go_wp2_with fail;go_meet;exact⟨Zt,d.o.1,_,_,_,_,b0.o,_,d.o.2⟩
 obtain⟨j0,Q0,S0⟩:=hcut;generalize wc=W at*;obtain⟨a2,t2,da,dc,T0,b,s⟩:=S0.o;have i0:=(iA.1 HX.o).1
 have V0:B (∀W',F0 W W'->W'.cell? ⟨X,1,J⟩=I (Y (I ⟨q,0,J⟩))/\W'.cell? ⟨X,5,J⟩=I (V da n dc)/\(Sm W' q rts R0)/\W'.ownsRow w.heap.size 9 1 (V oa K oc) K (SB (L0 R))/\W'.ownsRow b 4 1 (V da n dc) n (LZ R)):=fun W' hf=>by
  have e:=hf.whole T0;exact⟨Zc e 1,Zc e 5,(by obtain⟨_,_,_,h⟩:=t0.o W' (((f.o.mono).trans j0.o).trans (hf.mono));exact Sm.of h),oF (oF g0.o j0.o fun k l=>by omega) hf,oF s hf⟩
 go_wp2_with fail
 go_loopg [6,7] n (fun mm av iv wr=>∃i a:Nat,i<=n/\mm=n-i/\av=U E (a:Nat)/\iv=U E (i:Nat)/\a<=8/\B (a=(WR R i).length)/\B (F0 W wr))
 case atStart=>exact⟨0,0,by omega,rfl,rfl,rfl,by omega,rfl,Zt⟩
 obtain⟨i,a,i1,rfl,rfl,rfl,ha,HA,a0⟩:=hrel;obtain⟨y1,y5,W0,k0,D0⟩:=V0.o wr a0.o;by_cases j1:i<n
 ·have X0:(i:Int)<(n:Int):=by omega
  obtain rfl:R=R0:=by
   cases lo with
   |false=>exact HR.o.symm
   |true=>have:=t.o;rw[<-HR.o]at this;simp[LY]at this;omega
  obtain⟨D,_,e,_⟩:=D0.form (by omega);injection e with e _ e2;subst e e2;obtain⟨r,hr⟩:∃r,R[i]?=I r:=⟨_,gE (show i<R.length by have:=t.o;omega)⟩;have l1:=Za hr;have E0:=(D0.cellAt i (by omega)).trans (DT (by have:=t.o;omega))
  cases hl:RE R i with
  |true=>
   rw[hl]at E0
   have l0:B (a=(WR R (i+1)).length):=by show _=_;rw[Lm hr,hl,if_pos rfl,y9,HA.o]
   go_wp2_with fail;go_roundg (n-(i+1))
   case measure=>omega
   exact⟨i+1,a,by omega,rfl,rfl,by go_num,ha,l0,a0⟩
  |false=>
   rw[hl]at E0
   have l0:B (a+1=(WR R (i+1)).length):=by show _=_;rw[Lm hr,hl,HA.o,lA];rfl
   have m0:=yv hr hl;rw[<-HA.o]at m0
   have m1:a<K:=by have:=(iG.1 m0).1;have:=y0.o;omega
   obtain⟨la,lc,h2,h3⟩:=W0.c2;rw[t.o]at h2;obtain⟨g,ma,mc,ca,cc,pa,pc,rfl,n0,_⟩:=h3 i r hr;obtain⟨og,_,e,_⟩:=k0.form (by omega);injection e with e _ e2;subst e e2;have o0:wr.cell? ⟨og,a,J⟩=I (Z r.name):=(k0.cellAt a (by omega)).trans (by unfold SB;rw[F,m0];rfl);have u0:wr.cell? ⟨g,i*13,J⟩=I (Z r.name):=n0 0 _ rfl
   have n1:(a:Int)<(K:Int):=by omega
   have o1:decide ((K:Int)<=(a:Int))=false:=by simp;omega
   go_upto_region 9 with fail
   go_quiet (fail)
   have Y0:B (F0 W (wr.drewN nq)):=a0.o.trans ⟨rfl,rfl,rfl,y6 _,fun _ _ _=>rfl⟩;go_wp2_with fail;go_roundg (n-(i+1))
   case measure=>omega
   exact⟨i+1,a+1,by omega,rfl,by go_num,by go_num,by omega,l0,Y0⟩
 have X0:¬(i:Int)<(n:Int):=by omega
 obtain rfl:i=n:=by omega
 obtain rfl:a=K:=by
  rw[HA.o,<-y0.o,<-t.o];rfl
 have HT:B (y8 G 84 #[Y (I ⟨L,0,J⟩),V oa a oc] wr fun e w'=>e=M (.tuple #[])/\(∃u x es',O0 w c w' L v u ov x kv (j+1) xs es' fs/\es'.length=es.length+4/\∀e,e∈es'->e∈es\/e.n<=8796093022208)/\SK [1,3,4,7,9,11] c w w'):=by
  obtain⟨c2,G0,Z0⟩:=Q0.o;obtain⟨O,a1,_⟩:=HC.o;have p1:=(iA.1 HS.o.bx).1;have H0:=O.trans G0 f.o.size;have I0:SK [1,3,4,7,9,11] c w wr:=SK.cls (c1:=c) (SK.cls (c1:=c1) (f.o.mono) O j0.o fun k l=>by rw[l,O X i0,v0.o];decide) (Wz.refl _ _) (S:=fun _=>False) a0.o (by simp);refine(Lk c2 wr L v nv ov mv kv j xs es fs oa a oc _ (Z0.keep a0.o (Wz.refl _ _)) (oS k0 (by omega)) (fun k l=>(G0 k (g0.o.lt k l).2).trans (a1 k l)) (fun e he k l g e1 e2=>?_) w0.o.1 w0.o.2 (by omega)).mono ?_
  ·obtain⟨g',k1,_,cs,k3,_⟩:=HS.o.n.el e (by simpa using he) k l
   rw[k1]at e1;injection e1 with e1;injection e1 with e1;have:=(iA.1 k3).1;have:=(g0.o.lt g e2).1;omega
  rintro e w' ⟨he,u,x,es',⟨c',q1,q2⟩,q3,q4,q5⟩
  exact⟨he,⟨u,x,es',⟨c',H0.trans q1 I0.size,q2⟩,q3,q4⟩,I0.cls H0 q5 fun k l=>by revert l;simp;omega⟩
 go_wp2_with fail;refine HT.o.mono ?_;rintro e w7 ⟨rfl,h7,h8⟩;have H7:=Za (z9 h7 h8);go_wp2_with fail;go_ret;exact⟨rfl,H7.o⟩
def uH (d:q0)(L:Nat)(a:Option Addr)(n b:Nat)(x:ByteArray)(i:Nat)(wr:q0):Prop:=
 ∃c,wr.ownsRow (L+1) 44 6 (V a n b) n c/\(∀k j v,k<i->(G3 6 x)[j]?=I v->c[k*6+j]?=I v)/\Fr (fun k=>(y7 a n b).ownBlock=I k) d wr
theorem uH.step {c wr L A n d x i}(h:uH c L (I ⟨A,0,J⟩) n d x i wr)(hi:i<n):
  uH c L (I ⟨A,0,J⟩) n d x (i+1) ((((((wr.setCell ⟨A,i*6,J⟩ (Z x)).setCell ⟨A,i*6+1,J⟩ (Z x)).setCell ⟨A,i*6+2,J⟩ (Z ByteArray.empty)).setCell ⟨A,i*6+3,J⟩ (U E 0)).setCell ⟨A,i*6+4,J⟩ (U E 0)).setCell ⟨A,i*6+5,J⟩ (U E 0)):=by
 obtain⟨q,f,g,l⟩:=h;have m:=f.1;have o:=(((((f.stored (i*6) (Z x)).1.stored (i*6+1) (Z x)).1.stored (i*6+2) (Z ByteArray.empty)).1.stored (i*6+3) (U E 0)).1.stored (i*6+4) (U E 0)).1.stored (i*6+5) (U E 0);refine⟨_,o.1,fun k j v r a=>?_,?_⟩
 ·have b:=(iG.1 a).1
  simp[G3]at b;by_cases e:k=i
  ·subst e
   have:j=0\/j=1\/j=2\/j=3\/j=4\/j=5:=by omega
   rcases this with rfl|rfl|rfl|rfl|rfl|rfl<;>simp[G3]at a<;>subst a<;>simp[q8,m]<;>omega
  simp only[q8]
  rw[if_neg (by omega),if_neg (by omega),if_neg (by omega),if_neg (by omega),if_neg (by omega),if_neg (by omega)];exact g k j v (by omega) a
 exact(((((l.setCell (p:=⟨A,i*6,J⟩) (z8 rfl) _).setCell (p:=⟨A,i*6+1,J⟩) (z8 rfl) _).setCell (p:=⟨A,i*6+2,J⟩) (z8 rfl) _).setCell (p:=⟨A,i*6+3,J⟩) (z8 rfl) _).setCell (p:=⟨A,i*6+4,J⟩) (z8 rfl) _).setCell (p:=⟨A,i*6+5,J⟩) (z8 rfl) _
theorem O1:(G.info? 41).map (fun i=>(i.zero,i.size,i.bytes))=I (I (V J 0 0),1,24):=by kernel_rfl
theorem EP (c w L v nv ov mv kv z xs es H la n c0 ys)(h:RF c w L v nv ov mv kv z xs es H)(hl:w.ownsRow (L+1) 44 6 (V la n c0) n ys)(t0:Cl c (V la n c0) 8)(v0:∀e,e∈H->∀k,k<e.n->∀g,e.a=I ⟨g,0,J⟩->(y7 la n c0).ownBlock≠I g)(hc:z<=4611686018427387904)(hE:(H.length+4)*24<=140737488355328)(hN:(n+4)*72<=140737488355328):
  y8 G 88 #[Y (I ⟨L,0,J⟩),V la n c0] w fun e w'=>e=M (.tuple #[])/\∃i0 j0 C,O0 w c w' L v nv i0 mv j0 (z+1) xs es C/\C.length=H.length+4/\(∀e,e∈C->e∈H\/e.n<=8796093022208)/\SK [1,5,6,8] c w w':=by
 obtain⟨ii,V0,W0,X0,Y0⟩:=info_parts O1;obtain⟨ij,Z0,a1,b1,d1⟩:=info_parts TH;obtain⟨iv,w0,x0,A0,B0⟩:=info_parts R5;have HS:=Za h;have C0:=Za (K8 w L v nv ov mv kv z h.bx hc);have HL:=Za hl;have k0:=Za t0;have D0:=Za v0;have HE:=Za hE
 have H1:n<=1954687338264:=by omega
 have g1:=Za hN;clear h hl t0 v0 hc hE hN;go_enter Tryz.func88,Tryz.ntmps88;go_wp2_with fail;refine C0.o.mono ?_;rintro e w1 ⟨⟨x,rfl⟩,h0,d0⟩;have E0:=Za h0;have l0:=Za d0;go_upto_region 2 with fail;generalize hW:w1.alloc _=W1 at*;have m0:=Za (B1 hW);have e0:B (F0 w1 W1):=F2 hW;obtain⟨O,hO⟩:∃O,w1.heap.size=O:=⟨_,rfl⟩;have I1:=Za hO
 have G0:B (w.heap.size<=O):=by have:=d0.size;show _<=_;omega
 rw[hO]at m0 ⊢;have H0:B (uH W1 L la n c0 x 0 W1):=⟨ys,oF (oF HL.o d0 (fun k l=>by omega)) e0.o,fun k j v l=>by omega,Zt⟩;clear h0 d0 C0 hW hO;go_wp2_with fail
 go_loopg [6] n (fun m kv wr=>∃i,i<=n/\m=n-i/\kv=U E (i:Nat)/\B (uH W1 L la n c0 x i wr))
 case atStart=>exact⟨0,q9 _,rfl,rfl,H0⟩
 obtain⟨i,hi,rfl,rfl,HM⟩:=hrel;by_cases i1:i<n
 ·have j1:(i:Int)<(n:Int):=by omega
  obtain⟨_,h1,_⟩:=HM.o;obtain⟨A,_,e,_⟩:=h1.form (by omega);injection e with e _ e3;subst e e3;have l1:=Za (HM.o.step i1);obtain⟨zs,q1,_,q3⟩:=HM.o;have D:=q3.whole m0.o (fun e=>by have:=(HL.o.lt O e).2;have:=G0.o;omega);have o0:=Zc D 0;have o1:=Zc D 1;have o2:=Zc D 2;have o3:=Zc D 3;have o4:=Zc D 4;have o5:=Zc D 5
  have hx:∀r,r<6->∃u,wr.cell? ⟨A,i*6+r,J⟩=I u:=fun r hr=>⟨_,by rw[q1.cellAt (i*6+r) (by omega)];exact gE (by have:zs.length=n*6:=q1.1;omega)⟩
  obtain⟨y0,z0⟩:=hx 0 (by omega);obtain⟨y1,z1⟩:=hx 1 (by omega);obtain⟨y2,z2⟩:=hx 2 (by omega);obtain⟨y3,z3⟩:=hx 3 (by omega);obtain⟨y4,z4⟩:=hx 4 (by omega);obtain⟨y5,z5⟩:=hx 5 (by omega);rw[Nat.add_zero]at z0;have f0:=q1.frozenAt (i*6);have f1:=q1.frozenAt (i*6+1);have f2:=q1.frozenAt (i*6+2);have f3:=q1.frozenAt (i*6+3);have f4:=q1.frozenAt (i*6+4);have f5:=q1.frozenAt (i*6+5);clear q1 q3 D hx h1;go_wp2_with fail;go_roundg (n-(i+1))
  case measure=>omega
  exact⟨i+1,by omega,rfl,by go_num,l1⟩
 have j1:¬(i:Int)<(n:Int):=by omega
 obtain rfl:i=n:=by omega
 obtain⟨cz,P,I0⟩:∃cz:Nat->Nat,Wz w c cz/\cz O=0:=⟨fun k=>if k=O then 0 else c k,fun k l=>if_neg (by have:=G0.o;omega),if_pos rfl⟩;have J0:=Za P;have m1:=Za I0;clear I0
 have K0:B (SK [1,5,6,8] c w W1):=(l0.o.trans (e0.o.mono)).mono fun k l=>by rw[l,HS.o.bc];decide
 have n1:B (GQ 5 6 8 41 44 6 (fun a b=>G2 v nv a mv b (z+1)) cz W1 L x cz wr ov kv (V la i c0) i H []):=by
  obtain⟨zs,z1,z2,z3⟩:=HM.o;have Q:=HS.o;have r1:=(iA.1 Q.bx).1
  have L0:Cl cz (V la i c0) 8:=fun k l=>(P k (HL.o.lt k l).2).trans (k0.o k l)
  have hF:=((l0.o.trans (e0.o.mono)).mono fun k l=>z8 l).trans (z3.mono fun k l=>x9 l);refine⟨Wz.refl _ _,Q.o.keepL hF P (fun k l=>?_) (fun e he k l g eg=>?_),⟨zs,z1,z2,L0,fun e he k l g e1 e2=>?_⟩,z3.mono fun k l=>?_,z3.whole (e0.o.whole E0.o) fun e=>?_,(P L r1).trans Q.bc⟩
  ·rcases l with e|e
   ·rw[e,Q.bc];decide
   rw[k0.o k e];decide
  ·rintro(e|e)
   ·obtain⟨g',k1,k2,_⟩:=Q.o.el _ he k l
    rw[k1]at eg;injection eg with eg;injection eg with eg;rw[eg,e,Q.bc]at k2
    cases k2
   exact D0.o _ (by simpa using he) k l g eg e
  ·exact absurd e2 (D0.o e (by simpa using he) k l g e1)
  ·rw[L0 k l];decide
  have:=k0.o L e
  rw[Q.bc]at this
  cases this
 clear HM H0 l0 E0 P;go_wp2_with fail
 go_loopg [1,7] 4 (fun m lv jv wr=>∃j c' es' n0 p0,j<=4/\m=4-j/\jv=U E (j:Nat)/\B (GQ 5 6 8 41 44 6 (fun a b=>G2 v nv a mv b (z+1)) cz W1 L x c' wr n0 p0 lv (i+j) es' [])/\B (es'.length=H.length+j/\∀e,e∈es'->e∈H\/e.n<=8796093022208))
 case atStart=>exact⟨0,_,H,ov,kv,by omega,rfl,rfl,n1,⟨rfl,fun e he=>z8 he⟩⟩
 obtain⟨j,c',es',n0,p0,hj,rfl,rfl,HT,R⟩:=hrel;by_cases J1:j<4
 ·have v1:(j:Int)<4:=by omega
  obtain⟨_,S,_⟩:=HT.o.ls;obtain⟨lb,cap,el⟩:=oL S;subst el;have g0:=HT.o.sh.nm;rw[y9]at g0;obtain⟨na,nc,en⟩:=oL g0;subst en;obtain⟨ma,mc,em⟩:=oL HT.o.sh.ma;subst em;have x1:=Za g0
  have A1:(es'.length+1)*24<=140737488355328:=by have:=HE.o;have:=R.o.1;omega
  obtain⟨q,hq⟩:∃q,es'.length=q:=⟨_,rfl⟩;have HQ:=Za hq
  have c2:wr.cell? ⟨L,3,J⟩=I (V na q nc):=by rw[<-hq];exact Zc HT.o.bx 3
  have K1:L+1<=wr.heap.size:=(iA.1 HT.o.bx).1
  have L1:q<=5864062014805:=by omega
  rw[hq]at A1;clear S g0 hq
  go_wp2_with (at_builtin;refine wpList_append_lies _ rfl (.tmp 31) (.tmp 33) 56 rfl (L+1) 41 ii _ 1 24 Tryz.underlying56 V0 W0 X0 Y0 rfl (by decide) (V na q nc) q (es'.map Ie.val) rfl ?h1 ⟨wr.heap.size,0,J⟩ 1 1 [V lb (i+j) cap] rfl rfl ?h2 ?h3 (by decide) ?h4 ?h5 ?h6 _ rfl ?h7)
  case h1=>rw[<-HQ.o];exact x1.o.alloc _
  case h2=>exact N (aN wr _)
  case h3=>simp[z7]
  case h4=>unfold maxLen;omega
  case h5=>omega
  case h6=>simp;omega
  intro g2 F1 w2 d f p _;rw[<-HQ.o]at d f p;obtain⟨q0,c1,M0⟩:=HT.o.s1 (i:=3) (by decide) (fun W a b u hW=>by have e:=heap_setCell_same W L 3 _ _ u hW;simpa[G2]using e) f d (p.imp id (by omega));have d2:=Zc q0 3;have C1:=bF q0 3;rw[HQ.o]at d2;have T:=Za M0;rw[HQ.o]at T;clear M0 d f p c2 q0;go_upto_region 10 with fail;generalize w2.setCell _ _=W3 at*;have c4:=Zc T.o.bx 5;have M1:L+1<=W3.heap.size:=(iA.1 T.o.bx).1;clear d2 C1
  go_wp2_with (at_builtin;refine wpList_append_lies _ rfl (.tmp 41) (.tmp 43) 28 rfl (L+1) 9 ij _ 1 16 Tryz.underlying28 Z0 a1 b1 d1 rfl (by decide) (V ma q mc) q (es'.map fun e=>z6 e.m) rfl ?k1 ⟨W3.heap.size,0,J⟩ 1 1 [Z x] rfl rfl ?k2 ?k3 (by decide) ?k4 ?k5 ?k6 _ rfl ?k7)
  case k1=>have e:=T.o.sh.ma;rw[HQ.o]at e;exact e.alloc _
  case k2=>exact N (aN W3 _)
  case k3=>simp[z7]
  case k4=>unfold maxLen;omega
  case k5=>omega
  case k6=>simp;omega
  intro g5 G1 w5 d f p _;rw[<-HQ.o]at d;obtain⟨r0,c5,N0⟩:=T.o.s2 (i:=5) rfl (by decide) (fun W a b u hW=>by have e:=heap_setCell_same W L 5 _ _ u hW;simpa[G2]using e) f d (p.imp id (by omega));have d4:=Zc r0 5;have D1:=bF r0 5;have K:=Za N0;rw[HQ.o]at K;clear N0 d f p c4 r0;go_upto_region 11 with fail;generalize w5.setCell _ _=X at*;have N1:L+1<=X.heap.size:=(iA.1 K.o.bx).1;obtain⟨P0,S,Q0,_⟩:=K.o.ls;have F:=Za (z9 S Q0);have a0:(i+j+1)*72<=140737488355328:=Nat.le_trans (Nat.mul_le_mul_right 72 (show i+j+1<=i+4 by omega)) g1.o;have R0:B ((es'++[(⟨lb,i+j,cap,x⟩:Ie)]).length=H.length+(j+1)/\∀e,e∈es'++[(⟨lb,i+j,cap,x⟩:Ie)]->e∈H\/e.n<=8796093022208):=⟨by rw[List.length_append,R.o.1];simp;omega,fun e he=>(List.mem_append.1 he).elim (R.o.2 e) (fun h=>by rw[List.mem_singleton.1 h];exact x9 (by show i+j<=_;omega))⟩;have D:=K.o.fq.whole m0.o (by rw[m1.o];decide);have o0:=Zc D 0;have o1:=Zc D 1;have o2:=Zc D 2;have o3:=Zc D 3;have o4:=Zc D 4;have o5:=Zc D 5;clear d4 D1 S Q0 D;rcases F.o.1.2.symm with⟨g,_,_,el,_⟩|⟨el,hz⟩
  ·injection el with el _ E1
   subst el E1
   go_wp2_with (at_builtin;refine Ts rfl (.tmp 47) (.tmp 49) 41 rfl (L+1) 44 iv _ 6 72 Tryz.underlying41 w0 x0 A0 B0 rfl g (i+j) cap P0 rfl ?q1 ⟨X.heap.size,0,J⟩ 1 1 [Z x,Z x,Z ⟨#[]⟩,U E 0,U E 0,U E 0] rfl rfl ?q2 ?q3 ?q4 ?q5 ?q6 _ rfl ?q7)
   case q1=>exact F.o.1.alloc _
   try case q2=>exact N (aN X _)
   case q3=>simp[z7]
   case q4=>unfold maxLen;omega
   try case q5=>first|exact a0|omega
   case q6=>first|exact a0|omega|(simp;omega)
   intro g8 S0 w8 d p
   have y:(I (⟨g,0,J⟩:Addr)=I ⟨g8,0,J⟩/\Fr (fun k=>k=g8) X w8)\/(X.heap.size<=g8/\F0 X w8):=by
    rcases p with⟨e,hg⟩|⟨e,hg⟩
    ·exact z8 ⟨by rw[e],(Zt.alloc _).grown hg fun k l=>z8 (by injection l with l;omega)⟩
    exact x9 ⟨by omega,(Zt.alloc _).grown hg fun k l=>by cases l⟩
   have s:=d;obtain⟨c8,b0⟩:=K.o.s3 (w2:=w8) (by decide) rfl F.o.1 F.o.2 s y;have s0:=Za b0;clear b0 d p s y;go_wp2_with fail;go_roundg (4-(j+1))
   case measure=>omega
   exact⟨j+1,c8,_,_,_,by omega,rfl,by go_num,s0,R0⟩
  injection el with e1 e2 e3
  subst e1 e3;clear e2 hz
  go_wp2_with (at_builtin;refine wpList_append_lies _ rfl (.tmp 47) (.tmp 49) 41 rfl (L+1) 44 iv _ 6 72 Tryz.underlying41 w0 x0 A0 B0 rfl (by decide) (V J (i+j) 0) (i+j) P0 rfl ?p1 ⟨X.heap.size,0,J⟩ 1 1 [Z x,Z x,Z ⟨#[]⟩,U E 0,U E 0,U E 0] rfl rfl ?p2 ?p3 (by decide) ?p4 ?p5 ?p6 _ rfl ?p7)
  case p1=>exact F.o.1.alloc _
  case p2=>exact N (aN X _)
  case p3=>simp[z7]
  case p4=>unfold maxLen;omega
  case p5=>first|exact a0|omega
  case p6=>simp;omega
  intro g8 S0 w8 d f p _
  have y:((J:Option Addr)=I ⟨g8,0,J⟩/\Fr (fun k=>k=g8) X w8)\/(X.heap.size<=g8/\F0 X w8):=by
   rcases p with e|e
   ·cases e
   exact x9 ⟨by omega,(Zt.alloc _).grown f fun k l=>by cases l⟩
  have s:=d;obtain⟨c8,b0⟩:=K.o.s3 (w2:=w8) (by decide) rfl F.o.1 F.o.2 s y;have s0:=Za b0;clear b0 d p f s y;go_wp2_with fail;go_roundg (4-(j+1))
  case measure=>omega
  exact⟨j+1,c8,_,_,_,by omega,rfl,by go_num,s0,R0⟩
 have v1:¬(j:Int)<4:=by omega
 obtain rfl:j=4:=by omega
 have T0:B (∃i0 j0 C,O0 w c wr L v nv i0 mv j0 (z+1) xs es C/\C.length=H.length+4/\(∀e,e∈C->e∈H\/e.n<=8796093022208)/\SK [1,5,6,8] c w wr):=by
  have ht:=HT.o;have Q:=HS.o
  have hf:=K0.o.cls J0.o ht.fq fun i hi=>hi
  have ha:=J0.o.trans ht.ag K0.o.size;obtain⟨⟨t1,t2⟩,t3⟩:=Q.taken hf ha (by decide)
  have q:∀{k t:Nat},c k∈[1,5,6,8]->t∉[1,5,6,8]->c k≠t:=fun h1 h2 e=>h2 (e▸h1)
  exact⟨n0,p0,es',⟨c',ha,ht.bx,ht.bc,t1,t2,Q.few,t3,Q.n.keep hf ha fun k l=>⟨q l (by decide),q l (by decide),q l (by decide)⟩,ht.sh⟩,R.o.1,R.o.2,hf⟩
 go_wp2_with fail
 go_end0
 exact⟨rfl,T0.o⟩
theorem DU (R:List Ze)(i a:Nat):∀d,∃t,T6 R i (a+d)=T6 R i a++t
 |0=>⟨[],by simp⟩
 |d+1=>by
  obtain⟨t,h⟩:=DU R i a d;refine⟨t++G1 R i (i+1+(a+d)),?_⟩
  show T6 R i (a+d)++G1 R i (i+1+(a+d))=_
  rw[h,C]
theorem DV (R:List Ze)(a:Nat):∀d,∃t,TY R (a+d)=TY R a++t
 |0=>⟨[],by simp⟩
 |d+1=>by
  obtain⟨t,h⟩:=DV R a d;refine⟨t++T6 R (a+d) (R.length-(a+d+1)),?_⟩
  show TY R (a+d)++T6 R (a+d) (R.length-(a+d+1))=_
  rw[h,C]
theorem xR {R i j r q y}(d:R[i]?=I r)(a:R[i+1+j]?=I q)(f:Ra (Ud r) (Ud q)=I y):(TZ R)[(TY R i++T6 R i j).length]?=I (r.name,q.name,TF y.1):=by
 have g:=(iG.1 a).1;obtain⟨t1,b⟩:=DV R (i+1) (R.length-(i+1));obtain⟨h,c⟩:=DU R i (j+1) (R.length-(i+1)-(j+1));rw[show i+1+(R.length-(i+1))=R.length from by omega]at b;rw[show j+1+(R.length-(i+1)-(j+1))=R.length-(i+1)from by omega]at c
 have k:G1 R i (i+1+j)=[(r.name,q.name,TF y.1)]:=by simp only[G1,d,a,f]
 have e:TZ R=(TY R i++T6 R i j)++(G1 R i (i+1+j)++(h++t1)):=by
  unfold TZ;rw[b,show TY R (i+1)=TY R i++T6 R i (R.length-(i+1))from rfl,c,show T6 R i (j+1)=T6 R i j++G1 R i (i+1+j)from rfl];simp only[C]
 rw[e,aR (y6 _),j2,k];rfl
def wJ (n:Nat):Code->Bool
 | .region m _ _=>m==n
 | .seq a _=>wJ n a
 |_=>false
def wK (n:Nat):Code->Option Code
 | .seq a b=>if wJ n a then I (.seq a b)else wK n b
 |_=>J
def uI (f:Func)(n:Nat):Code:=(f.body.bind (wK n)).getD .skip
theorem DW:∀i,TY [] i=[]
 |0=>rfl
 |i+1=>by rw[TY,DW i];simp[T6]
set_option maxRecDepth 1000000 in
theorem BS (c c1 w w1 W L v nv ov mv kv x xs es fs X T q rts R lo oa C oc n a2 tv B0)(h:RF c w L v nv ov mv kv x xs es fs)(C0:Yy rts R/\∀r,r∈R->Tg r)(N4:X<w.heap.size)(O4:c X=9)(P4:x<=4611686018427387904/\(fs.length+4)*24<=140737488355328)(Q4:∀W,Fr (fun k=>k=X) w W->Sm W q rts R)(n0:w1.ownsRow w.heap.size 44 6 (V oa C oc) C (XF (TZ (LY lo R))))(D0:F0 w w1)(D:Wz w c c1/\Cl c1 (V oa C oc) 8)(r0:Fr (fun k=>k=X) w1 W)(R4:O0 w1 c1 W L v nv ov mv kv x xs es fs)(S4:W.heap[X]?=I (Q #[Y (I ⟨T,0,J⟩),Y (I ⟨q,0,J⟩),H lo,H a2,tv,B0] 97))(E0:(TZ (LY lo R)).length=C)(hn:R.length=n)(t2 t3 t4 t8 t9 T4 V4 W4 X4 Y4 Z4 a5 b5 c5 d5 e5 f5 g5 i5 j5 k5 l5 m5 n5 p5 r5 s5 t5 x5 y5 z5 A5 B5 C5 D5 E5 F5 G5 H5 I5 J5 K5 L5 M5 N5 O5 P5 Q5 R5 S5 T5 V5 W5 X5 Y5 Z5 a6 b6 c6 d6 e6 f6 g6 h6 i6 j6 k6 l6 m6 n6 o6 p6 q6 r6 s6 t6 v6 w6 x6 z6 A6 B6 C6 D6 E6 F6 G6 H6 I6 J6 K6 L6 M6 N6 O6 G0 H0 I0 J0 K0 L0 M0 N0 P0 Q0 R0 S0 T0 V0 W0 X0 Y0 Z0 a1 b1 d1 f1 g1 h1 i1 l1 m1 n1 r1 s1 t1 v1 x1 z1 A1 C1 D1 E1 F1 H1 I1 J1 K1 L1 M1 N1 O1 P1 Q1 R1 S1 T1 V1 W1 X1 Y1 Z1 b2 d2 f2 g2 i2 j2 k2 l2 m2 n2 r2 s2 x2 z2 A2 B2 C2 D2 E2 G2 H2 I2 J2 K2 L2 M2 N2 O2 P2 Q2 R2 S2 T2 V2 W2 X2 Y2 Z2 a3 b3 c3 d3 f3 g3 i3 l3 m3 n3 r3 s3 x3 y3 z3 A3 B3 C3 D3 E3 F3 G3 H3 I3 J3 K3 L3 M3 N3 O3 P3 Q3 R3 S3 T3 V3 W3 X3 Y3 Z3 a4 b4 c4 d4 e4 f4 g4 i4 j4 k4 l4 m4 n4 p4 r4 s4 x4 y4 z4 A4):
  Code.wp G (uI Tryz.f47 16) (bodyPost G Tryz.f47 fun e w'=>e=M (H true)/\(∃F K m,O0 w c w' L v nv F mv K (x+1) xs es m/\m.length=fs.length+4/\∀e,e∈m->e∈fs\/e.n<=8796093022208)/\SK [1,5,6,8,9,10] c w w') ⟨#[Y (I ⟨L,0,J⟩),Y (I ⟨X,0,J⟩),t2,t3,t4,V oa C oc,U E 0,H true,t8,t9,T4,V4,W4,X4,Y4,Z4,a5,b5,c5,d5,e5,f5,g5,i5,j5,k5,l5,m5,n5,p5,r5,s5,t5,x5,y5,z5,A5,B5,C5,D5,E5,F5,G5,H5,I5,J5,K5,L5,M5,N5,O5,P5,Q5,R5,S5,T5,V5,W5,X5,Y5,Z5,a6,b6,c6,d6,e6,f6,g6,h6,i6,j6,k6,l6,m6,n6,o6,p6,q6,r6,s6,t6,v6,w6,x6,z6,A6,B6,C6,D6,E6,F6,G6,H6,I6,J6,K6,L6,M6,N6,O6,G0,H0,I0,J0,K0,L0,M0,N0,P0,Q0,R0,S0,T0,V0,W0,X0,Y0,Z0,a1,b1,d1,f1,g1,h1,i1,l1,m1,n1,r1,s1,t1,v1,x1,z1,A1,C1,D1,E1,F1,H1,I1,J1,K1,L1,M1,N1,O1,P1,Q1,R1,S1,T1,V1,W1,X1,Y1,Z1,b2,d2,f2,g2,i2,j2,k2,l2,m2,n2,r2,s2,x2,z2,A2,B2,C2,D2,E2,G2,H2,I2,J2,K2,L2,M2,N2,O2,P2,Q2,R2,S2,T2,V2,W2,X2,Y2,Z2,a3,b3,c3,d3,f3,g3,i3,l3,m3,n3,r3,s3,x3,y3,z3,A3,B3,C3,D3,E3,F3,G3,H3,I3,J3,K3,L3,M3,N3,O3,P3,Q3,R3,S3,T3,V3,W3,X3,Y3,Z3,a4,b4,c4,d4,e4,f4,g4,i4,j4,k4,l4,m4,n4,p4,r4,s4,x4,y4,z4,A4],[]⟩ W:=by
 conv=>arg 2;whnf
 have HS:=Za h;have f:=Za C0;have B4:=Za P4;have s0:=Za n0;have C4:=Za D0;have HC:=Za D;have P6:=Za r0;have Q6:=Za R4;have g0:=Za E0;have HN:=Za hn;have D4:=Za (z9 N4 O4)
 have v7:n<=8:=by have:=C0.1.l8;omega
 have R6:C<=64:=by
  have e0:(LY lo R).length<=8:=by cases lo<;>simp[LY];omega
  have:=Ne (LY lo R) (LY lo R).length;have e3:=j1 e0 e0;unfold TZ at E0;omega
 have N:B (∀b,F0 W b->b.cell? ⟨X,1,J⟩=I (Y (I ⟨q,0,J⟩))/\b.cell? ⟨X,2,J⟩=I (H lo)/\Sm b q rts R/\b.ownsRow w.heap.size 44 6 (V oa C oc) C (XF (TZ (LY lo R)))):=fun b l=>by
  have e:=l.whole S4;exact⟨Zc e 1,Zc e 2,Q4 b (((D0.mono).trans r0).trans (l.mono)),oF (oF n0 r0 fun k hk=>by omega) l⟩
 go_wp2_with fail
 go_loopg [6,7,12] n (fun mm av bv iv wr=>∃i a:Nat,i<=n/\mm=n-i/\av=U E (a:Nat)/\bv=H true/\iv=U E (i:Nat)/\a<=64/\B (a=(TY (LY lo R) i).length)/\B (F0 W wr))
 case atStart=>exact⟨0,0,by omega,rfl,rfl,rfl,rfl,by omega,rfl,Zt⟩
 obtain⟨i,a0,x7,rfl,rfl,rfl,rfl,S6,t0,O⟩:=hrel;obtain⟨y1,y2,z,_⟩:=N.o wr O.o;obtain⟨la,lc,h2,_⟩:=z.c2;rw[HN.o]at h2;by_cases h0:i<n/\lo=false
 ·obtain⟨h0,rfl⟩:=h0
  simp only[LY]at t0 g0 N s0
  have i0:(i:Int)<(n:Int):=by omega
  go_wp2_with fail
  go_loopg [6,7,13] (n-(i+1)) (fun mm av bv kv wx=>∃j k a:Nat,k<=n/\mm=n-k/\av=U E (a:Nat)/\bv=H true/\kv=U E (k:Nat)/\a<=64/\B (k=i+1+j)/\B (a=(TY R i++T6 R i j).length)/\B (F0 W wx))
  case atStart=>exact⟨0,i+1,a0,by omega,rfl,rfl,rfl,by go_num,S6,rfl,by show _=_;rw[t0.o];simp[T6],O⟩
  obtain⟨j,k,a,y7,rfl,rfl,rfl,rfl,ha,HK,HA,v0⟩:=hrel;generalize wr=wx at*;obtain⟨y1,y2,z,j0⟩:=N.o wx v0.o;obtain⟨la,lc,h2,h3⟩:=z.c2;rw[HN.o]at h2;by_cases z7:k<n
  ·have V6:(k:Int)<(n:Int):=by omega
   obtain⟨r,hr⟩:∃r,R[i]?=I r:=⟨_,gE (show i<R.length by have:=HN.o;omega)⟩;obtain⟨s,hs⟩:∃s,R[k]?=I s:=⟨_,gE (show k<R.length by have:=HN.o;omega)⟩;have d:B (R[i]?=I r/\R[k]?=I s):=⟨hr,hs⟩;have W6:=Za (JM wx q rts R i k r s z f.o.1 hr hs);go_wp2_with fail;refine W6.o.mono ?_;rintro e w2 ⟨rfl,X6⟩;have w0:=Za (v0.o.trans X6)
   cases E4:vD r s with
   |false=>
    have b0:B (a=(TY R i++T6 R i (j+1)).length):=by
     have e0:Ra (Ud r) (Ud s)=J:=by
      cases hy:Ra (Ud r) (Ud s)with
      |none=>rfl
      |some y=>
       have:=(DG (f.o.1.rl r (mG d.o.1)) (f.o.2 r (mG d.o.1)) (f.o.2 s (mG d.o.2))).2 ⟨y,hy⟩;rw[E4]at this
       cases this
     have e1:G1 R i (i+1+j)=[]:=by
      have e:=d.o.2;rw[HK.o]at e;simp only[G1,d.o.1,e,e0]
     show _=_
     rw[HA.o,show T6 R i (j+1)=T6 R i j++G1 R i (i+1+j)from rfl,e1,y9]
    go_wp2_with fail;go_roundg (n-(k+1))
    case measure=>omega
    exact⟨j+1,k+1,a,by omega,rfl,rfl,rfl,by go_num,ha,by show _=_;have:=HK.o;omega,b0,w0⟩
   |true=>
    obtain⟨y,hy⟩:=(DG (f.o.1.rl r (mG d.o.1)) (f.o.2 r (mG d.o.1)) (f.o.2 s (mG d.o.2))).1 E4;obtain⟨p,hp⟩:∃p,TF y.1=p:=⟨_,rfl⟩;have x0:=xR d.o.1 (by rw[<-HK.o];exact d.o.2) hy;rw[<-HA.o,hp]at x0;have t:=Gi (f.o.1.rl r (mG d.o.1)) (f.o.2 r (mG d.o.1)) hy;rw[hp]at t;have y0:=Za t
    have Z6:p.pan.size<=maxLen:=by
     have e:=t.1;unfold Y6 XT at e;simp only[Bool.and_eq_true,decide_eq_true_eq]at e;unfold maxLen;omega
    have q0:XT p.pan=true:=by
     have e:=t.1;unfold Y6 at e;simp only[Bool.and_eq_true]at e;exact e.1.1
    have A7:a<C:=by have:=(iG.1 x0).1;have:=g0.o;omega
    have b0:B (a+1=(TY R i++T6 R i (j+1)).length):=by
     have e:=d.o.2;rw[HK.o]at e
     have e1:G1 R i (i+1+j)=[(r.name,s.name,TF y.1)]:=by simp only[G1,d.o.1,e,hy]
     show _=_
     rw[HA.o,show T6 R i (j+1)=T6 R i j++G1 R i (i+1+j)from rfl,e1];simp[Nat.add_assoc]
    obtain⟨y1,y2,z,j0⟩:=N.o w2 w0.o;obtain⟨la,lc,h2,h3⟩:=z.c2;rw[HN.o]at h2;obtain⟨g,ma,mc,ca,cc,pa,pc,rfl,c0,a7,b7,_⟩:=h3 i r d.o.1;obtain⟨g',c7,d7,e7,f7,g7,i7,e,u,F4,G4,_⟩:=h3 k s d.o.2;injection e with e;injection e with e _ _;subst e;obtain⟨og,e,A⟩:=yu j0 g0.o x0;subst e;have o0:w2.cell? ⟨og,a*6,J⟩=I (Z r.name):=A 0 _ rfl;have o1:=A 1 _ rfl;have o2:=A 2 _ rfl;have o3:=A 3 _ rfl;have o4:=A 4 _ rfl;have o5:=A 5 _ rfl;have u0:w2.cell? ⟨g,i*13,J⟩=I (Z r.name):=c0 0 _ rfl;have u1:w2.cell? ⟨g,k*13,J⟩=I (Z s.name):=u 0 _ rfl
    have B7:(a:Int)<(C:Int):=by omega
    have C7:decide ((C:Int)<=(a:Int))=false:=by simp;omega
    have j7:B (∀b,y8 G 86 #[j3 #[Z p.pan,U E p.mcc,U E p.am,U E p.cur]] b fun e w'=>e=M (H true)/\F0 b w'):=fun b=>by have e:=Pd b p Z6;rw[y0.o.1]at e;exact e
    have d0:B (∀P b,b.heap[P]?=I (Rz p)->F0 w2 b->b.cell? ⟨X,1,J⟩=I (Y (I ⟨q,0,J⟩))/\b.cell? ⟨q,2,J⟩=I (V (I ⟨g,0,J⟩) n lc)/\b.cell? ⟨P,0,J⟩=I (Z p.pan)/\b.cell? ⟨P,1,J⟩=I (U E p.mcc)/\b.cell? ⟨P,2,J⟩=I (U E p.am)/\b.cell? ⟨P,3,J⟩=I (U E p.cur)):=fun P b hP l=>⟨l.get y1,l.get h2,Zc hP 0,Zc hP 1,Zc hP 2,Zc hP 3⟩
    have k7:B (∀b,F0 w2 b->y8 G 87 #[Y (I ⟨g,i*13,J⟩),j3 #[Z p.pan,U E p.mcc,U E p.am,U E p.cur]] b fun e w'=>e=M (H true)/\F0 b w'):=fun b l=>by
     have e:=Qp b g (i*13) r ma mc ca cc pa pc rts.length p (fun j v hv=>l.get (c0 j v hv)) (a7.fr l) (b7.fr l) (f.o.1.rl r (mG d.o.1)) q0;rw[y0.o.2.1]at e;exact e
    have l7:B (∀b,F0 w2 b->y8 G 87 #[Y (I ⟨g,k*13,J⟩),j3 #[Z p.pan,U E p.mcc,U E p.am,U E p.cur]] b fun e w'=>e=M (H true)/\F0 b w'):=fun b l=>by
     have e:=Qp b g (k*13) s c7 d7 e7 f7 g7 i7 rts.length p (fun j v hv=>l.get (u j v hv)) (F4.fr l) (G4.fr l) (f.o.1.rl s (mG d.o.2)) q0;rw[y0.o.2.2]at e;exact e
    go_upto_region 24 with fail
    go_quiet (fail)
    have f0:B (F0 w2 (w2.drewN nq)):=⟨rfl,rfl,rfl,y6 _,fun _ _ _=>rfl⟩;have v2:=f0.o.get o2;have v3:=f0.o.get o3;have v4:=f0.o.get o4;have v5:=f0.o.get o5;generalize w2.drewN nq=w3 at*;go_upto_region 27 with fail;generalize hP:w3.alloc _=w4 at*;have H4:=Za (f0.o.trans (F2 hP));have z0:=Za (B1 hP);obtain⟨P,m7⟩:∃P,w3.heap.size=P:=⟨_,rfl⟩;rw[m7]at z0 ⊢;obtain⟨_,_,p0,p1,p2,p3⟩:=d0.o P w4 z0.o H4.o;go_wp2_with fail;refine(j7.o _).mono ?_;rintro e w5 ⟨rfl,I4⟩;have k0:=Za (H4.o.trans I4);have A0:=Za (I4.whole z0.o)
    have n7:B (∀b,B (F0 w5 b)->y8 G 87 #[Y (I ⟨g,i*13,J⟩),j3 #[Z p.pan,U E p.mcc,U E p.am,U E p.cur]] b fun e w'=>e=M (H true)/\B (F0 w5 w')/\w'.cell? ⟨X,1,J⟩=I (Y (I ⟨q,0,J⟩))/\w'.cell? ⟨q,2,J⟩=I (V (I ⟨g,0,J⟩) n lc)/\w'.cell? ⟨P,0,J⟩=I (Z p.pan)/\w'.cell? ⟨P,1,J⟩=I (U E p.mcc)/\w'.cell? ⟨P,2,J⟩=I (U E p.am)/\w'.cell? ⟨P,3,J⟩=I (U E p.cur)):=fun b l=>(k7.o b (k0.o.trans l.o)).mono (by
     rintro e w' ⟨he,h4⟩;have h5:=l.o.trans h4
     exact⟨he,h5,d0.o P w' (h5.whole A0.o) (k0.o.trans h5)⟩)
    have hS:=d0.o P w5 A0.o k0.o;have o7:B (F0 w5 w5.drew):=Zt.drew;go_upto_region 30 with fail
    go_region_held3 (fun b=>b.cell? ⟨X,1,J⟩=I (Y (I ⟨q,0,J⟩))/\b.cell? ⟨q,2,J⟩=I (V (I ⟨g,0,J⟩) n lc)/\b.cell? ⟨P,0,J⟩=I (Z p.pan)/\b.cell? ⟨P,1,J⟩=I (U E p.mcc)/\b.cell? ⟨P,2,J⟩=I (U E p.am)/\b.cell? ⟨P,3,J⟩=I (U E p.cur)) (first|assumption|go_keep) (first
     |(go_at_call 87;refine(n7.o _ (by assumption)).mono ?_;rintro e w7 ⟨rfl,l0,D7⟩))
    have m0:=Za (k0.o.trans l0.o);have J4:=Za (l0.o.whole A0.o)
    have p7:B (∀b,B (F0 w7 b)->y8 G 87 #[Y (I ⟨g,k*13,J⟩),j3 #[Z p.pan,U E p.mcc,U E p.am,U E p.cur]] b fun e w'=>e=M (H true)/\B (F0 w7 w')/\w'.cell? ⟨X,1,J⟩=I (Y (I ⟨q,0,J⟩))/\w'.cell? ⟨q,2,J⟩=I (V (I ⟨g,0,J⟩) n lc)/\w'.cell? ⟨P,0,J⟩=I (Z p.pan)/\w'.cell? ⟨P,1,J⟩=I (U E p.mcc)/\w'.cell? ⟨P,2,J⟩=I (U E p.am)/\w'.cell? ⟨P,3,J⟩=I (U E p.cur)):=fun b l=>(l7.o b (m0.o.trans l.o)).mono (by
     rintro e w' ⟨he,h4⟩;have h5:=l.o.trans h4
     exact⟨he,h5,d0.o P w' (h5.whole J4.o) (m0.o.trans h5)⟩)
    have hS:=d0.o P w7 J4.o m0.o;have o7:B (F0 w7 w7.drew):=Zt.drew;go_upto_region 31 with fail
    go_region_held3 (fun b=>b.cell? ⟨X,1,J⟩=I (Y (I ⟨q,0,J⟩))/\b.cell? ⟨q,2,J⟩=I (V (I ⟨g,0,J⟩) n lc)/\b.cell? ⟨P,0,J⟩=I (Z p.pan)/\b.cell? ⟨P,1,J⟩=I (U E p.mcc)/\b.cell? ⟨P,2,J⟩=I (U E p.am)/\b.cell? ⟨P,3,J⟩=I (U E p.cur)) (first|assumption|go_keep) (first
     |(go_at_call 87;refine(p7.o _ (by assumption)).mono ?_;rintro e w9 ⟨rfl,l0,E7⟩))
    have q7:=Za (w0.o.trans (m0.o.trans l0.o));go_wp2_with fail;go_roundg (n-(k+1))
    case measure=>omega
    exact⟨j+1,k+1,a+1,by omega,rfl,by go_num,rfl,by go_num,by omega,by show _=_;have:=HK.o;omega,b0,q7⟩
  have V6:¬(k:Int)<(n:Int):=by omega
  have b0:B (a=(TY R (i+1)).length):=by
   show _=_
   rw[HA.o,show TY R (i+1)=TY R i++T6 R i (R.length-(i+1))from rfl,HN.o,show n-(i+1)=j from by have:=HK.o;omega]
  go_wp2_with fail;go_roundg (n-(i+1))
  case measure=>omega
  exact⟨i+1,a,by omega,rfl,rfl,rfl,by go_num,ha,b0,v0⟩
 have r7:i<n/\lo=true\/¬i<n:=by cases lo<;>simp at h0 ⊢<;>omega
 obtain rfl:a0=C:=by
  rw[t0.o,<-g0.o]
  cases lo with
  |true=>show(TY [] i).length=0;rw[DW];rfl
  |false=>rw[show i=n by simp at h0;omega,<-HN.o];rfl
 have HT:B (y8 G 88 #[Y (I ⟨L,0,J⟩),V oa a0 oc] wr fun e w'=>e=M (.tuple #[])/\(∃F K m,O0 w c w' L v nv F mv K (x+1) xs es m/\m.length=fs.length+4/\∀e,e∈m->e∈fs\/e.n<=8796093022208)/\SK [1,5,6,8,9,10] c w w'):=by
  obtain⟨c2,K4,s7⟩:=Q6.o;obtain⟨D,t7⟩:=HC.o;obtain⟨_,_,_,j0⟩:=N.o wr O.o;have F7:=(iA.1 HS.o.bx).1;have L4:=D.trans K4 C4.o.size;have M4:SK [1,5,6,8,9,10] c w wr:=SK.cls (c1:=c) (SK.cls (c1:=c1) (C4.o.mono) D P6.o fun k hk=>by rw[hk,D X D4.o.1,D4.o.2];decide) (Wz.refl _ _) (S:=fun _=>False) O.o (by simp);refine(EP c2 wr L v nv ov mv kv x xs es fs oa a0 oc _ (s7.keep O.o (Wz.refl _ _)) (oS j0 (by omega)) (fun k hk=>(K4 k (s0.o.lt k hk).2).trans (t7 k hk)) (fun e he k hk g e1 e2=>?_) B4.o.1 B4.o.2 (by omega)).mono ?_
  ·obtain⟨g',k1,_,cs,k3,_⟩:=HS.o.o.el e (by simpa using he) k hk
   rw[k1]at e1;injection e1 with e1;injection e1 with e1;have:=(iA.1 k3).1;have:=(s0.o.lt g e2).1;omega
  rintro e w' ⟨he,F,K,m,⟨c',q1,q2⟩,q3,q4,q5⟩
  exact⟨he,⟨F,K,m,⟨c',L4.trans q1 M4.size,q2⟩,q3,q4⟩,M4.cls L4 q5 fun k hk=>by revert hk;simp;omega⟩
 rcases r7 with⟨i0,rfl⟩|i0
 case' inl=>have i0:(i:Int)<(n:Int):=by omega
 case' inr=>have i0:¬(i:Int)<(n:Int):=by omega
 all_goals
  go_wp2_with fail;refine HT.o.mono ?_;rintro e w7 ⟨rfl,h7,h8⟩;have H7:=Za (z9 h7 h8);go_wp2_with fail;go_ret;exact⟨rfl,H7.o⟩
def uJ (lo:Bool)(b:q0)(X T q:Nat)(a:Value)(R:List Ze)(i:Nat)(c:Value)(wr:q0):Prop:=
 wr.heap[X]?=I (Q #[Y (I ⟨T,0,J⟩),Y (I ⟨q,0,J⟩),H lo,H false,c,a] 97)/\wr.ownsRow b.heap.size 35 4 c ((Uw R).take i).length (XU ((Uw R).take i))/\Fr (fun k=>k=X) b wr
theorem uJ.more {lo c wr d X T q i g2 a g h b R p o}(s:wr.heap[X]?=I (Q #[Y (I ⟨T,0,J⟩),Y (I ⟨q,0,J⟩),H lo,H false,V h i g,b] 97))(l:wr.ownsRow c.heap.size 35 4 (V h i g) i (XU ((Uw R).take i)))(t:Fr (fun k=>k=X) c wr)(m:(Uw R)[i]?=I p)(w:X<c.heap.size)(u:(wr.drew.alloc o).grownBy d (y7 h i g).ownBlock)(f:d.ownsRow c.heap.size 35 4 (V (I ⟨g2,0,J⟩) (i+1) a) (i+1) (XU ((Uw R).take i)++[Z p.pan,U E p.mcc,U E p.am,U E p.cur])):
  d.heap[X]?=I (Q #[Y (I ⟨T,0,J⟩),Y (I ⟨q,0,J⟩),H lo,H false,V h i g,b] 97)/\uJ lo c X T q b R (i+1) (V (I ⟨g2,0,J⟩) (i+1) a) (d.setCell ⟨X,4,J⟩ (V (I ⟨g2,0,J⟩) (i+1) a)):=by
 have n:=(((Fr.refl _ wr).drew).alloc o).grown u fun k j=>z8 j
 have r:=n.whole s fun e=>by have:=(l.lt X e).1;omega
 have hi:=(iG.1 m).1;have e:=heap_setCell_same d X 4 _ _ (V (I ⟨g2,0,J⟩) (i+1) a) r;refine⟨r,by simpa using e,?_,(t.monoNew n fun k j=>x9 (l.lt k j).1).trans (Tx _ 4)⟩
 have v:((Uw R).take (i+1)).length=i+1:=by rw[j0];omega
 rw[v,show XU ((Uw R).take (i+1))=XU ((Uw R).take i)++[Z p.pan,U E p.mcc,U E p.am,U E p.cur]from by rw[List.take_add_one,m];simp[XU]]
 exact oF f (Tx _ 4) fun k j=>by omega
theorem Ib (c w L v nv ov mv kv t xs es fs X)(h:RF c w L v nv ov mv kv t xs es fs)(hX:X∈xs)(ht:QS w)(hc:t<=4611686018427387904)(hE:(fs.length+4)*24<=140737488355328):
  y8 G 47 #[Y (I ⟨L,0,J⟩),Y (I ⟨X,0,J⟩)] w fun e w'=>e=M (H true)/\(∃N0 P0 n0,O0 w c w' L v nv N0 mv P0 (t+1) xs es n0/\n0.length=fs.length+4/\∀e,e∈n0->e∈fs\/e.n<=8796093022208)/\SK [1,5,6,8,9,10] c w w':=by
 obtain⟨ij,Q0,S0,T0,V0⟩:=info_parts RT;obtain⟨T,q,rts,R0,lo,f,O,g,h0,hx,C0,z,o0,e0,_⟩:=(h.tb X hX).now;obtain⟨R,hR⟩:∃R,LY lo R0=R:=⟨_,rfl⟩
 have p0:R.length<=8:=by rw[<-hR];have:=h0.bk.l8;cases lo<;>simp[LY];omega
 have HR:=Za hR;rw[hR]at z e0;have HS:=Za h;have W0:=Za o0;have D0:=Za h0;have HX:=Za hx;have q0:=Za C0;have r0:=Za z;have X0:=Za e0;have Y0:=Za (z9 hc hE);have i0:=Za ((o0 w Zt).1.overlaps ht);rw[hR]at i0;have x0:=Zc hx 0;obtain⟨d,f0⟩:∃d,(TZ R).length=d:=⟨_,rfl⟩;have A:=Za f0;obtain⟨n,hn⟩:∃n,R0.length=n:=⟨_,rfl⟩;have HN:=Za hn
 have z1:n<=8:=by have:=h0.bk.l8;omega
 have Z0:d<=64:=by
  have:=Ne R R.length;have e3:=j1 p0 p0;unfold TZ at f0;omega
 rw[f0]at i0
 have s0:B ((Uw R).length=d):=by show _=_;rw[Uw,x6];exact f0
 clear h hX ht hc hE h0 hx C0 z o0 e0 f0 hn hR p0;go_enter Tryz.func47,Tryz.ntmps47;go_wp2_with fail;refine i0.o.mono ?_;rintro e r ⟨⟨lv,rfl,j⟩,v0⟩;obtain⟨oa,oc,e⟩:=oL j;subst e;have w0:=Za j;have u:=Za v0
 have E0:B (∃c1,Wz w c c1/\Cl c1 (V oa d oc) 8/\RF c1 r L v nv ov mv kv t xs es fs):=by
  have ha:Wz w c fun k=>if(y7 oa d oc).ownBlock=I k then 8 else c k:=fun k hk=>if_neg fun e=>by have:=(j.lt k e).1;omega
  exact⟨_,ha,fun k hk=>if_pos hk,HS.o.keep v0 ha⟩
 obtain⟨c1,G0⟩:=E0.o;have HC:=Za G0;clear E0 G0 j v0 i0 x0
 have H0:B (f=true->∃ta tc b,O=V ta d tc/\∀W,F0 r W->W.ownsRow b 35 4 (V ta d tc) d (XU (Uw R))):=fun e=>by
  subst e;obtain⟨_,b,s⟩:vZ c w 10 35 4 O (Uw R).length (XU (Uw R)):=r0.o.1;rw[s0.o]at s;obtain⟨ta,tc,e⟩:=oL s;subst e;exact⟨ta,tc,b,rfl,fun W hf=>oF s (u.o.trans hf)⟩
 have C:B (∀W,F0 r W->W.heap[X]?=I (Q #[Y (I ⟨T,0,J⟩),Y (I ⟨q,0,J⟩),H lo,H f,O,g] 97)/\W.ownsRow w.heap.size 44 6 (V oa d oc) d (XF (TZ R))):=fun W hf=>⟨(u.o.trans hf).whole HX.o,oF w0.o hf⟩
 go_upto_region 3 with fail
 go_cut [7] (fun bv wz=>bv=H true/\wz=r)
 case first=>
  have c0:=(C.o r Zt).1;have x3:=Zc c0 3;have x4:=Zc c0 4;clear c0
  cases f with
  |true=>
   obtain⟨ta,tc,b,rfl,_⟩:=H0.o rfl;go_wp2_with fail;go_meet;exact⟨rfl,rfl⟩
  |false=>
   go_wp2_with fail;go_meet;exact⟨rfl,rfl⟩
 case rest=>
 obtain⟨rfl,hw⟩:=hcut;replace hw:=hw.symm;subst hw
 go_upto_block 0 with fail
 go_cut [7] (fun bv wz=>bv=H true/\B (F0 r wz))
 case first=>
  cases f with
  |true=>
   obtain⟨ta,tc,b,rfl,s⟩:=H0.o rfl;have I0:=Za s;clear s;go_wp2_with fail
   go_loopg [7,8] d (fun m bv iv wr=>∃i,i<=d/\m=d-i/\bv=H true/\iv=U E (i:Nat)/\B (F0 r wr))
   case atStart=>exact⟨0,q9 _,rfl,rfl,rfl,Zt⟩
   obtain⟨i,hi,rfl,rfl,rfl,k0⟩:=hrel;obtain⟨r3,r2⟩:=C.o wr k0.o;have r1:=I0.o wr k0.o;have x3:=Zc r3 3;by_cases d1:i<d
   ·have y0:(i:Int)<(d:Int):=by omega
    obtain⟨x,hx⟩:∃x,(TZ R)[i]?=I x:=⟨_,gE (by have:=A.o;omega)⟩;obtain⟨n1,n2,p⟩:=x;obtain⟨tg,e,_⟩:=JO r1 s0.o (show(Uw R)[i]?=I p by rw[Uw,F,hx];rfl);subst e;obtain⟨og,e,l⟩:=yu r2 A.o hx;subst e;have o2:=l 2 _ rfl;have o3:=l 3 _ rfl;have o4:=l 4 _ rfl;have o5:=l 5 _ rfl
    have z0:B ((Uw R)[i]?=I p):=by rw[Uw,F,hx];rfl
    clear l r1 r2 r3 hx;go_upto_region 8 with fail;clear x3 o2 o3 o4 o5;generalize hA:wr.alloc _=WA at*;have A0:=Za (k0.o.trans (F2 hA));have J0:=Za (B1 hA);obtain⟨PA,K0⟩:∃PA,wr.heap.size=PA:=⟨_,rfl⟩;rw[K0]at J0 ⊢;obtain⟨r3,r2⟩:=C.o WA A0.o;have r1:=I0.o WA A0.o;have x4:=Zc r3 4;obtain⟨A1,e,t0,t1,t2,t3⟩:=JO r1 s0.o z0.o;injection e with e;injection e with e _ _;subst e;clear hA K0 r1 r2 r3;go_upto_region 9 with fail;clear x4 t0 t1 t2 t3;generalize hB:WA.alloc _=WB at*;have f1:=Za (A0.o.trans (F2 hB));have hb:=B1 hB;have ha:=F4 hB J0.o;have a0:=Zc ha 0;have a1:=Zc ha 1;have a2:=Zc ha 2;have a3:=Zc ha 3;have b0:=Zc hb 0;have b1:=Zc hb 1;have b2:=Zc hb 2;have b3:=Zc hb 3;clear ha hb hB;go_wp2_with fail;go_roundg (d-(i+1))
    case measure=>omega
    exact⟨i+1,by omega,rfl,rfl,by go_num,f1⟩
   have y0:¬(i:Int)<(d:Int):=by omega
   clear r1 r2 r3;go_wp2_with fail;go_meet;exact⟨rfl,k0⟩
  |false=>
   have c0:=(C.o r Zt).1;have x3:=Zc c0 3;clear c0;go_wp2_with fail
   go_loopg [7,8] 0 (fun _ bv iv wr=>bv=H true/\iv=U E 0/\B (wr=r))
   case atStart=>exact⟨rfl,rfl,rfl⟩
   obtain⟨rfl,rfl,HW⟩:=hrel;have e:=HW.o;subst e;go_wp2_with fail;go_meet;exact⟨rfl,Zt⟩
 case rest=>
 obtain⟨rfl,d0⟩:=hcut;generalize wc=w2 at*;have x3:=bC (C.o w2 d0.o).1 3 _ rfl
 go_upto_if 96 with fail
 go_cut [] (fun wz=>B (Fr (fun k=>k=X) r wz)/\B (O0 r c1 wz L v nv ov mv kv t xs es fs)/\B (∃a2 t2,wz.heap[X]?=I (Q #[Y (I ⟨T,0,J⟩),Y (I ⟨q,0,J⟩),H lo,H a2,t2,g] 97)))
 case first=>
  clear x3
  cases f with
  |true=>
   have y:B (Fr (fun k=>k=X) r w2/\O0 r c1 w2 L v nv ov mv kv t xs es fs):=⟨d0.o.mono,c1,Wz.refl _ _,HC.o.2.2.keep d0.o (Wz.refl _ _)⟩;go_wp2_with fail;go_meet;exact⟨y.o.1,y.o.2,_,_,(C.o w2 d0.o).1⟩
  |false=>
   obtain rfl:O=V J 0 0:=r0.o.1;have g1:B (uJ lo r X T q g R 0 (V J 0 0) w2):=⟨(C.o w2 d0.o).1,oZ _ _ _ _,d0.o.mono⟩;go_wp2_with fail
   go_loopg [11] d (fun m iv wr=>∃i tv,i<=d/\m=d-i/\iv=U E (i:Nat)/\B (uJ lo r X T q g R i tv wr))
   case atStart=>exact⟨0,_,q9 _,rfl,rfl,g1⟩
   obtain⟨i,tv,hi,rfl,rfl,HM⟩:=hrel;by_cases d1:i<d
   ·have y0:(i:Int)<(d:Int):=by omega
    obtain⟨x,hx⟩:∃x,(TZ R)[i]?=I x:=⟨_,gE (by have:=A.o;omega)⟩;obtain⟨n1,n2,p⟩:=x
    have z0:B ((Uw R)[i]?=I p):=by rw[Uw,F,hx];rfl
    obtain⟨m1,m2,m3⟩:=HM.o
    have m0:((Uw R).take i).length=i:=by rw[j0,Uw,x6,A.o];omega
    rw[m0]at m2;obtain⟨ta,tc,e⟩:=oL m2;subst e;have m4:=oF w0.o m3 (fun k hk=>by have:=(iA.1 HX.o).1;omega);obtain⟨og,e,l⟩:=yu m4 A.o hx;subst e;have l0:=Za (z9 m2 m3);have i1:=Za m1;have x4:=Zc m1 4;have o2:=l 2 _ rfl;have o3:=l 3 _ rfl;have o4:=l 4 _ rfl;have o5:=l 5 _ rfl
    have y4:∀o,(wr.alloc o).cell? ⟨X,4,J⟩=I (V ta i tc):=fun o=>(World.cell?_alloc_some wr ⟨X,4,J⟩ o (by simp[x4])).trans x4
    clear l hx m1 m2 m3 m4 m0;go_upto_region 14 with fail;refine wp_region_held_drew (S:=fun _=>True) (by kernel_rfl) trivial (fun P=>?_)
    iterate 4 (refine YP 0 P ?_;try go_frame)
    iterate 4 ((first|refine YP 0 P ?_|refine YP 1 P ?_);try go_frame)
    refine XC [4,9] ?_;refine Zb rfl (fun K a=>?p1) (Zb rfl (fun K a=>?p2) AllReadyH.nil)
    case' p1=>
     try rw[if_pos (by rfl)]
     go_simp;refine a.out _ _ P (fun _=>?_);clear a K
     try go_frame
     refine Vy 9 (fun K a=>?_);go_simp;refine a.out _ _ P (fun _=>?_);clear a K
     try go_frame
     refine Vy 10 (fun K a=>?_);go_simp;refine a.out _ _ trivial (fun P=>?_);clear a K
     try go_frame
    case' p2=>
     try rw[if_pos (by rfl)]
     go_simp;refine a.out _ _ P (fun _=>?_);clear a K
     try go_frame
     refine XC [4,10] ?_;refine Zb rfl (fun K a=>?p3) (Zb rfl (fun K a=>?p4) AllReadyH.nil)
    case' p3=>
     try rw[if_pos (by rfl)]
     go_simp;refine a.out _ _ P (fun _=>?_);clear a K
     try go_frame
     refine Vy 10 (fun K a=>?_);go_simp;refine a.out _ _ trivial (fun P=>?_);clear a K
     try go_frame
    case' p4=>
     try rw[if_pos (by rfl)]
     go_simp;refine a.out _ _ trivial (fun P=>?_);clear a K
     try go_frame
     refine Vy 4 (fun K a=>?_);have z4:=y4;go_simp;refine a.out _ _ P (fun _=>?_);clear a K z4
     try go_frame
    all_goals
     refine Vy 11 (fun K a=>?_);refine wp_append_lies _ (.tmp 107) (.tmp 113) 94 rfl r.heap.size 35 ij _ 4 40 Tryz.underlying94 Q0 S0 T0 V0 rfl (by decide) (V ta i tc) i (XU ((Uw R).take i)) rfl ?h1 ⟨wr.drew.heap.size,0,J⟩ 1 1 [Z p.pan,U E p.mcc,U E p.am,U E p.cur] rfl rfl ?h2 ?h3 (by decide) ?h4 ?h5 ?h6 _ rfl ?h7
     case h1=>exact(oF l0.o.1 ((Fr.refl (fun _=>False) wr).drew)).alloc _
     case h2=>exact N (aN wr.drew (Q #[Z p.pan,U E p.mcc,U E p.am,U E p.cur] 35))
     case h3=>simp[z7]
     case h4=>unfold maxLen;omega
     case h5=>omega
     case h6=>have:=l0.o.2.size;simp;exact Nat.le_succ_of_le this
     intro g2 y1 w8 j g0 k1 _;obtain⟨B0,L0⟩:=uJ.more i1.o l0.o.1 l0.o.2 z0.o (nL (iA.1 HX.o).1 u.o.size) g0 j;have l1:=Za L0;have e4:=Zc B0 4;have f4:=bF B0 4;clear j g0 k1 L0 B0;refine a.out _ _ trivial (fun P=>?_);clear a K
     try go_frame
     iterate 2 (refine YP 0 P ?_;try go_frame)
     refine Vy 14 (fun K a=>?_);go_simp;refine a.out _ _ trivial (fun P=>?_);clear a K
     try go_frame
     refine wpAnyH_done (by kernel_rfl) ?_ _;clear e4 f4;go_wp2_with fail;go_roundg (d-(i+1))
     case measure=>omega
     exact⟨i+1,_,by omega,rfl,by go_num,l1⟩
   have y0:¬(i:Int)<(d:Int):=by omega
   obtain rfl:i=d:=by omega
   obtain⟨m1,m2,m3⟩:=HM.o;have e3:=Zc m1 3;have f3:=bF m1 3
   have y:B (Fr (fun k=>k=X) r (wr.setCell ⟨X,3,J⟩ (H true))/\O0 r c1 (wr.setCell ⟨X,3,J⟩ (H true)) L v nv ov mv kv t xs es fs):=by
    have hf:Fr (fun k=>k=X) r (wr.setCell ⟨X,3,J⟩ (H true)):=m3.trans (Tx _ 3)
    have ha:Wz r c1 fun k=>if tv.ownBlock=I k then 10 else c1 k:=fun k hk=>if_neg fun e=>by have:=(m2.lt k e).1;omega
    have M0:=(iA.1 HX.o).1;refine⟨hf,_,ha,HC.o.2.2.tells ((HC.o.1 X M0).trans q0.o) hf ha ?_⟩;have e:=heap_setCell_same wr X 3 _ _ (H true) m1;refine X0.o _ _ true tv g ((u.o.mono).trans hf) (HC.o.1.trans ha u.o.size) (by simpa using e) ⟨⟨fun k hk=>if_pos hk,r.heap.size,?_⟩,r0.o.2.imp id fun⟨D,e1,e2⟩=>⟨D,e1,(e2.keep (u.o) HC.o.1 (by simp)).keep hf ha fun k hk=>?_⟩⟩
    ·have hl:(Uw R).length=i:=by rw[Uw,x6];exact A.o
     rw[x7 (by omega)]at m2;exact oF m2 (Tx _ 3) (fun k hk=>by have:=u.o.size;omega)
    rw[hk,HC.o.1 X M0,q0.o]
    decide
   have o1:B ((wr.setCell ⟨X,3,J⟩ (H true)).heap[X]?=I (Q #[Y (I ⟨T,0,J⟩),Y (I ⟨q,0,J⟩),H lo,H true,tv,g] 97)):=by
    have e:=heap_setCell_same wr X 3 _ _ (H true) m1
    show _=_
    simpa using e
   clear m1 m2 m3;go_wp2_with fail;go_meet;exact⟨y.o.1,y.o.2,_,_,o1.o⟩
 clear x3;obtain⟨q1,s1,v1⟩:=hcut;generalize wc=W at*;obtain⟨a2,t2,x1⟩:=v1.o
 apply_assumption
 exact BS c c1 w r W L v nv ov mv kv t xs es fs X T q rts R0 lo oa d oc n a2 t2 g HS.o ⟨D0.o.bk,D0.o.ar⟩ (iA.1 HX.o).1 q0.o Y0.o (fun W hf=>by obtain⟨_,_,_,h⟩:=W0.o W hf;exact Sm.of h) (by rw[HR.o];exact w0.o) u.o ⟨HC.o.1,HC.o.2.1⟩ q1.o s1.o x1 (by rw[HR.o];exact A.o) HN.o ..

def Ln (w:q0)(A:Nat)(b:List ByteArray):Prop:=
 ∃a:Array Value,w.heap[A]?=I (Q a 9)/\a.size=b.length+2/\(∀(k:Nat)(s:ByteArray),b[k]?=I s->a[k]?=I (z6 s))/\a[b.length]?=I (z6 ⟨#[98,101,104,105,110,100]⟩)/\a[b.length+1]?=I (z6 ⟨#[105,116]⟩)
theorem Ln.fr {w w' S A a}(h:Ln w A a)(b:Fr S w w')(c:¬S A:=by simp):Ln w' A a:=by
 obtain⟨d,e,f⟩:=h;exact⟨d,b.whole e c,f⟩
theorem Ln.strs {w A a}(h:Ln w A a):Yf w (I ⟨A,0,J⟩) a:=by
 intro k s b;obtain⟨e,c,_,d,_⟩:=h;exact⟨A,0,rfl,by rw[Nat.zero_add];exact bC c k _ (d k s b)⟩
theorem Ln.row {w A L a}(h:Ln w A a)(d:L<A)(e:a.length+2<=maxLen):∃f,w.ownsRow (L+1) 9 1 (V (I ⟨A,0,J⟩) (a.length+2) (a.length+2)) (a.length+2) f:=by
 obtain⟨b,g,c,_⟩:=h;exact⟨b.toList,by simp[c],.inr ⟨A,a.length+2,b,rfl,d,g,y6 _,e,by omega,by rw[x7 (by simp[c])]⟩⟩
theorem Ln.lay {W:q0}{A a b}(h:W.heap[A]?=I (Q (splice b 0 (a.map z6)).toArray 9))(j:b.length=a.length+2):
  Ln ((W.setCell ⟨A,a.length,J⟩ (Z ⟨#[98,101,104,105,110,100]⟩)).setCell ⟨A,a.length+1,J⟩ (Z ⟨#[105,116]⟩)) A a/\(∃u,W.cell? ⟨A,a.length,J⟩=I u)/\W.frozen? ⟨A,a.length,J⟩=false/\(∃u,(W.setCell ⟨A,a.length,J⟩ (Z ⟨#[98,101,104,105,110,100]⟩)).cell? ⟨A,a.length+1,J⟩=I u)/\(W.setCell ⟨A,a.length,J⟩ (Z ⟨#[98,101,104,105,110,100]⟩)).frozen? ⟨A,a.length+1,J⟩=false:=by
 obtain⟨e,c⟩:∃e,(splice b 0 (a.map z6)).toArray=e:=⟨_,rfl⟩
 have f:e.size=a.length+2:=by rw[<-c];simp[splice,j]
 have g:∀(k:Nat)(s:ByteArray),a[k]?=I s->e[k]?=I (z6 s):=fun k s d=>by
  have:=(iG.1 d).1;rw[<-c];simp[splice,List.getElem?_append,this];exact(iG.1 d).2
 rw[c]at h;have i:=heap_setCell_same W A a.length _ _ (Z ⟨#[98,101,104,105,110,100]⟩) h;have l:=heap_setCell_same _ A (a.length+1) _ _ (Z ⟨#[105,116]⟩) i;refine⟨⟨_,l,by simp[f],fun k s d=>?_,?_,?_⟩,⟨_,bC h _ _ (Array.getElem?_eq_getElem (by omega))⟩,bF h _,⟨_,bC i _ _ (Array.getElem?_eq_getElem (by simp;omega))⟩,bF i _⟩
 ·have:=(iG.1 d).1
  rw[Array.getElem?_setIfInBounds_ne (by omega),Array.getElem?_setIfInBounds_ne (by omega)];exact g k s d
 ·rw[Array.getElem?_setIfInBounds_ne (by omega),Array.getElem?_setIfInBounds_self_of_lt (by omega)]
 rw[Array.getElem?_setIfInBounds_self_of_lt (by simp;omega)]
def ua (o:Nat×ByteArray×ByteArray):Obj:=Q #[U E (o.1:Nat),Z o.2.1,Z o.2.2] 38
