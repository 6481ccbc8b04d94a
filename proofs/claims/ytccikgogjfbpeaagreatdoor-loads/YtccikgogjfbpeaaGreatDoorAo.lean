import Derived.Test.YtccikgogjfbpeaaGreatDoorAn
open Option renaming some->V,none->Z
open Go.Value renaming pointer->U,slice->O,int->H,bool->z6,slice->x5,agg->j6,agg->k5
open Go.IntKind renaming i64->G,i64->k6
open Go.Obj renaming cells->z2
open Go.World renaming putObj_heap_other->z3,putObj_heap_same->q8
open Go renaming World->z4,Value->q5,Calls->j9
open List renaming mem_flatMap->z5,mem_singleton->z9,mem_cons->y4,mem_append->y6,mem_iff_getElem?->y8,any_eq_true->x4,take_of_length_le->x6,mem_filter->x8,eq_nil_of_length_eq_zero->x9,length_eq_zero_iff->q6,filter_eq_nil_iff->q7,append_toArray->j2,mem_map->j3,push_toArray->j5,length_take->j7,cons_append->j8,nodup_cons->v5,nil_append->v6
open Go.RowKit renaming Hid->z7
open Go.Proofs.Tryz renaming prog->z8
open Go.Ending renaming returned->y5
open Nat renaming le_refl->y7,mul_le_mul_right->j0,le_trans->j4,mul_le_mul->v7,reduceSub->v8,zero_add->v9
open Bool renaming and_eq_true->y9,eq_iff_iff->v4
open Go.AllReadyH renaming nil->x7
open Or renaming inr->q9,inl->k4
namespace Go.Proofs.YtccikgogjfbpeaaGreatDoor
set_option maxRecDepth 30000
set_option maxHeartbeats 8000000
open Go.RowKit
def Xy (side:Nat)(A:SJ)(es:List Td):List Nat:=Sn (Y0 side (A.at side) es)
theorem Dy {g n c q}(h:g≠q):∀k,(x5 (V ⟨g,0,Z⟩) n c).ownBlock=V k->k≠q:=by
 intro k a
 have e:g=k:=by simpa[Value.ownBlock]using a
 rw[<-e];exact h
theorem Eg (w side A x0 x1 x2 x3 a c es)(hs:side<4)(h:PW w A x0 x1 x2 x3)(C0:A.at side≠[])(he:V5 w a es)(hl:es.length<=10)(hb:∀e,e∈es->∀s,s∈e.A.at side->s.1<=10000000000/\s.2<=10000000000):
  j9 z8 213 #[H G (side:Nat),j6 #[Xp x0 A.s0,Xp x1 A.s1,Xp x2 A.s2,Xp x3 A.s3],O a es.length c] w fun e w'=>(∃g cap,w.heap.size<=g/\e=y5 (O (V ⟨g,0,Z⟩) (Xy side A es).length cap)/\∀j n,(Xy side A es)[j]?=V n->w'.cell? ⟨g,j,Z⟩=V (H G (n:Nat)))/\F0 w w':=by
 obtain⟨ii,hi,D0,E0,G0⟩:=info_parts Y3;have HE:=Za he;have HB:=Za hb;have hc:=JP (t:=215) (aN w (z2 (Ru A x0 x1 x2 x3) 215)) hs;have H0:=(VA w (z2 #[Xp x0 A.s0,Xp x1 A.s1,Xp x2 A.s2,Xp x3 A.s3] 215)).1;unfold Ru at hc;obtain⟨l,F⟩:∃l,A.at side=l:=⟨_,rfl⟩;obtain⟨x,hx⟩:∃x,Hp x0 x1 x2 x3 side=x:=⟨_,rfl⟩
 have HS:z7 (RA w x.a l):=by have e:=h.at side;rw[F,hx]at e;exact e
 have HV:z7 (Xy side A es=Sn (Y0 side l es)):=by show _=_;unfold Xy;rw[F]
 have I0:z7 (l.length<=10):=by have e:=h.few side;rw[F]at e;exact e
 have J0:=Za hl
 have k0:z7 (∀e,e∈es->(e.A.at side).length<=10):=fun e hm=>by
  obtain⟨k,C,rfl⟩:=List.mem_iff_getElem.1 hm;exact(he k _ (gE C)).1.few side
 have X0:z7 (0<l.length):=by rw[F]at C0;exact List.length_pos_iff.2 C0
 rw[F,hx]at hc
 have K0:(side:Int)<4:=by omega
 unfold Xp at hc H0 ⊢;obtain⟨M,hM⟩:∃M,es.length=M:=⟨_,rfl⟩;have HM:=Za hM
 have I1:M<=10:=by omega
 rw[hM];go_enter Tryz.func213,Tryz.ntmps213;go_wp2_with fail;obtain⟨N,hN⟩:∃N,l.length=N:=⟨_,rfl⟩;rw[hN]at hc ⊢;have HN:=Za hN
 have J1:N<=10:=by have:=I0.o;omega
 go_loopg [7,9,11,16] N (fun m ov _ _ iv wr=>∃k,k<=N/\m=N-k/\iv=H G (k:Nat)/\z7 (wr.ownsRow w.heap.size 3 1 ov (Y0 side (l.take k) es).length (Zg (Y0 side (l.take k) es)))/\z7 (F0 w wr))
 case atStart=>exact⟨0,by omega,rfl,rfl,oZ _ _ _ _,H0⟩
 obtain⟨k,C,rfl,rfl,HO,l0⟩:=hrel;obtain⟨oa,oc,ho⟩:=oL HO.o;subst ho;obtain⟨T,U⟩:∃T,(Y0 side (l.take k) es).length=T:=⟨_,rfl⟩
 have L1:T<=2010:=by
  rw[<-U];have h1:=PY side es k0.o (l.take k)
  have h2:(l.take k).length<=10:=by rw[j7];have:=I0.o;omega
  have h3:=v7 (show 1+20*es.length<=201 by have:=J0.o;omega) h2;omega
 have X:=Za U;rw[U]at HO;rw[U];by_cases L0:k<N
 ·have K0:(k:Int)<(N:Int):=by omega
  have hx:=gE (show k<l.length by have:=HN.o;omega);obtain⟨g,o,ea,h1,h2⟩:=(HS.o.fr l0.o) k _ hx;have Z0:=Za (Eb side (es:=es) hx);generalize l[k]'(by have:=HN.o;omega)=s at*;obtain⟨lo,b⟩:=s
  dsimp only at h1 h2
  obtain⟨xa,xc⟩:=x
  dsimp only at ea
  subst ea;rw[show o+2*k=o+k*2 from by omega]at h1;rw[show o+2*k+1=o+k*2+1 from by omega]at h2;obtain⟨z,I⟩:=VA wr (z2 #[H G (lo:Int),H G (b:Int)] 118)
  have m0:z7 (∀k,(x5 oa T oc).ownBlock=V k->k≠wr.heap.size):=fun k C=>by have:=(HO.o.lt k C).2;omega
  go_upto_region 5 with fail;generalize wr.alloc _=w1 at*;obtain⟨q,hq⟩:∃q,wr.heap.size=q:=⟨_,rfl⟩;have HQ:=Za hq;rw[hq]at I m0;rw[hq];have z0:=Zc I.o 0;have z1:=Zc I.o 1;have M0:=Za (l0.o.trans z.o);have D:=Za (oF HO.o z.o)
  go_wp2_with (at_builtin;refine wpList_append_lies _ rfl (.tmp 20) (.tmp 23) 25 rfl w.heap.size 3 ii _ 1 8 Tryz.underlying25 hi D0 E0 G0 rfl (by decide) (O oa T oc) T (Zg (Y0 side (l.take k) es)) rfl ?h1 ⟨w1.heap.size,0,Z⟩ 1 1 [H G (lo:Nat)] rfl rfl ?h2 ?h3 (by decide) ?h4 ?h5 ?h6 _ rfl ?h7)
  case h1=>exact D.o.alloc _
  try case h2=>exact World.news_of_block (aN w1 (z2 #[H G (lo:Nat)] 3))
  case h3=>simp[Value.oneCell']
  case h4=>unfold maxLen;omega
  case h5=>omega
  case h6=>have:=M0.o.size;simp;omega
  intro g2 N0 w8 J d n0 _;have a1:=Za ((M0.o.alloc _).grown d (fun k C=>q9 (D.o.lt k C).1));have b1:=Za ((((Fr.refl (fun k=>(x5 oa T oc).ownBlock=V k) w1).alloc _).grown d (fun k C=>k4 C)).whole I.o (fun e=>m0.o q e rfl))
  have d1:z7 (w8.ownsRow w.heap.size 3 1 (O (V ⟨g2,0,Z⟩) (T+1) N0) (Y0 side (l.take k) es++st1 side (lo,b) (es.take 0)).length (Zg (Y0 side (l.take k) es++st1 side (lo,b) (es.take 0)))):=by
   have e:st1 side (lo,b) (es.take 0)=[lo]:=by simp[st1]
   rw[e,lA,X.o,MF];exact J
  have f1:z7 (g2≠q):=by
   show _≠_
   rcases n0 with e|e
   ·exact m0.o g2 e
   have:=(iA.1 I.o).1
   omega
  go_wp2_with fail
  go_loopg [7,11,27] M (fun m ov _ jv wq=>∃j,j<=M/\m=M-j/\jv=H G (j:Nat)/\z7 (wq.ownsRow w.heap.size 3 1 ov (Y0 side (l.take k) es++st1 side (lo,b) (es.take j)).length (Zg (Y0 side (l.take k) es++st1 side (lo,b) (es.take j))))/\z7 (F0 w wq)/\z7 (wq.heap[q]?=V (z2 #[H G (lo:Int),H G (b:Int)] 118))/\z7 (∀k,ov.ownBlock=V k->k≠q))
  case atStart=>exact⟨0,by omega,rfl,rfl,d1,a1,b1,Dy f1.o⟩
  obtain⟨j,hj,rfl,rfl,K,o0,i1,P⟩:=hrel;obtain⟨pa,pc,ho⟩:=oL K.o;subst ho;obtain⟨E,Y⟩:∃E,(Y0 side (l.take k) es++st1 side (lo,b) (es.take j)).length=E:=⟨_,rfl⟩
  have M1:E<=2300:=by
   rw[<-Y,lA,X.o];have h1:=Dw side (lo,b) (es.take j) (fun e he=>k0.o e (List.mem_of_mem_take he))
   have h2:(es.take j).length<=10:=by rw[j7];have:=J0.o;omega
   omega
  have p0:=Za Y;rw[Y]at K P;rw[Y];by_cases N1:j<M
  ·have j1:(j:Int)<(M:Int):=by omega
   have hx:=gE (show j<es.length by have:=HM.o;omega);obtain⟨h0,ge,oe,ea,a0⟩:=(HE.o.fr o0.o) j _ hx;have q0:=Za (HB.o _ (List.getElem_mem (show j<es.length by have:=HM.o;omega)));have b0:=Za (zA side (lo,b) hx);generalize es[j]'(by have:=HM.o;omega)=e at*;subst ea;have r0:=Za (Td.at h0 side);have d0:=Za (h0.few side);obtain⟨B,y0,y1,y2,y3⟩:=e
   dsimp only at r0 d0 q0 b0
   have c0:wr.cell? ⟨ge,oe+j*4,Z⟩=V (O y0.a B.s0.length y0.c):=a0 0 _ rfl;have c1:wr.cell? ⟨ge,oe+j*4+1,Z⟩=V (O y1.a B.s1.length y1.c):=a0 1 _ rfl;have c2:wr.cell? ⟨ge,oe+j*4+2,Z⟩=V (O y2.a B.s2.length y2.c):=a0 2 _ rfl;have c3:wr.cell? ⟨ge,oe+j*4+3,Z⟩=V (O y3.a B.s3.length y3.c):=a0 3 _ rfl;have z:=(VA wr (z2 #[O y0.a B.s0.length y0.c,O y1.a B.s1.length y1.c,O y2.a B.s2.length y2.c,O y3.a B.s3.length y3.c] 215)).1;have Q:z7 ((wr.alloc (z2 #[O y0.a B.s0.length y0.c,O y1.a B.s1.length y1.c,O y2.a B.s2.length y2.c,O y3.a B.s3.length y3.c] 215)).cell? ⟨wr.heap.size,side,Z⟩=V (Xp (Hp y0 y1 y2 y3 side) (B.at side))):=JP (t:=215) (aN wr (z2 (Ru B y0 y1 y2 y3) 215)) hs
   have k1:∀k,(x5 pa E pc).ownBlock=V k->k<wr.heap.size:=fun k C=>(K.o.lt k C).2
   have O0:=Za k1;go_upto_region 9 with fail;generalize wr.alloc _=w2 at*;obtain⟨r,hr⟩:∃r,wr.heap.size=r:=⟨_,rfl⟩;rw[hr]at Q O0;rw[hr];have HR:=Za hr;obtain⟨L,hL⟩:∃L,B.at side=L:=⟨_,rfl⟩;obtain⟨y,hy⟩:∃y,Hp y0 y1 y2 y3 side=y:=⟨_,rfl⟩;rw[hL,hy]at Q r0;rw[hL]at d0 q0 b0;unfold Xp at Q;have l1:=Za (oF K.o z.o);have f0:=Za (z.o.whole i1.o);have m1:=Za (r0.o.fr z.o);have t0:=Za (o0.o.trans z.o)
   have g0:z7 (∀W,Fr (fun k=>(x5 pa E pc).ownBlock=V k) w2 W->W.cell? ⟨q,0,Z⟩=V (H G (lo:Int))/\W.cell? ⟨q,1,Z⟩=V (H G (b:Int))/\W.cell? ⟨r,side,Z⟩=V (O y.a L.length y.c)):=fun W hf=>by
    have e:=hf.whole f0.o (fun e=>P.o q e rfl);exact⟨Zc e 0,Zc e 1,(hf.cell (p:=⟨r,side,Z⟩) (bL w2 _ Q.o) (fun e=>by have:=O0.o r e;omega)).trans Q.o⟩
   refine wp_region_held_drew (S:=fun W=>W.cell? ⟨q,0,Z⟩=V (H G (lo:Int))/\W.cell? ⟨q,1,Z⟩=V (H G (b:Int))/\W.cell? ⟨r,side,Z⟩=V (O y.a L.length y.c)) (by kernel_rfl) (g0.o _ Zt.drew) (fun hH=>?_)
   iterate 5 (refine YP 0 hH ?_;try go_frame)
   refine XC [5] ?_;refine Zb rfl (fun K2 hK=>?_) x7
   try rw[if_pos (by rfl)]
   go_simp;have P0:=zz w2.drew (lo,b) y L (m1.o.fr (Fr.refl (fun _=>False) w2).drew) d0.o q0.o
   dsimp only at P0
   refine P0.mono ?_;rintro e w3 ⟨⟨v,rfl,hv,n1⟩,o1⟩;have f:z7 (F0 w2 w3):=(Zt.drew).trans o1;have v0:=Za hv;have i0:=Za (oF l1.o f.o);obtain⟨va,vc,p1⟩:=oL hv;subst p1;obtain⟨m,hm⟩:∃m,(YC (lo,b) L).length=m:=⟨_,rfl⟩
   have O1:m<=20:=by rw[<-hm];have:=Rv (lo,b) L;have:=d0.o;omega
   have j0:=Za hm;have Q0:=Za n1;rw[hm]at v0 Q0;rw[hm];refine hK.out _ _ (g0.o _ (f.o.mono (fun _ h=>h.elim))) (fun hH=>?_)
   try go_frame
   by_cases R0:m=0
   ·have e0:=Q0.o R0
    injection e0 with e1 e2 e3;subst e1 e3 R0;refine XC [6] ?_;refine Zb rfl (fun K2 hK=>?_) x7
    try rw[if_pos (by rfl)]
    refine MD (.tmp 31) (.tmp 36) 25 rfl w.heap.size 3 ii 1 Tryz.underlying25 hi (O pa E pc) E (Zg (Y0 side (l.take k) es++st1 side (lo,b) (es.take j))) rfl i0.o rfl ?hz
    have R:z7 (w3.ownsRow w.heap.size 3 1 (O pa E pc) (Y0 side (l.take k) es++st1 side (lo,b) (es.take (j+1))).length (Zg (Y0 side (l.take k) es++st1 side (lo,b) (es.take (j+1))))):=by
     rw[b0.o,x9 j0.o,List.append_nil,p0.o];exact i0.o
    have w0:=Za (t0.o.trans f.o);have A0:=Za (f.o.whole f0.o);refine hK.out _ _ (g0.o _ (f.o.mono (fun _ h=>h.elim))) (fun hH=>?_)
    try go_frame
    refine ZY 7 hH ?_
    try go_frame
    refine wpAnyH_done (by kernel_rfl) ?_ _;go_wp2_with fail;go_roundg (M-(j+1))
    case measure=>omega
    exact⟨j+1,by omega,rfl,by go_num,R,w0,A0,P⟩
   obtain⟨g3,c3,e3,P1,K1⟩:=v0.o.form (by omega)
   injection e3 with e1 e2 e4;subst e1
   have q1:∀i u,(Zg (YC (lo,b) L))[i]?=V u->w3.cell? (Addr.add ⟨g3,0,Z⟩ i)=V u:=by
    intro i u hu;have L0:=(iG.1 hu).1;rw[ME,j0.o]at L0;have e:=v0.o.cellAt i (by omega);rw[hu]at e;rw[<-e];simp[Addr.add]
    split<;>simp[*]
   have r1:=Za q1;refine XC [6] ?_;refine Zb rfl (fun K2 hK=>?_) x7
   try rw[if_pos (by rfl)]
   refine wp_append_lies _ (.tmp 31) (.tmp 36) 25 rfl w.heap.size 3 ii _ 1 8 Tryz.underlying25 hi D0 E0 G0 rfl (by decide) (O pa E pc) E (Zg (Y0 side (l.take k) es++st1 side (lo,b) (es.take j))) rfl i0.o ⟨g3,0,Z⟩ m vc (Zg (YC (lo,b) L)) rfl ?g1 r1.o (Ec _) (by omega) ?g4 ?g5 ?g6 _ rfl ?g7
   case g1=>rw[ME,j0.o,Nat.mul_one]
   case g4=>unfold maxLen;omega
   case g5=>omega
   case g6=>have:=t0.o.size;have:=f.o.size;omega
   intro g4 S0 w4 J d n0 _;have T0:z7 (Fr (fun k=>(x5 pa E pc).ownBlock=V k) w2 w4):=(f.o.mono (fun _ h=>h.elim)).grown d (fun k C=>k4 C);have w0:=Za ((t0.o.trans f.o).grown d (fun k C=>q9 (i0.o.lt k C).1));have A0:=Za (T0.o.whole f0.o (fun e=>P.o q e rfl))
   have R:z7 (w4.ownsRow w.heap.size 3 1 (O (V ⟨g4,0,Z⟩) (E+m) S0) (Y0 side (l.take k) es++st1 side (lo,b) (es.take (j+1))).length (Zg (Y0 side (l.take k) es++st1 side (lo,b) (es.take (j+1))))):=by
    rw[b0.o,<-List.append_assoc,MF,lA,p0.o,j0.o];exact J
   have t1:z7 (g4≠q):=by
    show _≠_
    rcases n0 with e|e
    ·exact P.o g4 e
    have:=(iA.1 f0.o).1
    have:=f.o.size;omega
   refine hK.out _ _ (g0.o _ T0.o) (fun hH=>?_)
   try go_frame
   refine ZY 7 hH ?_
   try go_frame
   refine wpAnyH_done (by kernel_rfl) ?_ _;go_wp2_with fail;go_roundg (M-(j+1))
   case measure=>omega
   exact⟨j+1,by omega,rfl,by go_num,R,w0,A0,Dy t1.o⟩
  have j1:¬(j:Int)<(M:Int):=by omega
  have ej:j=M:=by omega
  have R:z7 (wr.ownsRow w.heap.size 3 1 (O pa E pc) (Y0 side (l.take (k+1)) es).length (Zg (Y0 side (l.take (k+1)) es))):=by
   have e:=K.o;rw[Z0.o,show st1 side (lo,b) es=st1 side (lo,b) (es.take j)from by rw[x6 (by have:=HM.o;omega)],p0.o];exact e
  go_wp2_with fail;go_roundg (N-(k+1))
  case measure=>omega
  exact⟨k+1,by omega,rfl,by go_num,R,o0⟩
 have K0:¬(k:Int)<(N:Int):=by omega
 have ek:l.take k=l:=x6 (by have:=HN.o;omega)
 have h0:0<T:=by
  rw[<-X.o,ek];have hp:=X0.o
  cases l with
  |nil=>simp at hp
  |cons s r=>simp[Y0,st1]
 obtain⟨g,cap,eo,hg,Q1⟩:=HO.o.form h0;injection eo with e1 e2 e3;subst e1 e3;have D:=HO;rw[ek]at D X;obtain⟨_,V0,_,v1,_⟩:=Kz D.o;have B0:=Za (zB D.o (by omega));have HG:=Za hg;go_wp2_with fail;refine B0.o.mono ?_;rintro e w5 ⟨rfl,A1,B1⟩;have C1:=Za (Hs (cap:=oc) A1 (show _=T by rw[List.length_mergeSort];simpa[Ky]using v1) V0 (by omega));have D1:=Za (l0.o.monoNew B1 (fun i e=>q9 (by have:=HG.o;omega)));go_wp2_with fail;refine C1.o.mono ?_;rintro e w6 ⟨rfl,E1,F1⟩;have G1:=Za (D1.o.monoNew F1 (fun i e=>q9 (by have:=HG.o;omega)));have H1:=Za E1;go_wp2_with fail;go_ret
 have W0:Lib.compact ((Ky (Y0 side l es)).mergeSort fun x y=>decide (x<=y))=Ky (Xy side A es):=by rw[HV.o,<-Bf];rfl
 refine⟨⟨g,oc,HG.o,?_,fun j n hj=>?_⟩,G1.o⟩
 ·rw[W0]
  simp[Ky]
 refine H1.o j n ?_
 rw[W0];simp[Ky,hj]
theorem Hv (side)(A:SJ)(b d f g a n c w):
  j9 z8 172 #[H G (side:Nat),j6 #[Xp b A.s0,Xp d A.s1,Xp f A.s2,Xp g A.s3],O a n c] w fun e w'=>e=y5 (.func (.func 212) #[] #[U (V ⟨w.heap.size,0,Z⟩),U (V ⟨w.heap.size+1+1,0,Z⟩),U (V ⟨w.heap.size+1,0,Z⟩)])/\w'=((w.alloc (z2 #[H G (side:Nat)] 3)).alloc (z2 #[Xp b A.s0,Xp d A.s1,Xp f A.s2,Xp g A.s3] 215)).alloc (z2 #[O a n c] 217):=by
 have h:∀(fn:Fn)(first cap:Array q5)(w:z4),(Instr.makeFunc fn first cap).run z8 w=.ok (.func fn first cap) w:=fun _ _ _ _=>rfl
 unfold Xp;go_enter Tryz.func172,Tryz.ntmps172;go_wp2;go_ret;exact⟨rfl,rfl⟩
structure RD where
 p0:Nat
 p1:Nat
 p2:Nat
 p3:Nat
def RD.set (p:RD)(side n:Nat):RD:=
 match side with
 |0=>{p with p0:=n}
 |1=>{p with p1:=n}
 |2=>{p with p2:=n}
 |_=>{p with p3:=n}
def RD.at (p:RD):Nat->Nat
 |0=>p.p0
 |1=>p.p1
 |2=>p.p2
 |_=>p.p3
def X1 (A:SJ):Nat->List Td->List (RD×Nat)
 |0,es=>[(⟨0,0,0,0⟩,es.length)]
 |k+1,es=>(Xy (3-k) A es).flatMap fun n=>(X1 A k (Vl (3-k) n es)).map fun y=>(y.1.set (3-k) n,y.2)
theorem RZ (n:Nat):∀l:List Nat,(∃x,x∈l/\x<=n)->∃m,m∈l/\m<=n/\∀x,x∈l->x<=n->x<=m
 |[],h=>by obtain⟨x,a,_⟩:=h;cases a
 |y::r,h=>by
  by_cases c:∃x,x∈r/\x<=n
  ·obtain⟨m,g,i,f⟩:=RZ n r c
   by_cases j:y<=n/\m<=y
   ·refine⟨y,by simp,j.1,fun x a b=>?_⟩
    rcases y4.1 a with rfl|a
    ·omega
    have:=f x a b;omega
   refine⟨m,by simp[g],i,fun x a b=>?_⟩
   rcases y4.1 a with rfl|a
   ·omega
   exact f x a b
  obtain⟨x,a,b⟩:=h
  rcases y4.1 a with rfl|a
  ·refine⟨x,by simp,b,fun z d e=>?_⟩
   rcases y4.1 d with rfl|d
   ·omega
   exact absurd ⟨z,d,e⟩ c
  exact absurd ⟨x,a,b⟩ c
theorem Hw {Yr n}(h:Yr.1<=n/\n<=Yr.2):n∈RB Yr n:=by simp[RB,YZ,h]
theorem Eh {side n Yr es}(f:YZ Yr n=true):∃m,m∈st1 side Yr es/\YZ Yr m=true/\∀e,e∈es->Xx e.A side m=Xx e.A side n:=by
 simp only[YZ,y9,decide_eq_true_eq]at f;obtain⟨m,j,l,g⟩:=RZ n (st1 side Yr es) ⟨Yr.1,by simp[st1],f.1⟩;have k:=g Yr.1 (by simp[st1]) f.1;refine⟨m,j,by simp only[YZ,y9,decide_eq_true_eq];omega,fun e i=>?_⟩
 have d:∀t,t∈e.A.at side->YZ t m=YZ t n:=by
  intro t c
  have c1:Yr.1<=t.1->t.1<=n->t.1<=m:=fun a b=>g t.1 (by
   simp only[st1,y4,z5];refine q9 ⟨e,i,?_⟩;simp only[YC,z5]
   exact⟨t,c,by simp only[OX,y6];exact k4 (Hw (by omega))⟩) b
  have o:Yr.1<=t.2+1->t.2+1<=n->t.2+1<=m:=fun a b=>g (t.2+1) (by
   simp only[st1,y4,z5];refine q9 ⟨e,i,?_⟩;simp only[YC,z5]
   exact⟨t,c,by simp only[OX,y6];exact q9 (Hw (by omega))⟩) b
  rw[v4];simp only[YZ,y9,decide_eq_true_eq];omega
 unfold Xx;rw[v4];simp only[x4]
 constructor
 ·rintro⟨t,c,h⟩;exact⟨t,c,by rw[<-d t c];exact h⟩
 rintro⟨t,c,h⟩;exact⟨t,c,by rw[d t c];exact h⟩
theorem Hx {side n A es}(a:Xx A side n=true):∃m,m∈Xy side A es/\Xx A side m=true/\∀e,e∈es->Xx e.A side m=Xx e.A side n:=by
 simp only[Xx,x4]at a;obtain⟨Yr,b,a⟩:=a;obtain⟨m,c,d,f⟩:=Eh (side:=side) (es:=es) a;refine⟨m,?_,?_,f⟩
 ·unfold Xy
  rw[MH];simp only[Y0,z5];exact⟨Yr,b,c⟩
 simp only[Xx,x4]
 exact⟨Yr,b,d⟩
theorem Bg {side m A es}(c:∀s,s∈A.at side->s.1<=s.2)(h:m∈Xy side A es):Xx A side m=true:=by
 unfold Xy at h;rw[MH]at h;simp only[Y0,z5]at h;obtain⟨Yr,b,h⟩:=h;simp only[Xx,x4];refine⟨Yr,b,?_⟩;simp only[st1,y4,z5]at h;rcases h with rfl|⟨e,_,h⟩
 ·have:=c Yr b
  simp only[YZ,y9,decide_eq_true_eq];omega
 simp only[YC,z5,OX,y6]at h
 obtain⟨t,_,h⟩:=h
 have g:∀x,m∈RB Yr x->YZ Yr m=true:=by
  intro x a;unfold RB at a
  split at a
  ·rename_i d
   simp at a;subst a;exact d
  cases a
 rcases h with h|h
 ·exact g _ h
 exact g _ h
def V8 (A:SJ):Nat->RD->Bool
 |0,_=>true
 |k+1,p=>Xx A (3-k) (p.at (3-k))&&V8 A k p
theorem OC (p:RD){s}(h:s<4)(n):(p.set s n).at s=n:=by
 have:s=0\/s=1\/s=2\/s=3:=by omega
 rcases this with rfl|rfl|rfl|rfl<;>rfl
theorem JQ (p:RD){s t}(h:s<4)(d:t<4)(a:s≠t)(n):(p.set s n).at t=p.at t:=by
 have b:s=0\/s=1\/s=2\/s=3:=by omega
 have c:t=0\/t=1\/t=2\/t=3:=by omega
 rcases b with rfl|rfl|rfl|rfl<;>rcases c with rfl|rfl|rfl|rfl<;>first|rfl|exact absurd rfl a
theorem ML (A:SJ)(p:RD)(s n:Nat)(a:s<4):∀k,k+s<=3->V8 A k (p.set s n)=V8 A k p
 |0,_=>rfl
 |k+1,h=>by
  unfold V8;rw[JQ p a (by omega) (by omega) n,ML A p s n a k (by omega)]
theorem U8 {A:SJ}(a:∀side s,s∈A.at side->s.1<=s.2):∀k,k<=4->∀(es:List Td)(y:RD×Nat),y∈X1 A k es->V8 A k y.1=true/\y.2=(es.filter fun e=>V8 e.A k y.1).length
 |0,_,es,y,h=>by
  simp only[X1,z9]at h;subst h;refine⟨rfl,?_⟩
  show es.length=(List.filter (fun _=>true) es).length
  rw[List.filter_eq_self.2 (fun _ _=>rfl)]
 |k+1,hk,es,y,h=>by
  simp only[X1,z5,j3]at h;obtain⟨n,c,z,d,rfl⟩:=h;obtain⟨f,g⟩:=U8 a k (by omega) _ z d
  have b:∀B:SJ,V8 B (k+1) (z.1.set (3-k) n)=(Xx B (3-k) n&&V8 B k z.1):=fun B=>by
   conv=>lhs;unfold V8
   rw[OC z.1 (by omega) n,ML B z.1 (3-k) n (by omega) k (by omega)]
  refine⟨?_,?_⟩
  ·show V8 A (k+1) (z.1.set (3-k) n)=true
   rw[b,Bg (a _) c,f];rfl
  show z.2=_
  rw[g];unfold Vl;rw[List.filter_filter]
  congr 1
  refine List.filter_congr fun e _=>?_
  rw[b,Bool.and_comm]
theorem Qt {A:SJ}:∀k,k<=4->∀(es:List Td)(p:RD),V8 A k p=true->∃y,y∈X1 A k es/\∀e,e∈es->V8 e.A k y.1=V8 e.A k p
 |0,_,es,p,_=>⟨_,z9.2 rfl,fun _ _=>rfl⟩
 |k+1,hk,es,p,h=>by
  unfold V8 at h;rw[y9]at h;obtain⟨m,b,_,c⟩:=Hx (es:=es) h.1;obtain⟨z,d,f⟩:=Qt k (by omega) (Vl (3-k) m es) p h.2;refine⟨(z.1.set (3-k) m,z.2),?_,fun e a=>?_⟩
  ·simp only[X1,z5,j3]
   exact⟨m,b,z,d,rfl⟩
  show V8 e.A (k+1) (z.1.set (3-k) m)=_
  unfold V8;rw[OC z.1 (by omega) m,ML e.A z.1 (3-k) m (by omega) k (by omega),<-c e a]
  cases g:Xx e.A (3-k) m with
  |false=>rfl
  |true=>
   rw[f e (by unfold Vl;rw[x8];exact⟨a,g⟩)]
theorem Bh {A}(d:∀side s,s∈A.at side->s.1<=s.2)(es):(∃y,y∈X1 A 4 es/\y.2=0)↔∃p,V8 A 4 p=true/\∀e,e∈es->V8 e.A 4 p=false:=by
 constructor
 ·rintro⟨y,a,g⟩
  obtain⟨h,b⟩:=U8 d 4 (by omega) es y a;refine⟨y.1,h,fun e c=>?_⟩;rw[g]at b;have f:=x9 b.symm;rw[q7]at f
  simpa using f e c
 rintro⟨p,i,j⟩
 obtain⟨y,a,k⟩:=Qt 4 (by omega) es p i;obtain⟨_,b⟩:=U8 d 4 (by omega) es y a;refine⟨y,a,?_⟩;rw[b,q6,q7];intro e c;rw[k e c,j e c];simp
open Go.Shelf
def Nc (a:List Nat):List Deferred:=a.map fun D=>{target:=.collected D,args:=#[]}
def zC (W:z4):List Nat->z4
 |[]=>W
 |D::r=>zC (W.putObj D (.deferred Z)) r
theorem Vb {F:Fence}{n:Nat}{P:Program}{fn:Func}{tmps:Array q5}{R:Ending->z4->Prop}:∀(a:List Nat)(W:z4),a.Nodup->(∀D,D∈a->W.heap[D]?=V (.deferred (V [])))->LeavesIn F n P fn tmps R [] .returning (zC W a)->LeavesInM F n P fn tmps R (Nc a) .returning W
 |[],_,_,_,h=>h
 |D::r,W,hd,hD,h=>by
  obtain⟨c,d⟩:=v5.1 hd;refine⟨by simp,.inl ⟨D,_,rfl,run_takeDeferred (hD D (by simp)),?_⟩⟩;refine Vb r _ d (fun E b=>?_) h;exact(z3 (fun e=>c (by first|exact e▸b|exact e.symm▸b))).trans (hD E (by simp[b]))
def YD {β:Type}(M:Nat)(I:β->z4->Prop):Prop:=∀s W a,I s W->Fr (fun k=>M<=k) W a->I s a
def zD {α:Type}(S:Nat->Prop)(I:List α->z4->Prop)(b:Code->List α->z4->Prop)(a:List α)(W:z4):Exit->Act->z4->Prop
 | .normal,_,W'=>Fr S W W'/\I a W'
 | .ret,_,W'=>Fr S W W'/\b .ret a W'
 | .exit id,_,W'=>Fr S W W'/\b (.exit id) a W'
 |_,_,_=>False
def JR (B:Nat)(r:Loop)(W:z4):Prop:=W.heap[B+1]?=V (.loop r)/\W.heap[B]?=V (.deferred (V []))
def zE (B:Nat)(r:Loop)(c:Code)(W:z4):Prop:=W.heap[B+1]?=V (.loop {r with state:=.done,pending:=V c})/\W.heap[B]?=V (.deferred (V []))
def Tu (S:Nat->Prop)(B:Nat):Nat->Prop:=fun k=>S k\/k=B\/k=B+1
theorem Qu {S l W}(h:S l)(o):Fr S W (W.putObj l o):=by
 have a:=grownBy_putObj' W l o;exact⟨a.os,a.tape,a.output,a.size,fun k c b=>z3 (by rintro rfl;exact b h)⟩
theorem YD.put {β M I}(h:YD M I){s:β}{W l}(o)(a:I s W)(b:M<=l):I s (W.putObj l o):=h s W _ a (Qu b o)
theorem YD.alloc {β M I}(h:YD M I){s:β}{W}(o)(a:I s W):I s (W.alloc o):=h s W _ a (Zt.alloc o)
theorem YD.mono {β M N}{I:β->z4->Prop}(h:YD M I)(a:M<=N):YD N I:=fun s W b c d=>h s W b c (d.mono (fun _ e=>j4 a e))
theorem YD.and {β M}{I K:β->z4->Prop}(h:YD M I)(k:YD M K):YD M (fun s W=>I s W/\K s W):=fun s W a b c=>⟨h s W a b.1 c,k s W a b.2 c⟩
theorem YD.map {β γ M I}(h:YD M I)(f:γ->β):YD M (fun(s:γ) W=>I (f s) W):=fun s W a b c=>h (f s) W a b c
theorem YD.pure {β M}(p:β->Prop):YD M (fun(s:β)(_:z4)=>p s):=fun _ _ _ a _=>a
theorem YD.fr {β M S a}(h:a.heap.size<=M):YD M (fun(_:β) W=>Fr S a W):=fun _ _ _ b c=>b.monoNew c (fun _ hi=>.inr (j4 h hi))
theorem YD.block {β M b o}(h:b<M):YD M (fun(_:β)(W:z4)=>W.heap[b]?=V o):=fun _ W _ a c=>(c.block b (iA.1 a).1 (by show¬M<=b;omega)).trans a
theorem JS {M:Nat}:∀(a:List Nat)(W:z4),(∀D,D∈a->M<=D)->Fr (fun k=>M<=k) W (zC W a)
 |[],W,_=>Fr.refl _ W
 |D::r,W,h=>(Qu (S:=fun k=>M<=k) (h D (by simp)) _).trans (JS r _ (fun E b=>h E (by simp[b])))
theorem Pj {S k X Y o}(h:Fr S X Y)(b:¬S k)(a:X.heap[k]?=V o):Y.heap[k]?=V o:=
 (h.block k (iA.1 a).1 b).trans a
theorem Bi {α P m B S r I L}{b:α->Array q5}{x pre}{N:Nat->Act->z4->Prop}{W}(O:Fence.wide.fn r.fn)(o:r.state=.ready)(z:r.pending=Z)(Q:(b x).size=r.params.size)(hS:∀k,S k->k<B)(hI:YD B I)(A:∀c,YD B (L c))(R:∀m g,OwnFrom B (fun(_:Unit) W=>N m g W))(J:JR B r W)(d:∀K:Act->z4->Prop,(∀g a,Fr S W a->I pre a->N W.heap.size g a->K g a)->r.assign.wpIn (Fence.wide.inRound (B+1)) m P (Exit.then K (fun _ _ _=>False)) {tmps:=(r.params.zip (b x)).foldl (fun t (p,v)=>t.setIfInBounds p v) r.tmps,defers:=[]} W)(q:∀M g a,B+2<=M->I pre a->N M g a->r.body.wpIn (Fence.wide.inRound (B+1)) m P (zD (fun k=>S k\/M<=k) I L (pre++[x]) a) g a):
  YieldAt Fence.wide m P (B+1) (b x) W fun e a=>Fr (Tu S B) W a/\((e=y5 (z6 true)/\I (pre++[x]) a/\JR B r a)\/(e=y5 (z6 false)/\∃c,L c (pre++[x]) a/\zE B r c a)):=by
 refine⟨r.fn,_,r.assign,r.body,run_yield J.1 Q,roundIn_of_wpIn O (d _ fun g C D hi hx=>?_)⟩
 have n1:¬S (B+1):=fun h=>by have:=hS _ h;omega
 have n0:¬S B:=fun h=>by have:=hS _ h;omega
 have U:B+2<=W.heap.size:=(iA.1 J.1).1;have X:=Pj D n1 J.1;have hd:=Pj D n0 J.2;have D:=D.mono (T:=Tu S B) (fun k h=>.inl h);refine⟨_,run_beginRound X o,?_⟩;have Y:=(iA.1 X).1;have a0:(C.putObj (B+1) (.loop {r with state:=.busy})).heap[B+1]?=V (.loop {r with state:=.busy}):=q8 Y;have b0:(C.putObj (B+1) (.loop {r with state:=.busy})).heap[B]?=V (.deferred (V [])):=(z3 (by omega)).trans hd;have c0:Fr (Tu S B) C (C.putObj (B+1) (.loop {r with state:=.busy})):=Qu (.inr (.inr rfl)) _;refine wpIn_mono (q _ g _ U (hI.put _ hi (by omega)) ((R _ g).putObj (s:=()) _ hx (by omega) X rfl)) ?_;intro e a3 E w
 have u:∀j,Fr (fun k=>S k\/W.heap.size<=k) (C.putObj (B+1) (.loop {r with state:=.busy})) E->E.heap[B+1]?=V (.loop {r with state:=.busy})/\(E.putObj (B+1) j).heap[B+1]?=V j/\(E.putObj (B+1) j).heap[B]?=V (.deferred (V []))/\Fr (Tu S B) W (E.putObj (B+1) j):=fun j l=>by
  have n:=Pj l (by rintro(h|h);exact n1 h;omega) a0;exact⟨n,q8 (iA.1 n).1,(z3 (by omega)).trans (Pj l (by rintro(h|h);exact n0 h;omega) b0),((D.trans c0).monoNew l (fun i hi=>hi.elim (fun h=>.inl (.inl h)) .inr)).trans (Qu (.inr (.inr rfl)) _)⟩
 have er:({{r with state:=.busy}with state:=.ready,pending:=Z}:Loop)=r:=by
  cases r
  simp at o z;subst o z;rfl
 cases e with
 |normal=>
  obtain⟨l,f⟩:=w;obtain⟨n,F,G,H⟩:=u (.loop r) l;have y:=run_endRound (P:=P) Z n;simp only[Option.isNone_none,if_true,er]at y;exact⟨_,_,y,H,.inl ⟨rfl,hI.put _ f (by omega),F,G⟩⟩
 |ret=>
  obtain⟨l,f⟩:=w;obtain⟨n,F,G,H⟩:=u (.loop {r with state:=.done,pending:=V .ret}) l;have y:=run_endRound (P:=P) (V .ret) n;exact⟨_,_,y,H,.inr ⟨rfl,.ret,(A _).put _ f (by omega),F,G⟩⟩
 |exit id=>
  obtain⟨l,f⟩:=w;obtain⟨n,F,G,H⟩:=u (.loop {r with state:=.done,pending:=V (.exit id)}) l;have y:=run_endRound (P:=P) (V (.exit id)) n;exact⟨_,_,y,H,.inr ⟨rfl,.exit id,(A _).put _ f (by omega),F,G⟩⟩
 |goto t=>exact w.elim
 |panic c=>exact w.elim
 |outgrown=>exact w.elim
def Hy {α:Type}(P:Program)(gf:Nat)(lb:Array q5)(b:α->Array q5)(S:Nat->Prop)(c:List α)(w:z4):Prop:=
 ∀(n l:Nat)(J d:List α->z4->Prop)(W:z4),Fr S w W->(∀k,S k->k<W.heap.size)->YD W.heap.size J->YD W.heap.size d->
  (∀pre x f,pre++[x]<+:c->J pre f->YieldAt Fence.wide n P l (b x) f fun e a=>Fr S f a/\((e=y5 (z6 true)/\J (pre++[x]) a)\/(e=y5 (z6 false)/\d (pre++[x]) a)))->
  J [] W->CallsIn Fence.wide (n+1) P gf (#[.func (.yield l) #[] #[]]++lb) W fun e a=>(∃v,e=y5 v)/\(J c a\/∃pre,pre<+:c/\d pre a)
theorem Dz {A B k o p}(a:Fr (fun i=>k+2<=i) A B)(h:A.heap[k+1]?=V o/\A.heap[k]?=V p):B.heap[k+1]?=V o/\B.heap[k]?=V p:=
 ⟨(a.block _ (iA.1 h.1).1 (by show¬k+2<=k+1;omega)).trans h.1,(a.block _ (iA.1 h.2).1 (by show¬k+2<=k;omega)).trans h.2⟩
theorem PZ {α P g b assign body Q a w w0 n gf S lb d y}(hg:a.eval g=.func (.func gf) #[] lb)(eg:∀args w,(callFunc gf args).run P w=.ok (.enter gf args) w)(z:Hy P gf lb d (Tu S w.heap.size) y w0)(L:Fr S w0 w)(N:∀x,(d x).size=b.size)(Y:∀k,S k->k<w.heap.size)(I H)(C:YD w.heap.size I)(j:∀c,YD w.heap.size (H c))(h0:I [] w)(O:α->Nat->Act->z4->Prop)(R:∀x m i,OwnFrom w.heap.size (fun(_:Unit) W=>O x m i W))(f:∀pre x W K,pre++[x]<+:y->I pre W->(∀i u,Fr S W u->I pre u->O x W.heap.size i u->K i u)->assign.wpIn (Fence.wide.inRound (w.heap.size+1)) n P (Exit.then K (fun _ _ _=>False)) {tmps:=(b.zip (d x)).foldl (fun t (p,v)=>t.setIfInBounds p v) a.tmps,defers:=[]} W)(l:∀pre x M i W,pre++[x]<+:y->w.heap.size+2<=M->I pre W->O x M i W->body.wpIn (Fence.wide.inRound (w.heap.size+1)) n P (zD (fun k=>S k\/M<=k) I H (pre++[x]) W) i W)(o:∀W,I y W->W.heap[w.heap.size]?=V (.deferred (V []))->Q .normal {a with defers:={target:=.collected w.heap.size,args:=#[]}::a.defers} W)(q:∀c pre W,pre<+:y->H c pre W->W.heap[w.heap.size]?=V (.deferred (V []))->c.wpIn Fence.wide (n+2) P Q {a with defers:={target:=.collected w.heap.size,args:=#[]}::a.defers} W):
  (Code.rangeFunc g b assign body).wpIn Fence.wide (n+2) P Q a w:=by
 refine wpIn_rangeFunc ?_;intro fn T;obtain⟨_,hD,hL⟩:=Ih w (.deferred (V [])) (.loop {state:=.ready,pending:=Z,fn,tmps:=a.tmps,params:=b,assign,body,defers:=w.heap.size});have U:=C.alloc (.loop {state:=.ready,pending:=Z,fn,tmps:=a.tmps,params:=b,assign,body,defers:=w.heap.size}) (C.alloc (.deferred (V [])) h0);have X:Fr (Tu S w.heap.size) w0 ((w.alloc (.deferred (V []))).alloc (.loop {state:=.ready,pending:=Z,fn,tmps:=a.tmps,params:=b,assign,body,defers:=w.heap.size})):=((L.alloc _).alloc _).mono (fun k h=>.inl h)
 have D:((w.alloc (.deferred (V []))).alloc (.loop {state:=.ready,pending:=Z,fn,tmps:=a.tmps,params:=b,assign,body,defers:=w.heap.size})).heap.size=w.heap.size+2:=by simp
 refine⟨w.heap.size+1,_,((w.alloc (.deferred (V []))).alloc (.loop {state:=.ready,pending:=Z,fn,tmps:=a.tmps,params:=b,assign,body,defers:=w.heap.size})),{target:=.fn (.func gf) lb,args:=#[.func (.yield (w.heap.size+1)) #[] #[]]},((w.alloc (.deferred (V []))).alloc (.loop {state:=.ready,pending:=Z,fn,tmps:=a.tmps,params:=b,assign,body,defers:=w.heap.size})),gf,#[.func (.yield (w.heap.size+1)) #[] #[]]++lb,((w.alloc (.deferred (V []))).alloc (.loop {state:=.ready,pending:=Z,fn,tmps:=a.tmps,params:=b,assign,body,defers:=w.heap.size})),run_enterLoop_outer _ _ _ _ _,?q1,?q0,?q2,?q4,?q3⟩
 case q0=>exact fun _ _=>trivial
 case q4=>intro h;cases h
 case q1=>simp only[resolve,hg];simp[go_sem]
 case q2=>simp[invoke,go_sem,eg]
 generalize(w.alloc _).alloc _=W1 at*;have hr:=z n (w.heap.size+1) (fun pre W=>I pre W/\JR w.heap.size {state:=.ready,pending:=Z,fn,tmps:=a.tmps,params:=b,assign,body,defers:=w.heap.size} W) (fun pre W=>∃c,H c pre W/\zE w.heap.size {state:=.ready,pending:=Z,fn,tmps:=a.tmps,params:=b,assign,body,defers:=w.heap.size} c W) W1 X ?k0 ?k1 ?k2 ?k3 ⟨U,hL,hD⟩
 case k0=>
  rintro k (h|rfl|rfl)
  ·have:=Y k h;omega
  ·omega
  omega
 case k1=>
  intro s A B J r;rw[D]at r;exact⟨C s A B J.1 (r.mono (fun k hk=>by show w.heap.size<=k;omega)),Dz r J.2⟩
 case k2=>
  intro s A B J r;rw[D]at r;obtain⟨c,E,F⟩:=J;exact⟨c,j c s A B E (r.mono (fun k hk=>by show w.heap.size<=k;omega)),Dz r F⟩
 case k3=>
  intro pre x W2 hp hJ;exact Bi T rfl rfl (N x) Y C j (R x) hJ.2 (fun K hK=>f pre x W2 K hp hJ.1 hK) (fun M i u hM hi hx=>l pre x M i u hp hM hi hx)
 refine hr.mono ?_;rintro e W3 ⟨⟨v,rfl⟩,(⟨hi,E,F⟩|⟨pre,G,c,hi,E,F⟩)⟩
 ·exact⟨Z,_,run_endLoop E (by simp),o _ (C.put _ hi (by omega)) ((z3 (by omega)).trans F)⟩
 exact⟨V c,_,run_endLoop E (by simp),q c pre _ G ((j c).put _ hi (by omega)) ((z3 (by omega)).trans F)⟩
attribute [local go_sem] Oper.semAt_some
def KH (p:RD):q5:=j6 #[H G (p.p0:Nat),H G (p.p1:Nat),H G (p.p2:Nat),H G (p.p3:Nat)]
def Bj (y:RD×Nat):Array q5:=#[KH y.1,H G (y.2:Nat)]
set_option maxRecDepth 100000 in
theorem Bl (Bs g m N c S a w)(s:∀W,Fr S w W->W.cell? ⟨Bs,0,Z⟩=V (H G 4)/\W.cell? ⟨g,0,Z⟩=V (O a N c)):
  Hy z8 212 #[U (V ⟨Bs,0,Z⟩),U (V ⟨g,0,Z⟩),U (V ⟨m,0,Z⟩)] Bj S [(⟨0,0,0,0⟩,N)] w:=by
 intro n l J B W t C u v x y;obtain⟨c1,q⟩:=s W t;have r:=(VA W (z2 #[.func (.yield l) #[] #[]] 312)).1;refine callsIn_wide.2 ?_
 show j9 _ _ #[.func (.yield l) #[] #[],U (V ⟨Bs,0,Z⟩),U (V ⟨g,0,Z⟩),U (V ⟨m,0,Z⟩)] W _
 obtain⟨fn,tmps,b,body,d,z⟩:=x [] (⟨0,0,0,0⟩,N) (W.alloc (z2 #[.func (.yield l) #[] #[]] 312)) (by simp) (u.alloc _ y);unfold Bj KH at d;replace d:(Instr.yield l #[j6 #[H G 0,H G 0,H G 0,H G 0],H G (N:Nat)]).run z8 (W.alloc (z2 #[.func (.yield l) #[] #[]] 312))=.ok (.round l fn tmps b body) (W.alloc (z2 #[.func (.yield l) #[] #[]] 312)):=d;have h:=Za z;have D:=(r.o.cell (p:=⟨g,0,Z⟩) (bL W _ q)).trans q;have E:=(r.o.cell (p:=⟨Bs,0,Z⟩) (bL W _ c1)).trans c1;go_enter Tryz.func212,Tryz.ntmps212;go_upto_region 2 with fail;refine(wpIn_wide (n:=n+1)).1 ?_
 gi_wp2
 refine h.o.mono ?_;rintro e F ⟨A,(⟨rfl,i⟩|⟨rfl,f⟩)⟩
 ·have j:=Za i
  gi_wp2
  go_wp2_with fail;refine bodyPost_ret (results_none rfl _ _ _) rfl ?_;exact⟨⟨_,rfl⟩,.inl j.o⟩
 have k:=Za f
 gi_wp2
 go_wp2_with fail;refine bodyPost_ret (results_none rfl _ _ _) rfl ?_;exact⟨⟨_,rfl⟩,.inr ⟨_,by simp,k.o⟩⟩
theorem R4 {β}{C b:Nat}{d t}:OwnFrom C (fun(_:β)(W:z4)=>W.heap[b]?=V (z2 d t)):=fun _ W i row a f g=>
 (f.block _ (iA.1 a).1 (fun e=>by obtain⟨_,o,c,h⟩:=g _ e.symm;rw[a]at c;cases c;cases h)).trans a
theorem MM:∀(es:List Td)(k:Nat)(e:Td),es[k]?=V e->∀(j:Nat)(v:q5),(Pg e)[j]?=V v->(Vh es)[k*4+j]?=V v
 |[],k,e,h=>by simp at h
 |x::r,0,e,h=>by
  simp at h;subst h;intro j v a;have b:=(iG.1 a).1
  show(Pg x++Vh r)[0*4+j]?=V v
  rw[List.getElem?_append_left (by omega),Nat.zero_mul,v9];exact a
 |x::r,k+1,e,h=>by
  intro j v a;have l:(Pg x).length=4:=rfl
  show(Pg x++Vh r)[(k+1)*4+j]?=V v
  rw[aR (by omega),l,show(k+1)*4+j-4=k*4+j from by omega];exact MM r k e (by simpa using h) j v a
theorem DA {W l v es t}(h:W.ownsRow l t 4 v es.length (Vh es))(f:∀e,e∈es->e.ok W):∃a c,v=O a es.length c/\V5 W a es/\∀g o,a=V ⟨g,o,Z⟩->l<=g/\g<W.heap.size:=by
 by_cases n:0<es.length
 ·obtain⟨g,cap,rfl,i,p⟩:=h.form n
  refine⟨_,_,rfl,fun k e b=>⟨f e (mG b),g,0,rfl,fun j v q=>?_⟩,fun r o e=>?_⟩
  ·have m:=h.cells (g:=g) rfl _ _ (MM es k e b j v q)
   have d:∀k,(⟨g,0,Z⟩:Addr).add k=⟨g,k,Z⟩:=fun k=>by unfold Addr.add;split<;>simp_all
   rw[d]at m;rw[v9];exact m
  cases e
  exact⟨i,p⟩
 have b:es=[]:=q6.1 (by omega)
 subst b;rcases h.2 with⟨rfl,_⟩|⟨g,cap,s,rfl,i,u,_⟩
 ·exact⟨Z,0,rfl,fun k e b=>by simp at b,fun g o e=>by cases e⟩
 refine⟨_,_,rfl,fun k e b=>by simp at b,fun r o e=>?_⟩
 cases e
 exact⟨i,(iA.1 u).1⟩
theorem V5.frS {w w' S a es}(h:V5 w a es)(m:Fr S w w')(n:∀g o,a=V ⟨g,o,Z⟩->g<w.heap.size->¬S g)(b:∀e,e∈es->e.ok w'):V5 w' a es:=by
 intro k e c;obtain⟨_,g,o,d,f⟩:=h k e c;refine⟨b e (mG c),g,o,d,fun j v i=>?_⟩;have l:=bL w _ (f j v i);exact(m.cell (p:=⟨g,o+k*4+j,Z⟩) l (n g o d l)).trans (f j v i)
theorem V5.old {w w' a es}(h:V5 w a es)(b:Fr (fun k=>w.heap.size<=k) w w'):V5 w' a es:=by
 refine h.frS b (fun g o _ c d=>by omega) (fun e f=>?_);obtain⟨k,i⟩:=y8.1 f;exact(h k e i).1.frS b (fun x _ g o _ c d=>by omega)
structure JT (W:z4)(Bs Bo Ba side:Nat)(A:SJ)(x0 x1 x2 x3:G0)(a:Option Addr)(c:Nat)(es:List Td):Prop where
 s:W.cell? ⟨Bs,0,Z⟩=V (H G (side:Nat))
 o:W.cell? ⟨Bo,0,Z⟩=V (O a es.length c)
 a0:W.cell? ⟨Ba,0,Z⟩=V (Xp x0 A.s0)
 a1:W.cell? ⟨Ba,1,Z⟩=V (Xp x1 A.s1)
 a2:W.cell? ⟨Ba,2,Z⟩=V (Xp x2 A.s2)
 a3:W.cell? ⟨Ba,3,Z⟩=V (Xp x3 A.s3)
 ar:PW W A x0 x1 x2 x3
 ars:V5 W a es
def If (side n:Nat)(y:RD×Nat):RD×Nat:=(y.1.set side n,y.2)
def zF (A:SJ)(k:Nat)(es:List Td)(side n:Nat):List (RD×Nat):=(X1 A k (Vl side n es)).map (If side n)
def We (A:SJ)(k:Nat)(es:List Td)(side:Nat)(l:List Nat):List (RD×Nat):=l.flatMap (zF A k es side)
theorem zG (A k side es)(h:side+k=3):X1 A (k+1) es=We A k es side (Xy side A es):=by
 obtain rfl:side=3-k:=by omega
 rfl
theorem Ei (A k es side l n):We A k es side (l++[n])=We A k es side l++zF A k es side n:=by simp[We]
theorem MN {A k es side}{l:List Nat}{j n}(h:l[j]?=V n):We A k es side (l.take (j+1))=We A k es side (l.take j)++zF A k es side n:=by
 rw[List.take_add_one,h];exact Ei A k es side _ n
theorem Bm {A k es side l}(j):We A k es side (l.take j)<+:We A k es side l:=by
 refine⟨We A k es side (l.drop j),?_⟩;unfold We;rw[<-List.flatMap_append,List.take_append_drop]
theorem MO {A k es side l j n}(h:l[j]?=V n){pre}(a:pre<+:X1 A k (Vl side n es)):We A k es side (l.take j)++pre.map (If side n)<+:We A k es side l:=by
 refine List.IsPrefix.trans ?_ (Bm (j+1));rw[MN h];exact(List.prefix_append_right_inj _).2 (a.map _)
theorem Ej {W side A b c d f a es}(m:es.length<=10)(h:PW W A b c d f)(g:V5 W a es):(Xy side A es).length<=2010:=by
 have i:∀e,e∈es->(e.A.at side).length<=10:=fun e j=>by
  obtain⟨k,l⟩:=y8.1 j;exact(g k e l).1.few side
 have n:=PY side es i (A.at side);have o:=Ed (Y0 side (A.at side) es);have p:=v7 (show 1+20*es.length<=201 by omega) (h.few side);unfold Xy;omega
theorem xB {W:z4}{B side v0 v1 v2 v3 t}(a:side<4)(h:W.heap[B]?=V (z2 #[v0,v1,v2,v3] t)):∃u,W.cell? ⟨B,side,Z⟩=V u:=by
 have:side=0\/side=1\/side=2\/side=3:=by omega
 rcases this with rfl|rfl|rfl|rfl
 ·exact⟨_,Zc h 0⟩
 ·exact⟨_,Zc h 1⟩
 ·exact⟨_,Zc h 2⟩
 exact⟨_,Zc h 3⟩
theorem vK (p:RD)(side n)(d:side<4)(B)(W:z4)(t)(h:W.heap[B]?=V (z2 #[H G (p.p0:Nat),H G (p.p1:Nat),H G (p.p2:Nat),H G (p.p3:Nat)] t)):
  (W.setCell ⟨B,side,Z⟩ (H G (n:Nat))).cell? ⟨B,0,Z⟩=V (H G ((p.set side n).p0:Nat))/\(W.setCell ⟨B,side,Z⟩ (H G (n:Nat))).cell? ⟨B,1,Z⟩=V (H G ((p.set side n).p1:Nat))/\(W.setCell ⟨B,side,Z⟩ (H G (n:Nat))).cell? ⟨B,2,Z⟩=V (H G ((p.set side n).p2:Nat))/\(W.setCell ⟨B,side,Z⟩ (H G (n:Nat))).cell? ⟨B,3,Z⟩=V (H G ((p.set side n).p3:Nat)):=by
 have a:=Zc h 0;have c1:=Zc h 1;have b:=Zc h 2;have c:=Zc h 3
 have:side=0\/side=1\/side=2\/side=3:=by omega
 rcases this with rfl|rfl|rfl|rfl
 ·exact⟨cS _ _ _ a,(cO _ _ _ _ (by simp)).trans c1,(cO _ _ _ _ (by simp)).trans b,(cO _ _ _ _ (by simp)).trans c⟩
 ·exact⟨(cO _ _ _ _ (by simp)).trans a,cS _ _ _ c1,(cO _ _ _ _ (by simp)).trans b,(cO _ _ _ _ (by simp)).trans c⟩
 ·exact⟨(cO _ _ _ _ (by simp)).trans a,(cO _ _ _ _ (by simp)).trans c1,cS _ _ _ b,(cO _ _ _ _ (by simp)).trans c⟩
 exact⟨(cO _ _ _ _ (by simp)).trans a,(cO _ _ _ _ (by simp)).trans c1,(cO _ _ _ _ (by simp)).trans b,cS _ _ _ c⟩
attribute [local go_sem] Oper.semAt_some
def TX:Code->Option Code
 | .rangeFunc g d a b=>V (.rangeFunc g d a b)
 | .seq a b=>(TX a).or (TX b)
 | .block _ c=>TX c
 | .loop c=>TX c
 |_=>Z
def xC (f:Func):Code:=(f.body.bind TX).getD .skip
set_option maxRecDepth 100000 in
theorem Hz (side n l N M)(hs:side<4)(S J Jx d xs Bs By Bn Cs Co Ca w Q ds t0 t2 t3 t5 t7 t8 t9 f g j q r t v y z D E I L O P R T X Y a0 b0 c0 o0 q0 d0 f0 g0 i0 j0 k0 l0 m0 n0)(x0:Hy z8 212 #[U (V ⟨Cs,0,Z⟩),U (V ⟨Co,0,Z⟩),U (V ⟨Ca,0,Z⟩)] Bj (Tu S w.heap.size) xs w)(hS:∀k,S k->k<M)(hM:M<=w.heap.size)(hJ:YD M J)(B0:YD M Jx)(hY:∀pre x W1,pre++[x]<+:xs->J (d++pre.map (If side n)) W1->YieldAt Fence.wide N z8 l (Bj (If side n x)) W1 fun e W'=>Fr S W1 W'/\((e=y5 (z6 true)/\J (d++(pre++[x]).map (If side n)) W')\/(e=y5 (z6 false)/\Jx (d++(pre++[x]).map (If side n)) W')))(hc:∀W,Fr S w W->W.cell? ⟨Bs,0,Z⟩=V (H G (side:Nat))/\W.cell? ⟨By,0,Z⟩=V (.func (.yield l) #[] #[])/\W.cell? ⟨Bn,0,Z⟩=V (H G (n:Nat)))(h0:J d w)(r0:∀W,Fr S w W->J (d++xs.map (If side n)) W->W.heap[w.heap.size]?=V (.deferred (V []))->Q .normal {tmps:=#[t0,U (V ⟨Bs,0,Z⟩),t2,t3,U (V ⟨By,0,Z⟩),t5,U (V ⟨Bn,0,Z⟩),t7,t8,t9,f,g,j,q,r,t,v,y,z,D,E,I,L,O,P,R,T,X,Y,a0,b0,c0,.func (.func 212) #[] #[U (V ⟨Cs,0,Z⟩),U (V ⟨Co,0,Z⟩),U (V ⟨Ca,0,Z⟩)],o0,q0,d0,f0,g0,i0,j0,k0,l0,m0,n0],defers:={target:=.collected w.heap.size,args:=#[]}::ds} W)(s0:∀pre W,pre<+:xs->Fr S w W->Jx (d++pre.map (If side n)) W->W.heap[w.heap.size]?=V (.deferred (V []))->Q .ret {tmps:=#[t0,U (V ⟨Bs,0,Z⟩),t2,t3,U (V ⟨By,0,Z⟩),t5,U (V ⟨Bn,0,Z⟩),t7,t8,t9,f,g,j,q,r,t,v,y,z,D,E,I,L,O,P,R,T,X,Y,a0,b0,c0,.func (.func 212) #[] #[U (V ⟨Cs,0,Z⟩),U (V ⟨Co,0,Z⟩),U (V ⟨Ca,0,Z⟩)],o0,q0,d0,f0,g0,i0,j0,k0,l0,m0,n0],defers:={target:=.collected w.heap.size,args:=#[]}::ds} W):
  (xC Tryz.f212).wpIn Fence.wide 2 z8 Q {tmps:=#[t0,U (V ⟨Bs,0,Z⟩),t2,t3,U (V ⟨By,0,Z⟩),t5,U (V ⟨Bn,0,Z⟩),t7,t8,t9,f,g,j,q,r,t,v,y,z,D,E,I,L,O,P,R,T,X,Y,a0,b0,c0,.func (.func 212) #[] #[U (V ⟨Cs,0,Z⟩),U (V ⟨Co,0,Z⟩),U (V ⟨Ca,0,Z⟩)],o0,q0,d0,f0,g0,i0,j0,k0,l0,m0,n0],defers:=ds} w:=by
 conv=>arg 4;whnf
 refine PZ (n:=0) rfl (enters_of Tryz.func212 (by kernel_rfl) rfl) x0 Zt (fun _=>rfl) (fun k hk=>nL (hS k hk) hM)
  (fun pre W=>J (d++pre.map (If side n)) W/\Fr S w W) (fun c pre W=>c=.ret/\(Jx (d++pre.map (If side n)) W/\Fr S w W))
  (YD.and (YD.map (hJ.mono hM) (fun(pre:List (RD×Nat))=>d++pre.map (If side n))) (YD.fr (y7 _))) (fun c=>YD.and (YD.pure (fun(_:List (RD×Nat))=>c=.ret)) (YD.and (YD.map (B0.mono hM) (fun(pre:List (RD×Nat))=>d++pre.map (If side n))) (YD.fr (y7 _)))) ⟨by simpa using h0,Zt⟩
  (fun x m a' W=>∃a,m<=a/\W.heap[a]?=V (z2 #[H G (x.1.p0:Nat),H G (x.1.p1:Nat),H G (x.1.p2:Nat),H G (x.1.p3:Nat)] 139)/\a'={tmps:=#[t0,U (V ⟨Bs,0,Z⟩),t2,t3,U (V ⟨By,0,Z⟩),t5,U (V ⟨Bn,0,Z⟩),U (V ⟨a,0,Z⟩),H G (x.2:Nat),t9,f,g,j,q,r,t,v,y,z,D,E,I,L,O,P,R,T,X,Y,a0,b0,c0,.func (.func 212) #[] #[U (V ⟨Cs,0,Z⟩),U (V ⟨Co,0,Z⟩),U (V ⟨Ca,0,Z⟩)],KH x.1,H G (x.2:Nat),d0,f0,g0,i0,j0,k0,l0,m0,n0],defers:=[]})
  (fun x m a' s A B row hs hg hr=>by obtain⟨a,h1,h2,h3⟩:=hs;exact⟨a,h1,R4 (C:=w.heap.size) () A B row h2 hg hr,h3⟩) ?assign ?body ?done ?stop
 case assign=>
  rintro pre x W K hp ⟨hi,hf⟩ hK;unfold Bj KH
  gi_wp2
  exact hK _ _ (Zt.alloc _) ⟨(hJ.mono hM).alloc _ hi,hf.alloc _⟩ ⟨W.heap.size,y7 _,aN W _,rfl⟩
 case body=>
  rintro pre x m a' W hp hm ⟨hi,hf⟩ ⟨a,C0,hB,rfl⟩;obtain⟨c1,c2,c3⟩:=hc W hf;have E0:a<W.heap.size:=(iA.1 hB).1;have f1:Fr (fun k=>M<=k) W (W.setCell ⟨a,side,Z⟩ (H G (n:Nat))):=Zt.setCell (p:=⟨a,side,Z⟩) (.inl (by show M<=a;omega)) _;have f2:Fr (fun k=>S k\/m<=k) W (W.setCell ⟨a,side,Z⟩ (H G (n:Nat))):=Zt.setCell (p:=⟨a,side,Z⟩) (.inl (.inr C0)) _;obtain⟨e0,e1,e2,e3⟩:=vK x.1 side n hs a W _ hB
  have DZ:By≠a:=by have:=bL w _ (hc w Zt).2.1;show By≠a;simp at this;omega
  have d2:(W.setCell ⟨a,side,Z⟩ (H G (n:Nat))).cell? ⟨By,0,Z⟩=V (.func (.yield l) #[] #[]):=(cO _ _ _ _ (by simp)).trans c2;obtain⟨u,hu⟩:∃u,W.cell? ⟨a,side,Z⟩=V u:=xB hs hB;have F0:=bF hB side;obtain⟨fn,tmps,assign,body,D0,hR⟩:=hY pre x (W.setCell ⟨a,side,Z⟩ (H G (n:Nat))) hp (hJ _ _ _ hi f1);have y0:=Za hR;have HF:=Za hf;have z0:=Za f2;unfold Bj KH If at D0
  have G0:(side:Int)<4:=by omega
  gi_wp2
  refine⟨rfl,?_⟩;refine RoundIn.mono (F:=Fence.wide.inRound (w.heap.size+1)) ⟨y0.o.1,fun c cs _=>y0.o.2 c cs (room_wide _)⟩ ?_;rintro e W3 ⟨A0,(⟨rfl,v0⟩|⟨rfl,v0⟩)⟩
  ·have b:=Za (z0.o.trans (A0.mono (fun k h=>.inl h)))
   have w0:=Za v0
   gi_wp2
   exact⟨b.o,w0.o,HF.o.monoNew b.o (fun i h=>h.elim .inl (fun h=>.inr (by omega)))⟩
  have b:=Za (z0.o.trans (A0.mono (fun k h=>.inl h)))
  have w0:=Za v0
  gi_wp2
  exact⟨b.o,rfl,w0.o,HF.o.monoNew b.o (fun i h=>h.elim .inl (fun h=>.inr (by omega)))⟩
 case done=>
  rintro W ⟨hi,hf⟩ hD;exact r0 W hf hi hD
 rintro c pre W hp ⟨rfl,hi,hf⟩ hD
 gi_wp2
 exact s0 pre W hp hf hi hD
attribute [local go_sem] Oper.semAt_some
def vL (Q:Exit->Act->z4->Prop):Exit->Act->z4->Prop
 | .normal,a,w=>Q .normal a w
 | .ret,a,w=>Q .ret a w
 |_,_,_=>False
theorem zH {P}{c:Code}{Q a w}(h:c.wp P (vL Q) a w):c.wp P Q a w:=wp_mono h (fun e _ _ h=>by
 cases e with
 |normal=>exact h
 |ret=>exact h
 |_=>exact h.elim)
structure zI (S:Nat->Prop)(J:List (RD×Nat)->z4->Prop)(dn:List (RD×Nat))(W ws:z4)(Ds:List Nat)(wr:z4):Prop where
 j:J dn wr
 f:Fr S ws wr
 nd:Ds.Nodup
 ds:∀D,D∈Ds->W.heap.size<=D/\wr.heap[D]?=V (.deferred (V []))
set_option maxRecDepth 100000 in
theorem Ek (k side)(hk:side+k=3)(Bs Q u c S A B C E F a es w)(hl:es.length<=10)(k0:A.at side≠[])(hb:∀e,e∈es->∀s,s∈e.A.at side->s.1<=10000000000/\s.2<=10000000000)(h:∀W,Fr S w W->JT W Bs Q u side A B C E F a c es)(ih:∀n Bs Q u c S a w,(∀W,Fr S w W->JT W Bs Q u (side+1) A B C E F a c (Vl side n es))->Hy z8 212 #[U (V ⟨Bs,0,Z⟩),U (V ⟨Q,0,Z⟩),U (V ⟨u,0,Z⟩)] Bj S (X1 A k (Vl side n es)) w):
  Hy z8 212 #[U (V ⟨Bs,0,Z⟩),U (V ⟨Q,0,Z⟩),U (V ⟨u,0,Z⟩)] Bj S (X1 A (k+1) es) w:=by
 rw[zG A k side es hk];obtain⟨L,b0⟩:∃L,Xy side A es=L:=⟨_,rfl⟩;rw[b0];intro n l J Jx W hW hS hJ B0 hY h0
 have hs:side<4:=by omega
 have l0:=Za h;have T0:=Za ih;have HW:=Za hW;have m0:=Za hS;have HJ:=Za hJ;have C0:=Za B0;have HY:=Za hY;have H0:=Za h0;have y1:=Za hb;have z1:=Za k0;have HK:=Za hk;have V0:=Za b0
 have A1:L.length<=2010:=by rw[<-b0];exact Ej hl (h W hW).ar (h W hW).ars
 have D0:=Za hl
 have B1:((side:Int)==4)=false:=by simp;omega
 have n0:=Za hs;refine callsIn_of_wp_marks Tryz.func212 rfl trivial ?_ rfl
 show Code.wpIn _ _ _ _ _ {tmps:=#[.func (.yield l) #[] #[],U (V ⟨Bs,0,Z⟩),U (V ⟨Q,0,Z⟩),U (V ⟨u,0,Z⟩)]++Array.replicate (Tryz.f212.ntmps-4) undef,defers:=[]} _
 simp only[Tryz.ntmps212,v8,Array.replicate_succ,Array.replicate_zero,j5,j2,v6,j8];refine(wpIn_wide (n:=n+1)).2 (zH ?_);obtain⟨W1,c0⟩:∃W1,W.alloc (z2 #[.func (.yield l) #[] #[]] 312)=W1:=⟨_,rfl⟩
 have f1:Fr S W W1:=by rw[<-c0];exact Zt.alloc _
 obtain⟨By,o0⟩:∃By,W.heap.size=By:=⟨_,rfl⟩
 have o1:W1.heap[By]?=V (z2 #[.func (.yield l) #[] #[]] 312):=by rw[<-c0,<-o0];exact aN W _
 have j1:J [] W1:=by rw[<-c0];exact hJ.alloc _ h0
 have q1:=h W1 (hW.trans f1);have c1:=q1.s;have c2:=q1.o;have c3:=q1.a0;have c4:=q1.a1;have c5:=q1.a2;have c6:=q1.a3;have d0:=Za f1;have W0:=Za o1;have X0:=Za j1;have p0:=Za (Eg W1 side A B C E F a c es hs q1.ar k0 q1.ars hl hb);unfold Xp at p0;clear b0 hk q1 f1 o1 j1 h ih hW hS hJ B0 hY h0 hb k0 hl hs;go_upto_region 3 with fail;have Y0:=Za o0;clear c0 o0
 go_wp2_with (go_at_call 213;refine p0.o.mono ?_)
 rintro e ws ⟨⟨g,cap,hg,rfl,q0⟩,r0⟩;rw[V0.o]at q0 ⊢;have E0:=Za q0
 have HG:z7 (¬S g):=fun h=>by have:=m0.o g h;have:=d0.o.size;omega
 have e0:z7 (Fr S W1 ws):=r0.mono (fun _ h=>h.elim);have Z0:z7 (J [] ws):=HJ.o _ _ _ X0.o (r0.mono (fun _ h=>h.elim));clear q0 r0 hg p0 c1 c2 c3 c4 c5 c6;go_wp2_with fail;obtain⟨I,hI⟩:∃I:Nat->Act->z4->Prop,∀m a' wr,I m a' wr↔∃(j:Nat)(T:List Nat)(u6 u22 u23 u24 u25 u26 u27 u28 u29 u30 u31 u32 u43:q5),j<=L.length/\m=L.length-j/\a'={tmps:=#[.func (.yield l) #[] #[],U (V ⟨Bs,0,Z⟩),U (V ⟨Q,0,Z⟩),U (V ⟨u,0,Z⟩),U (V ⟨By,0,Z⟩),undef,u6,undef,undef,H G (side:Nat),z6 false,undef,undef,undef,undef,undef,H G (side:Nat),j6 #[O B.a A.s0.length B.c,O C.a A.s1.length C.c,O E.a A.s2.length E.c,O F.a A.s3.length F.c],O a es.length c,O (V ⟨g,0,Z⟩) L.length cap,H G (L.length:Nat),H G (j:Nat),u22,u23,u24,u25,u26,u27,u28,u29,u30,u31,u32,undef,undef,undef,undef,undef,undef,undef,undef,undef,undef,u43],defers:=Nc T}/\z7 (zI S J (We A k es side (L.take j)) W ws T wr):=⟨_,fun _ _ _=>Iff.rfl⟩;refine wp_loop_ghost_k I L.length ((hI _ _ _).2 ⟨0,[],_,_,_,_,_,_,_,_,_,_,_,_,_,Nat.zero_le _,rfl,rfl,Z0.o,Zt,List.nodup_nil,by simp⟩) ?_;intro m a' wr hi J2 K2 G0 I0;obtain⟨j,T,u6,u22,u23,u24,u25,u26,u27,u28,u29,u30,u31,u32,u43,X,rfl,rfl,M⟩:=(hI _ _ _).1 hi
 have HN:z7 (∀(f0:List Nat)(u6 u22 u23 u24 u25 u26 u27 u28 u29 u30 u31 u32 u43:q5)(wn:z4),j<L.length->zI S J (We A k es side (L.take (j+1))) W ws f0 wn->K2 {tmps:=#[.func (.yield l) #[] #[],U (V ⟨Bs,0,Z⟩),U (V ⟨Q,0,Z⟩),U (V ⟨u,0,Z⟩),U (V ⟨By,0,Z⟩),undef,u6,undef,undef,H G (side:Nat),z6 false,undef,undef,undef,undef,undef,H G (side:Nat),j6 #[O B.a A.s0.length B.c,O C.a A.s1.length C.c,O E.a A.s2.length E.c,O F.a A.s3.length F.c],O a es.length c,O (V ⟨g,0,Z⟩) L.length cap,H G (L.length:Nat),H G ((j:Int)+1),u22,u23,u24,u25,u26,u27,u28,u29,u30,u31,u32,undef,undef,undef,undef,undef,undef,undef,undef,undef,undef,u43],defers:=Nc f0} wn):=fun f0 u6 u22 u23 u24 u25 u26 u27 u28 u29 u30 u31 u32 u43 wn b1 N=>
  I0 _ _ ⟨L.length-(j+1),by omega,G0 _ _ _ ((hI _ _ _).2 ⟨j+1,f0,u6,u22,u23,u24,u25,u26,u27,u28,u29,u30,u31,u32,u43,b1,rfl,rfl,N⟩)⟩
 clear hi hI I0 G0 J2 I;by_cases t0:j<L.length
 ·have d1:(j:Int)<(L.length:Int):=by omega
  obtain⟨r,g0⟩:∃r,L[j]?=V r:=⟨_,gE t0⟩;have v0:=Za g0;have cl:=(M.o.f.cell (p:=⟨g,j,Z⟩) (bL ws _ (E0.o j r g0)) HG.o).trans (E0.o j r g0);obtain⟨Y,w0⟩:∃Y,wr.alloc (z2 #[H G (r:Nat)] 3)=Y:=⟨_,rfl⟩;obtain⟨Bn,y0⟩:∃Bn,wr.heap.size=Bn:=⟨_,rfl⟩
  have y:z7 (F0 wr Y):=by show Fr _ _ _;rw[<-w0];exact Zt.alloc _
  have J0:z7 (Y.heap[Bn]?=V (z2 #[H G (r:Nat)] 3)):=by show _=_;rw[<-w0,<-y0];exact aN wr _
  have HQ:z7 (∀b,F0 Y b->JT b Bs Q u side A B C E F a c es/\b.cell? ⟨Bn,0,Z⟩=V (H G (r:Nat))):=fun b d=>
   ⟨l0.o b ((((HW.o.trans d0.o).trans e0.o).trans M.o.f).trans ((y.o.trans d).mono (fun _ h=>h.elim))),bC (d.whole J0.o) 0 _ rfl⟩
  have i0:z7 (∀b,F0 Y b->b.cell? ⟨Bs,0,Z⟩=V (H G (side:Nat))/\b.cell? ⟨Bn,0,Z⟩=V (H G (r:Nat))/\b.cell? ⟨Q,0,Z⟩=V (O a es.length c)/\b.cell? ⟨u,0,Z⟩=V (O B.a A.s0.length B.c)/\b.cell? ⟨u,1,Z⟩=V (O C.a A.s1.length C.c)/\b.cell? ⟨u,2,Z⟩=V (O E.a A.s2.length E.c)/\b.cell? ⟨u,3,Z⟩=V (O F.a A.s3.length F.c)):=fun b d=>by
   obtain⟨N,h2⟩:=HQ.o b d;exact⟨N.s,h2,N.o,N.a0,N.a1,N.a2,N.a3⟩
  have t1:k6.wrap ((side:Int)+1)=(side:Int)+1:=IntWalk.i64_in _ (by have:=n0.o;constructor<;>omega);clear g0;go_upto_region 6 with fail;have e1:=Za y0;clear y0 w0 cl;refine wp_region_held_drew (S:=fun b=>b.cell? ⟨Bs,0,Z⟩=V (H G (side:Nat))/\b.cell? ⟨Bn,0,Z⟩=V (H G (r:Nat))/\b.cell? ⟨Q,0,Z⟩=V (O a es.length c)/\b.cell? ⟨u,0,Z⟩=V (O B.a A.s0.length B.c)/\b.cell? ⟨u,1,Z⟩=V (O C.a A.s1.length C.c)/\b.cell? ⟨u,2,Z⟩=V (O E.a A.s2.length E.c)/\b.cell? ⟨u,3,Z⟩=V (O F.a A.s3.length F.c)) (by kernel_rfl) (i0.o _ Zt.drew) (fun hH=>?_)
  iterate 6 (refine YP 0 hH ?_;try go_frame)
  clear t1;refine XC [6] ?_;refine Zb rfl (fun K2 hK=>?_) x7
  try rw[if_pos (by rfl)]
  go_simp;refine(F8 Y.drew side r a c es n0.o (HQ.o _ Zt.drew).1.ars D0.o).mono ?_;rintro e w6 ⟨⟨v,rfl,hv⟩,K0⟩;have q:z7 (F0 Y w6):=(Zt.drew).trans K0
  obtain⟨a6,c6,g1,L0,M0⟩:=DA hv (fun e he=>by
   obtain⟨i,hi⟩:=y8.1 (x8.1 he).1
   exact((HQ.o _ q.o).1.ars i e hi).1)
  subst g1;obtain⟨N6,z0⟩:∃N6,(Vl side r es).length=N6:=⟨_,rfl⟩;have i1:=Za z0;have k1:=Za L0;have l1:=Za M0;rw[z0];clear hv L0 M0 K0 z0;refine hK.out _ _ (i0.o _ q.o) (fun hH=>?_);clear hK K2
  try go_frame
  refine XC [7] ?_;refine Zb rfl (fun K2 hK=>?_) x7
  try rw[if_pos (by rfl)]
  go_simp;have N0:=Hv (side+1) A B C E F a6 N6 c6 w6;refine N0.mono ?_;rintro e t ⟨rfl,he⟩;obtain⟨P,K⟩:∃P,w6.heap.size=P:=⟨_,rfl⟩;rw[K]
  have z:z7 (F0 w6 t):=by show Fr _ _ _;rw[he];exact((Zt.alloc _).alloc _).alloc _
  have O0:z7 (t.heap.size=P+3):=by show _=_;rw[he,<-K];simp
  have P0:z7 (t.heap[P]?=V (z2 #[H G (((side+1:Nat)):Int)] 3)):=by
   show _=_
   rw[he,<-K];exact(((Fr.refl (fun _=>False) _).alloc _).alloc _).whole (aN w6 _) (by simp)
  have Q0:z7 (t.heap[P+1]?=V (z2 #[Xp B A.s0,Xp C A.s1,Xp E A.s2,Xp F A.s3] 215)):=by
   show _=_
   rw[he,<-K];exact((Fr.refl (fun _=>False) _).alloc _).whole (by have:=aN (w6.alloc (z2 #[H G (((side+1:Nat)):Int)] 3)) (z2 #[Xp B A.s0,Xp C A.s1,Xp E A.s2,Xp F A.s3] 215);simpa using this)
  have R0:z7 (t.heap[P+1+1]?=V (z2 #[O a6 N6 c6] 217)):=by
   show _=_
   rw[he,<-K];have:=aN ((w6.alloc (z2 #[H G (((side+1:Nat)):Int)] 3)).alloc (z2 #[Xp B A.s0,Xp C A.s1,Xp E A.s2,Xp F A.s3] 215)) (z2 #[O a6 N6 c6] 217)
   simpa using this
  have A0:=Za K;clear N0 he K;refine hK.out _ _ (i0.o _ (q.o.trans z.o)) (fun hH=>?_);clear hK K2
  try go_frame
  refine wpAnyH_done (by kernel_rfl) ?_ _;go_wp2_with fail;refine(wpIn_wide (n:=2)).1 ?_;have S0:Fr S W t:=((d0.o.trans e0.o).trans M.o.f).trans (((y.o.trans q.o).trans z.o).mono (fun _ h=>h.elim));have R:=HW.o.trans S0;have m1:=y.o.size;have n1:=q.o.size;have p1:=((d0.o.trans e0.o).trans M.o.f).size
  have r1:W.heap.size<=P:=by have:=A0.o;omega
  have v1:=O0.o
  have nS:∀i,W.heap.size<=i->¬S i:=fun i hi h=>by have:=m0.o i h;omega
  have nR:∀i,W.heap.size<=i->i<P+3->¬Tu S t.heap.size i:=by
   rintro i N h2 (h|h|h)
   ·exact nS i N h
   ·omega
   omega
  have fR:∀b,Fr (Tu S t.heap.size) t b->Fr S w b:=fun b d=>R.monoNew d (by
   rintro i (h|h|h)
   ·exact .inl h
   ·right;have:=R.size;omega
   right;have:=R.size;omega)
  have nd:(t.heap.size::T).Nodup:=v5.2 ⟨fun h=>by
   have:=(iA.1 (M.o.ds _ h).2).1
   have:=y.o.size;have:=A0.o;omega,M.o.nd⟩
  have j0:∀b,Fr S t b->b.heap[t.heap.size]?=V (.deferred (V []))->∀D,D∈t.heap.size::T->W.heap.size<=D/\b.heap[D]?=V (.deferred (V [])):=fun b d hD D hd=>by
   rcases y4.1 hd with rfl|hd
   ·exact⟨by omega,hD⟩
   obtain⟨N,h2⟩:=M.o.ds D hd
   exact⟨N,Pj ((((y.o.trans q.o).trans z.o).mono (fun _ h=>h.elim)).trans d) (nS D N) h2⟩
  refine Hz side r l n W.heap.size n0.o S J Jx (We A k es side (L.take j)) (X1 A k (Vl side r es)) Bs By Bn P (P+1+1) (P+1) t _ (Nc T) _ _ _ _ _ _ _ _ _ _ _ _ _ _ _ _ _ _ _ _ _ _ _ _ _ _ _ _ _ _ _ _ _ _ _ _ _ _ _ _ ?hseq m0.o (by omega) HJ.o C0.o ?hY ?hc ?h0 ?hd ?hst
  case hseq=>
   refine T0.o r P (P+1+1) (P+1) c6 (Tu S t.heap.size) a6 t (fun b d=>?_);have hq:=l0.o b (fR b d);have ba:=d.whole Q0.o (nR _ (by omega) (by omega));have hN:=i1.o;refine⟨bC (d.whole P0.o (nR _ (by omega) (by omega))) 0 _ rfl,?_,Zc ba 0,Zc ba 1,Zc ba 2,Zc ba 3,hq.ar,?_⟩
   ·rw[hN];exact bC (d.whole R0.o (nR _ (by omega) (by omega))) 0 _ rfl
   refine((k1.o.fr z.o).frS d (fun g o e _=>?_) (fun e he=>?_))
   ·have h6:=l1.o g o e
    have h5:Y.drew.heap.size=Y.heap.size:=rfl;have:=A0.o;exact nR g (by omega) (by omega)
   obtain⟨i,hi⟩:=y8.1 (x8.1 he).1
   exact(hq.ars i e hi).1
  case hY=>
   intro pre x b hp X
   have eq:(We A k es side (L.take j)++pre.map (If side r))++[If side r x]=We A k es side (L.take j)++(pre++[x]).map (If side r):=by simp
   have hy:=HY.o (We A k es side (L.take j)++pre.map (If side r)) (If side r x) b (by rw[eq];exact MO v0.o hp) X;rw[eq]at hy;exact hy
  case hc=>
   intro b d;have N:=Y0.o.symm;have h2:=e1.o.symm;refine⟨(l0.o b (R.trans d)).s,?_,?_⟩
   ·exact bC ((((e0.o.trans M.o.f).trans (((y.o.trans q.o).trans z.o).mono (fun _ h=>h.elim))).trans d).whole W0.o (nS By (by omega))) 0 _ rfl
   exact bC (d.whole ((q.o.trans z.o).whole J0.o) (nS Bn (by omega))) 0 _ rfl
  case h0=>exact HJ.o _ _ _ M.o.j (((y.o.trans q.o).trans z.o).mono (fun _ h=>h.elim))
  case hd=>
   intro b d X hD;have w1:z7 (zI S J (We A k es side (L.take (j+1))) W ws (t.heap.size::T) b):=⟨by rw[MN v0.o];exact X,(M.o.f.trans (((y.o.trans q.o).trans z.o).mono (fun _ h=>h.elim))).trans d,nd,j0 b d hD⟩;clear d X hD j0 nd fR nR nS v1 r1 p1 n1 m1 R S0 hH i0 HQ;go_wp2_with fail;exact HN.o (t.heap.size::T) _ _ _ _ _ _ _ _ _ _ _ _ _ b t0 w1.o
  intro pre b hp d X hD;refine Vb (t.heap.size::T) b nd (fun D h=>(j0 b d hD D h).2) ?_;refine⟨_,results_none rfl _ _ _,⟨_,rfl⟩,.inr ⟨_,MO v0.o hp,?_⟩⟩;exact C0.o _ _ _ X (JS _ _ (fun D h=>(j0 b d hD D h).1))
 have d1:¬(j:Int)<(L.length:Int):=by omega
 have ej:L.take j=L:=x6 (by omega);have HE:z7 (L.take j=L):=ej;clear t0 ej;go_wp2_with fail;refine Vb T wr M.o.nd (fun D h=>(M.o.ds D h).2) ?_;refine⟨_,results_none rfl _ _ _,⟨_,rfl⟩,.inl ?_⟩;have X:=M.o.j;rw[HE.o]at X;exact HJ.o _ _ _ X (JS _ _ (fun D h=>(M.o.ds D h).1))
theorem P0 (A:SJ)(j l m p:G0)(f:∀i,i<4->A.at i≠[]):∀(k:Nat),k<=4->∀(Bs b d c:Nat)(S:Nat->Prop)(a:Option Addr)(es:List Td)(w:z4),es.length<=10->
  (∀e,e∈es->∀i s,i<4->s∈e.A.at i->s.1<=10000000000/\s.2<=10000000000)->(∀W,Fr S w W->JT W Bs b d (4-k) A j l m p a c es)->
  Hy z8 212 #[U (V ⟨Bs,0,Z⟩),U (V ⟨b,0,Z⟩),U (V ⟨d,0,Z⟩)] Bj S (X1 A k es) w
 |0,_,Bs,b,d,c,S,a,es,w,_,_,h=>Bl Bs b d es.length c S a w (fun W g=>⟨(h W g).s,(h W g).o⟩)
 |k+1,hk,Bs,b,d,c,S,a,es,w,hl,hb,h=>by
  refine Ek k (4-(k+1)) (by omega) Bs b d c S A j l m p a es w hl (f _ (by omega)) (fun e q s r=>hb e q _ s (by omega) r) h (fun n Bs b d c S a w t=>?_);refine P0 A j l m p f k (by omega) Bs b d c S a _ w (j4 (Hr _ _ _) hl) (fun e q=>hb e (x8.1 q).1) (fun W g=>?_);rw[show 4-k=4-(k+1)+1 from by omega];exact t W g
attribute [local go_sem] Oper.semAt_some
theorem Bp {w w' a b c}(h:w'=((w.alloc a).alloc b).alloc c):w'.heap.size=w.heap.size+3/\w'.heap[w.heap.size]?=V a/\w'.heap[w.heap.size+1]?=V b/\w'.heap[w.heap.size+1+1]?=V c/\F0 w w':=by
 subst h;refine⟨by simp,?_,?_,?_,((Zt.alloc _).alloc _).alloc _⟩
 ·exact(((Fr.refl (fun _=>False) _).alloc _).alloc _).whole (aN w _) (by simp)
 ·exact((Fr.refl (fun _=>False) _).alloc _).whole (by have:=aN (w.alloc a) b;simpa using this)
 have:=aN ((w.alloc a).alloc b) c
 simpa using this
theorem Pk (A:SJ)(b d f g a n c w):
  j9 z8 113 #[j6 #[Xp b A.s0,Xp d A.s1,Xp f A.s2,Xp g A.s3],O a n c] w fun e w'=>∃B,e=y5 (.func (.func 212) #[] #[U (V ⟨B,0,Z⟩),U (V ⟨B+1+1,0,Z⟩),U (V ⟨B+1,0,Z⟩)])/\w.heap.size<=B/\w'.heap.size=B+3/\w'.heap[B]?=V (z2 #[H G ((0:Nat):Int)] 3)/\w'.heap[B+1]?=V (z2 #[Xp b A.s0,Xp d A.s1,Xp f A.s2,Xp g A.s3] 215)/\w'.heap[B+1+1]?=V (z2 #[O a n c] 217)/\F0 w w':=by
 have m:z7 (∀W,j9 z8 172 #[H G 0,j6 #[O b.a A.s0.length b.c,O d.a A.s1.length d.c,O f.a A.s2.length f.c,O g.a A.s3.length g.c],O a n c] W fun e w'=>e=y5 (.func (.func 212) #[] #[U (V ⟨W.heap.size,0,Z⟩),U (V ⟨W.heap.size+1+1,0,Z⟩),U (V ⟨W.heap.size+1,0,Z⟩)])/\w'=((W.alloc (z2 #[H G ((0:Nat):Int)] 3)).alloc (z2 #[Xp b A.s0,Xp d A.s1,Xp f A.s2,Xp g A.s3] 215)).alloc (z2 #[O a n c] 217)):=fun W=>Hv 0 A b d f g a n c W
 unfold Xp;go_enter Tryz.func113,Tryz.ntmps113
 go_wp2_with (go_at_call 172;refine(m.o _).mono ?_)
 rintro e w' ⟨rfl,p⟩;obtain⟨t1,h,i,j,q⟩:=Bp p;have k:z7 (w.heap.size<=(w.alloc (z2 #[O b.a A.s0.length b.c,O d.a A.s1.length d.c,O f.a A.s2.length f.c,O g.a A.s3.length g.c] 215)).heap.size/\F0 w (w.alloc (z2 #[O b.a A.s0.length b.c,O d.a A.s1.length d.c,O f.a A.s2.length f.c,O g.a A.s3.length g.c] 215))):=⟨by simp,Zt.alloc _⟩;generalize w.alloc _=r at*;obtain⟨B,l⟩:∃B,r.heap.size=B:=⟨_,rfl⟩;rw[l]at t1 h i j k;rw[l];have s:=Za t1;have t:=Za h;have u:=Za i;have v:=Za j;have x:=Za q;clear m p t1 h i j q l;go_wp2_with fail;go_ret;exact⟨B,rfl,k.o.1,s.o,t.o,u.o,v.o,k.o.2.trans x.o⟩
def El (A:SJ)(es:List Td):Bool:=(X1 A 4 es).any fun y=>y.2==0
theorem Ga {A}(a:∀side s,s∈A.at side->s.1<=s.2)(es):El A es=true↔∃p,V8 A 4 p=true/\∀e,e∈es->V8 e.A 4 p=false:=by
 rw[<-Bh a];unfold El;simp
attribute [local go_sem] Oper.semAt_some
theorem DB (dg lo hi b a c d e i):(RY dg lo hi b a c d e).at i≠[]:=by
 have h:∀(l:List Nat)(m:Nat),Yl l m≠[]:=fun l m=>by
  unfold Yl
  split
  ·simp
  rename_i h;simpa using h
 unfold RY SJ.at
 split
 ·simp
 ·exact h _ _
 ·simp
 exact h _ _
set_option maxRecDepth 100000 in
theorem Gb (w R rk dg lo hi L X f b t u M Y j dc ch pa pn pc ah a c es)(hd:dg<=6)(k0:lo<=hi)(l0:hi<1000000)(hm:Zu w L f)(m0:f.length<=10)(hc:Zu w M j)(n0:j.length<=10)(he:V5 w a es)(hl:es.length<=10)(hb:∀e,e∈es->∀i s,i<4->s∈e.A.at i->s.1<=10000000000/\s.2<=10000000000):
  j9 z8 180 #[GY R rk dg lo hi L f.length X b t u M j.length Y dc ch pa pn pc ah,O a es.length c] w fun e w'=>e=y5 (z6 (El (RY dg lo hi f b t u j) es))/\F0 w w':=by
 obtain⟨w0,d⟩:∃w0,(w.alloc (Lq R rk dg lo hi L f.length X b t u M j.length Y dc ch pa pn pc ah)).alloc (z2 #[z6 false] 4)=w0:=⟨_,rfl⟩;obtain⟨P,hP⟩:∃P,w.heap.size=P:=⟨_,rfl⟩
 have v:z7 (F0 w w0):=by show Fr _ _ _;rw[<-d];exact(Zt.alloc _).alloc _
 have J0:w0.heap.size=P+2:=by rw[<-d,<-hP];simp
 have N:z7 (w0.heap[P]?=V (Lq R rk dg lo hi L f.length X b t u M j.length Y dc ch pa pn pc ah)):=by
  show _=_
  rw[<-d,<-hP];exact((Fr.refl (fun _=>False) _).alloc _).whole (aN w _)
 have o0:z7 (w0.heap[P+1]?=V (z2 #[z6 false] 4)):=by
  show _=_
  rw[<-d,<-hP];have:=aN (w.alloc (Lq R rk dg lo hi L f.length X b t u M j.length Y dc ch pa pn pc ah)) (z2 #[z6 false] 4)
  simpa using this
 have Q:=Za (MK w0 R rk dg lo hi L X f b t u M Y j dc ch pa pn pc ah hd k0 l0 (hm.fr v.o) m0 (hc.fr v.o) n0);have p0:=Za (DB dg lo hi f b t u j);have HE:=Za he;have HL:=Za hl;have q0:=Za hb;generalize RY dg lo hi f b t u j=A at*;obtain⟨n1,a0⟩:∃n,f.length=n:=⟨_,rfl⟩;obtain⟨n2,d0⟩:∃n,j.length=n:=⟨_,rfl⟩;obtain⟨n3,e0⟩:∃n,es.length=n:=⟨_,rfl⟩;have r0:=Za e0;rw[a0,d0]at N Q d;rw[a0,d0,e0];unfold Lq at N d;unfold GY at Q ⊢;obtain⟨c0,c1,c2,c3,c4,c5,c6,c7,c8,c9,K0,L0,M0,N0⟩:=ZZ N.o;have t0:=Za hP;refine(callsIn_wide (n:=5)).1 ?_;refine callsIn_of_wp_marks Tryz.func180 rfl trivial ?_ rfl;simp only[Tryz.ntmps180,List.size_toArray,List.length_cons,List.length_nil,Nat.reduceAdd,v8,Array.replicate_succ,Array.replicate_zero,j5,j2,v6,j8];refine(wpIn_wide (n:=5)).2 (zH ?_);go_upto_region 1 with fail
 go_wp2_with (go_at_call 114;refine Q.o.mono ?_)
 rintro e w1 ⟨⟨x0,x1,x2,x3,z,rfl,rfl,v0,y0⟩,A0⟩;have f0:=Za (Pk z x0 x1 x2 x3 a n3 c w1);have B0:=Za v0;have C0:=Za y0;have C:=Za A0;unfold Xp at f0 ⊢
 go_wp2_with (go_at_call 113;refine f0.o.mono ?_)
 rintro e w2 ⟨B,rfl,hB,D0,b0,b1,b2,E0⟩;have HB:=Za hB;have G0:=Za D0;have H0:=Za b0;have H1:=Za b1;have H2:=Za b2;have l:=Za E0;go_wp2_with fail;generalize k5 #[.string R,H G rk,H G dg,H G lo,H G hi,O L n1 X,z6 b,H G t,H G u,O M n2 Y,z6 dc,z6 ch,O pa pn pc,H G ah]=RV;generalize k5 #[O x0.a z.s0.length x0.c,O x1.a z.s1.length x1.c,O x2.a z.s2.length x2.c,O x3.a z.s3.length x3.c]=AV;have e1:=t0.o;have e2:=C.o.size;have e3:=l.o.size;have e4:=HB.o;have e5:=G0.o;have o2:=(C.o.trans l.o).whole o0.o
 have J:Hy z8 212 #[U (V ⟨B,0,Z⟩),U (V ⟨B+1+1,0,Z⟩),U (V ⟨B+1,0,Z⟩)] Bj (Tu (fun k=>k=P+1) w2.heap.size) (X1 z 4 es) w2:=by
  have nR:∀i,i≠P+1->i<B+3->¬Tu (fun k=>k=P+1) w2.heap.size i:=by
   rintro i h1 h2 (h|h|h)<;>omega
  refine P0 z x0 x1 x2 x3 (fun i _=>p0.o i) 4 (y7 _) B (B+1+1) (B+1) c _ a es w2 HL.o q0.o (fun W q=>?_);have ba:=q.whole H1.o (nR _ (by omega) (by omega));refine⟨bC (q.whole H0.o (nR _ (by omega) (by omega))) 0 _ rfl,?_,Zc ba 0,Zc ba 1,Zc ba 2,Zc ba 3,?_,?_⟩
  ·rw[r0.o];exact bC (q.whole H2.o (nR _ (by omega) (by omega))) 0 _ rfl
  ·refine(B0.o.fr l.o).frS q (fun x hx g o e O0=>?_)
   have h1:=(C0.o x hx g o e).1;rintro(h|h|h)
   ·omega
   ·omega
   omega
  refine HE.o.old ((((v.o.trans C.o).trans l.o).mono (fun _ h=>h.elim)).trans (q.mono ?_))
  rintro k (h|h|h)<;>(show _<=k;omega)
 obtain⟨xs,g0⟩:∃xs,X1 z 4 es=xs:=⟨_,rfl⟩;rw[g0]at J
 have h0:z7 (El z es=xs.any fun y=>y.2==0):=by show _=_;rw[<-g0];rfl
 have r:z7 (P+1<w2.heap.size):=by show _<_;omega
 have E:=Za ((v.o.trans C.o).trans l.o)
 have i0:z7 (w.heap.size<=P+1):=by show _<=_;omega
 refine(wpIn_wide (n:=2)).1 ?_;refine PZ (n:=0) (S:=fun k=>k=P+1) rfl (enters_of Tryz.func212 (by kernel_rfl) rfl) J Zt (fun _=>rfl) (by rintro k rfl;exact r.o)
  (fun pre W=>(∀y,y∈pre->y.2≠0)/\(W.heap[P+1]?=V (z2 #[z6 false] 4)/\Fr (fun k=>k=P+1) w2 W)) (fun co pre W=>(co=.ret/\∃y,y∈pre/\y.2=0)/\(W.heap[P+1]?=V (z2 #[z6 true] 4)/\Fr (fun k=>k=P+1) w2 W))
  (YD.and (YD.pure (fun(pre:List (RD×Nat))=>∀y,y∈pre->y.2≠0)) (YD.and (YD.block r.o) (YD.fr (y7 _)))) (fun co=>YD.and (YD.pure (fun(pre:List (RD×Nat))=>co=.ret/\∃y,y∈pre/\y.2=0)) (YD.and (YD.block r.o) (YD.fr (y7 _)))) ⟨by simp,o2,Zt⟩
  (fun x _ a' _=>a'={tmps:=#[RV,O a n3 c,U (V ⟨P,0,Z⟩),undef,U (V ⟨P+1,0,Z⟩),undef,H G (x.2:Nat),RV,AV,O a n3 c,.func (.func 212) #[] #[U (V ⟨B,0,Z⟩),U (V ⟨B+1+1,0,Z⟩),U (V ⟨B+1,0,Z⟩)],KH x.1,H G (x.2:Nat),undef,undef],defers:=[]})
  (fun x m a' s W W' row hs hg hr=>hs) ?assign ?body ?done ?stop
 case assign=>
  rintro pre x W K hp hi hK;unfold Bj
  gi_wp2
  exact hK _ _ Zt hi rfl
 case body=>
  rintro pre x m a' W hp hm ⟨hi,F,q⟩ rfl;have HI:=Za hi;have HF:=Za q;have HO:=Za F;have z0:=Zc F 0;have z1:=bF F 0;by_cases hx:x.2=0
  ·have hz:((x.2:Int)==0)=true:=by simp[hx]
   have HX:=Za hx
   gi_wp2
   refine⟨Zt.setCell (p:=⟨P+1,0,Z⟩) (.inl (.inl rfl)) _,⟨rfl,x,by simp,HX.o⟩,heap_setCell_same W (P+1) 0 _ _ _ HO.o,HF.o.setCell (p:=⟨P+1,0,Z⟩) (.inl rfl) _⟩
  have hz:((x.2:Int)==0)=false:=by simp;omega
  have HX:=Za hx
  gi_wp2
  refine⟨Zt,fun y I=>?_,HO.o,HF.o⟩;rcases y6.1 I with I|I
  ·exact HI.o y I
  rw[z9.1 I];exact HX.o
 case done=>
  rintro W ⟨hi,F,q⟩ hD;have HI:=Za hi;have HF:=Za q;have HO:=Za F;have HD:=Za hD;have z0:=Zc F 0;have z1:=bF F 0;go_wp2_with fail;have f1:Fr (fun k=>k=P+1) w2 (W.setCell ⟨P+1,0,Z⟩ (z6 false)):=HF.o.setCell (p:=⟨P+1,0,Z⟩) (.inl rfl) _;have o1:=heap_setCell_same W (P+1) 0 _ _ (z6 false) HO.o
  have j0:P+1≠w2.heap.size:=by have:=r.o;omega
  have d1:(W.setCell ⟨P+1,0,Z⟩ (z6 false)).heap[w2.heap.size]?=V (.deferred (V [])):=((Fr.refl (fun k=>k=P+1) W).setCell (p:=⟨P+1,0,Z⟩) (.inl rfl) _).whole HD.o (fun e=>j0 e.symm);refine Vb [w2.heap.size] _ (by simp) (fun D h=>by rw[z9.1 h];exact d1) ?_;have o3:((W.setCell ⟨P+1,0,Z⟩ (z6 false)).putObj w2.heap.size (.deferred Z)).heap[P+1]?=V (z2 #[z6 false] 4):=(z3 (by omega)).trans o1;refine⟨z6 false,?_,?_,?_⟩
  ·have c3:=Zc o3 0
   show(results _ _).run _ ((W.setCell ⟨P+1,0,Z⟩ (z6 false)).putObj w2.heap.size (.deferred Z))=_
   simp[results,Tryz.results180,go_sem,c3];rfl
  ·rw[h0.o]
   congr 2
   symm
   rw[List.any_eq_false];intro y I;have:=HI.o y I;simp[this]
  exact E.o.monoNew (f1.mono (T:=fun k=>k=P+1\/k=w2.heap.size) (fun _ h=>.inl h)|>.trans (Qu (.inr rfl) _)) (fun k h=>.inr (by have:=i0.o;have:=E.o.size;omega))
 rintro co pre W hp ⟨⟨rfl,y,I,I0⟩,F,q⟩ hD;have HF:=Za q;have HO:=Za F;have HD:=Za hD;have HP:=Za hp;have HY:=Za (show y∈pre/\y.2=0 from⟨I,I0⟩)
 gi_wp2
 have j0:P+1≠w2.heap.size:=by have:=r.o;omega
 refine Vb [w2.heap.size] _ (by simp) (fun D h=>by rw[z9.1 h];exact HD.o) ?_;have o3:(W.putObj w2.heap.size (.deferred Z)).heap[P+1]?=V (z2 #[z6 true] 4):=(z3 (by omega)).trans HO.o;refine⟨z6 true,?_,?_,?_⟩
 ·have c3:=Zc o3 0
  show(results _ _).run _ (W.putObj w2.heap.size (.deferred Z))=_
  simp[results,Tryz.results180,go_sem,c3];rfl
 ·rw[h0.o]
  congr 2
  symm
  rw[x4];exact⟨y,HP.o.subset HY.o.1,by simp[HY.o.2]⟩
 exact E.o.monoNew (HF.o.mono (T:=fun k=>k=P+1\/k=w2.heap.size) (fun _ h=>.inl h)|>.trans (Qu (.inr rfl) _)) (fun k h=>.inr (by have:=i0.o;have:=E.o.size;omega))
structure Tg (r:Ze):Prop where
 m4:r.mcc.length<=4
 mx:∀x,x∈r.mcc->x<=9999
 c4:r.cur.length<=4
 cx:∀x,x∈r.cur->x<=999
 am:∀ab,r.am=V ab->ab.1<=ab.2
theorem MP {a:Nat}:∀(l:List Tk)(i:Nat)(ns:List Nat),i<=4->Zp a i l=.ok ns->i+ns.length<=4/\∀x,x∈ns->x<=a
 |[],i,ns,hi,h=>by
  simp only[Zp]at h;injection h with h;subst h;exact⟨by simpa using hi,by simp⟩
 |t::r,i,ns,hi,h=>by
  simp only[Zp]at h
  split at h
  ·cases h
  split at h
  ·cases h
  rename_i g j
  cases b:Zp a (i+1) r with
  |error f=>rw[b]at h;cases h
  |ok d=>
   rw[b]at h;injection h with h;subst h;obtain⟨k,e⟩:=MP r (i+1) d (by omega) b;refine⟨by simp;omega,fun x c=>?_⟩;rcases y4.1 c with rfl|c
   ·omega
   exact e x c
theorem Em {rts b e r}(h:Z8 rts b e=.ok r):Tg r:=by
 unfold Z8 at h
 split at h
 ·cases h
 split at h
 ·cases h
 split at h
 ·cases h
 split at h
 ·cases h
 split at h
 ·cases h
 split at h
 ·cases h
 cases c:Zp 9999 0 e.mcc with
 |error f=>rw[c]at h;cases h
 |ok g=>
  rw[c]at h
  dsimp only at h
  split at h
  ·cases h
  rename_i i
  cases d:Zp 999 0 e.cur with
  |error f=>rw[d]at h;cases h
  |ok j=>
   rw[d]at h
   dsimp only at h
   cases k:Zw rts 0 e.act.routes with
   |error f=>rw[k]at h;cases h
   |ok o=>
    rw[k]at h;injection h with h;subst h;have l:=MP _ 0 _ (by omega) c;have m:=MP _ 0 _ (by omega) d;refine⟨by have:=l.1;dsimp only;omega,l.2,by have:=m.1;dsimp only;omega,m.2,fun p a=>?_⟩
    dsimp only at a
    cases n:e.amount with
    |none=>rw[n]at a;cases a
    |some q=>
     rw[n]at a i;simp only[Option.map_some,Option.some.injEq]at a;subst a
     simpa using i
theorem MQ:∀(d:List Vu)(rts:List Zf)(a:List Ze)(p:List Zf×List Ze),(∀r,r∈a->Tg r)->ZS rts a d=.ok p->∀r,r∈p.2->Tg r
 |[],rts,a,p,hB,h=>by
  simp only[ZS]at h;injection h with h;subst h;exact hB
 | .route e::d,rts,a,p,hB,h=>by
  cases b:ZE rts e with
  |error f=>rw[YQ (f:=f) (by simp only[Vv,b])]at h;cases h
  |ok t=>
   rw[Xn (p:=(rts++[t],a)) (by simp only[Vv,b])]at h;exact MQ d (rts++[t]) a p hB h
 | .rule e::d,rts,a,p,hB,h=>by
  cases b:Z8 rts a e with
  |error f=>rw[YQ (f:=f) (by simp only[Vv,b])]at h;cases h
  |ok t=>
   rw[Xn (p:=(rts,a++[t])) (by simp only[Vv,b])]at h;refine MQ d rts (a++[t]) p (fun r c=>?_) h;rcases y6.1 c with c|c
   ·exact hB r c
   simp at c
   subst c;exact Em b
theorem zJ {s p}(h:XG s=.ok p):∀r,r∈p.2->Tg r:=by
 unfold XG at h
 split at h
 ·cases h
 cases a:ZL s 0 1 []with
 |error l=>rw[a]at h;cases h
 |ok ts=>
  rw[a]at h
  dsimp only at h
  cases b:Zr ts 0 []with
  |error l=>rw[b]at h;cases h
  |ok c=>
   rw[b]at h;exact MQ _ [] [] p (by simp) h
def yE (r:Ze)(a:Option Addr)(b:Nat)(c:Option Addr)(d:Nat)(e:Option Addr)(f:Nat):Array q5:=#[.string r.name,H G r.rank,H G r.digits,H G r.lo,H G r.hi,O a r.mcc.length b,z6 r.am.isSome,H G (r.am.getD (0,0)).1,H G (r.am.getD (0,0)).2,O c r.cur.length d,z6 r.decline,z6 r.cheapest,O e r.routes.length f,H G r.ahead]
def Ud (r:Ze):SJ:=RY r.digits r.lo r.hi r.mcc r.am.isSome (r.am.getD (0,0)).1 (r.am.getD (0,0)).2 r.cur
theorem MR {l m s}(h:s∈Yl l m):(l=[]/\s=(0,m))\/∃n,n∈l/\s=(n,n):=by
 unfold Yl at h
 split at h
 ·rename_i e
  exact .inl ⟨e,by simpa using h⟩
 obtain⟨n,a,rfl⟩:=j3.1 h
 exact .inr ⟨n,a,rfl⟩
theorem Qv {n r}(h:Tf n r)(b:Tg r)(i s)(a:s∈(Ud r).at i):s.1<=s.2/\s.1<=10000000000/\s.2<=10000000000:=by
 have d:∀(l:List Nat)(m:Nat),m<=10000->(∀x,x∈l->x<=m)->s∈Yl l m->s.1<=s.2/\s.1<=10000000000/\s.2<=10000000000:=fun l m p g h=>by
  rcases MR h with⟨_,rfl⟩|⟨n,j,rfl⟩
  ·exact⟨by simp,by simp,by dsimp only;omega⟩
  have:=g n j
  exact⟨y7 _,by dsimp only;omega,by dsimp only;omega⟩
 unfold Ud RY SJ.at at a
 split at a
 ·simp only[z9]at a
  subst a;obtain⟨k,e,o⟩:=h.bn;unfold WQ;have c:0<10^(6-r.digits):=Nat.pow_pos (by decide)
  have q:10^r.digits*10^(6-r.digits)=1000000:=by rw[<-Nat.pow_add,show r.digits+(6-r.digits)=6 from by omega]
  have t:=j0 (10^(6-r.digits)) o;have u:=j0 (10^(6-r.digits)) (show r.hi+1<=10^r.digits from e)
  have v:(r.hi+1)*10^(6-r.digits)=r.hi*10^(6-r.digits)+10^(6-r.digits):=by rw[Nat.add_mul,Nat.one_mul]
  dsimp only
  omega
 ·exact d _ _ (by omega) b.mx a
 ·simp only[z9]at a
  subst a
  cases c:r.am with
  |none=>simp
  |some f=>
   have k:=b.am f c;have e:=h.am f c;simp;omega
 exact d _ _ (by omega) b.cx a
def vM (w:z4)(d:Option Addr)(a:List Ze):Prop:=∀j r,a[j]?=V r->∃g b e c f h i,d=V ⟨g,0,Z⟩/\
 (∀o v,[Value.string r.name,H G r.rank,H G r.digits,H G r.lo,H G r.hi,O b r.mcc.length e,z6 r.am.isSome,H G (r.am.getD (0,0)).1,H G (r.am.getD (0,0)).2,O c r.cur.length f,z6 r.decline,z6 r.cheapest,O h r.routes.length i,H G r.ahead][o]?=V v->w.cell? ⟨g,j*14+o,Z⟩=V v)/\
 Zu w b r.mcc/\Zu w c r.cur
theorem vM.fr {w w' c a}(h:vM w c a)(b:F0 w w'):vM w' c a:=by
 intro j r i;obtain⟨g,k,l,m,n,q,s,e,d,t,u⟩:=h j r i;exact⟨g,k,l,m,n,q,s,e,fun o v f=>(b.cell (p:=⟨g,j*14+o,Z⟩) (bL w _ (d o v f))).trans (d o v f),t.fr b,u.fr b⟩
theorem Bk.rules {w B i d rts a k}(h:Bk w B i d rts a k):∃b c,d=O b a.length c/\vM w b a:=by
 obtain⟨b,c,e⟩:=oL h.lo;refine⟨b,c,e,fun j r l=>?_⟩;obtain⟨g,y,m,n,o,p,q,s,f,_,_,t,u,v,_⟩:=h.rule l;rw[e]at f;injection f with x z A;exact⟨g,m,n,o,p,q,s,x,t,Zu.of u,Zu.of v⟩
def Bq (a:List Ze)(b j:Nat):Bool:=match a[j]?,a[b]? with
 |some r,V q=>decide (q.rank<r.rank)||(decide (r.rank=q.rank)&&decide (j<b))
 |_,_=>false
def Um (a:List Ze)(b:Nat):Nat->List SJ
 |0=>[]
 |k+1=>Um a b k++(match a[k]? with|some r=>if Bq a b k then[Ud r]else[]|none=>[])
theorem Pm (a:List Ze)(b:Nat):∀k,(Um a b k).length<=k
 |0=>y7 _
 |k+1=>by
  have:=Pm a b k;unfold Um;rw[lA]
  split
  ·split<;>simp<;>omega
  simp;omega
theorem Pn (a:List Ze)(f:Nat)(A:SJ):∀k,A∈Um a f k↔∃j r,j<k/\a[j]?=V r/\Bq a f j=true/\A=Ud r
 |0=>by simp[Um]
 |k+1=>by
  have g:=Pn a f A k;unfold Um;rw[y6,g]
  constructor
  ·rintro(⟨j,r,i,b,c,d⟩|h)
   ·exact⟨j,r,by omega,b,c,d⟩
   split at h
   ·rename_i r l
    split at h
    ·rename_i m
     exact⟨k,r,by omega,l,m,by simpa using h⟩
    cases h
   cases h
  rintro⟨j,r,i,b,c,d⟩
  by_cases e:j<k
  ·exact .inl ⟨j,r,e,b,c,d⟩
  obtain rfl:j=k:=by omega
  right
  rw[b];simp[c,d]
