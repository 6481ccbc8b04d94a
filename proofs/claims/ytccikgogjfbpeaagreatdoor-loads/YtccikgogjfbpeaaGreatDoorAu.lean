import Derived.Test.YtccikgogjfbpeaaGreatDoorAt
import Derived.Laws.Tables
import Derived.Lib.RowBridge
open Go.IntKind renaming i64->I
open Go.Value renaming int->J,slice->Y,string->O,bool->B,pointer->z5,agg->y5,oneCell'->x5,int->j4,slice->j6,string->v4
open Option renaming none->V,some->U
open Go.AllReadyH renaming nil->E
open Go.Proofs.Tryz renaming prog->G
open Go.Ending renaming returned->C
open Go.Obj renaming cells->F
open Go.RowKit renaming Hid->z4
open _root_.ByteArray renaming empty->z6
open Or renaming inr->z7,inl->y9
open Go renaming Calls->z8,Value->z9,World->y4
open List renaming take_add_one->y6,mem_map->y7,length_map->y8,take_of_length_le->x8,length_append->q8,getElem?_map->q9,flatMap_cons->j0,length_cons->j3,mem_mergeSort->j5,getElem_mem->j7,length_take->j8,replicate->v3,getD->v5
open Nat renaming le_refl->x7,zero_add->j1,mul_le_mul->j9
open Go.World renaming news_of_block->q0
open Bool renaming and_eq_true->j2
namespace Go.Proofs.YtccikgogjfbpeaaGreatDoor
set_option maxRecDepth 30000
set_option maxHeartbeats 8000000
open Go.RowKit
def UI (p:WC):z9:=y5 #[O p.pan,J I p.mcc,J I p.am,J I p.cur]
def Rv (p:WC):Obj:=F #[O p.pan,J I p.mcc,J I p.am,J I p.cur] 35
def OQ (o:Nat×ByteArray×ByteArray):z9:=y5 #[J I (o.1:Nat),O o.2.1,O o.2.2]
def VX (n m:Int):Bool:=decide (0<=n)&&decide (n<=m)
theorem Xu (p):Y5 p=(XP p.pan&&(VX p.mcc 9999&&(VX p.am 1000000000&&VX p.cur 999))):=by
 unfold Y5 VX;simp only[Bool.and_assoc]
theorem LI (w p)(y:p.pan.size<=maxLen):
  z8 G 62 #[UI p] w fun e w'=>e=C (B (Y5 p))/\F0 w w':=by
 have l:z4 (∀W,z8 G 110 #[O p.pan] W fun e w'=>e=C (B (XP p.pan))/\F0 W w'):=fun W=>CP p.pan W y
 have g:z4 (∀W n m,z8 G 111 #[J I n,J I m] W fun e w'=>e=C (B (VX n m))/\w'=W):=fun W n m=>CO W n m
 obtain⟨q,h⟩:=Vx w (Rv p);rw[Xu];obtain⟨z,r⟩:∃b,XP p.pan=b:=⟨_,rfl⟩;obtain⟨s,t⟩:∃b,VX p.mcc 9999=b:=⟨_,rfl⟩;obtain⟨u,v⟩:∃b,VX p.am 1000000000=b:=⟨_,rfl⟩;obtain⟨A,x⟩:∃b,VX p.cur 999=b:=⟨_,rfl⟩
 have i:z4 (∀W,z8 G 111 #[J I p.mcc,J I 9999] W fun e w'=>e=C (B s)/\w'=W):=fun W=>by rw[<-t];exact g.o W _ _
 have j:z4 (∀W,z8 G 111 #[J I p.am,J I 1000000000] W fun e w'=>e=C (B u)/\w'=W):=fun W=>by rw[<-v];exact g.o W _ _
 have k:z4 (∀W,z8 G 111 #[J I p.cur,J I 999] W fun e w'=>e=C (B A)/\w'=W):=fun W=>by rw[<-x];exact g.o W _ _
 rw[r]at l;rw[r,t,v,x];unfold Rv at q h;unfold UI;go_enter Tryz.func62,Tryz.ntmps62;go_upto_region 1 with fail;generalize w.alloc _=W at*;generalize w.heap.size=X at*;have D:=Zc h.o 0;go_wp2_with fail;refine(l.o _).mono ?_;rintro e E ⟨rfl,f⟩;have c:=Za (q.o.trans f);have d:=f.whole h.o;have F:=Zc d 1;have H:=Zc d 2;have K:=Zc d 3
 cases z with
 |false=>
  go_wp2_with fail;go_ret;exact⟨rfl,c.o⟩
 |true=>
  go_wp2_with fail;refine(i.o _).mono ?_;rintro e w2 ⟨rfl,a⟩;replace a:=a.symm;subst a
  cases s with
  |false=>
   go_wp2_with fail;go_ret;exact⟨rfl,c.o⟩
  |true=>
   go_wp2_with fail;refine(j.o _).mono ?_;rintro e w2 ⟨rfl,a⟩;replace a:=a.symm;subst a
   cases u with
   |false=>
    go_wp2_with fail;go_ret;exact⟨rfl,c.o⟩
   |true=>
    go_wp2_with fail;refine(k.o _).mono ?_;rintro e w2 ⟨rfl,a⟩;replace a:=a.symm;subst a;go_wp2_with fail;go_ret;exact⟨rfl,c.o⟩
theorem JH {w:y4}{b t u0 u1 u2 v0 v1 v2}(h:w.heap[b]?=U (F #[u0,u1,u2] t)):
    (((w.setCell ⟨b,0,V⟩ v0).setCell ⟨b,1,V⟩ v1).setCell ⟨b,2,V⟩ v2).heap[b]?=U (F #[v0,v1,v2] t):=by
  have e:=heap_setCell_same _ b 2 _ _ v2 (heap_setCell_same _ b 1 _ _ v1 (heap_setCell_same w b 0 _ _ v0 h))
  simpa using e
structure OR (zb:Nat)(w:y4)(TT:Nat)(rts:List Zf)(ra:Option Addr)(rc:Nat)(nms:List ByteArray)(prs:List (List Zl))(tr:Tr):Prop where
 bx:∃vn vp a b,w.heap[TT]?=U (F #[Y ra rts.length rc,vn,vp,a,b] 135)/\w.ownsRow zb 9 1 vn nms.length (nms.map v4)/\(∃xs,w.ownsRow zb 129 1 vp prs.length xs/\∀(j:Nat)(l:List Zl),prs[j]?=U l->∃vj,xs[j]?=U vj/\Z2 zb w zb vj l)/\Xf w zb tr (y5 #[a,b])
 ro:w.ownsRow 0 148 3 (Y ra rts.length rc) rts.length (Yh rts)
theorem OR.fr {f w w' g rts i k d e l}(h:OR f w g rts i k d e l)(c:F0 w w'):OR f w' g rts i k d e l:=by
 obtain⟨n,o,a,b,p,q,⟨r,s,t⟩,u⟩:=h.bx;refine⟨⟨n,o,a,b,c.whole p,oF q c,⟨r,oF s c,fun j m v=>?_⟩,u.keep' c (by simp)⟩,oF h.ro c⟩;obtain⟨x,y,z⟩:=t j m v;exact⟨x,y,QU z c⟩
theorem OP.ofN {w b Q base c d}{a:List ByteArray}{i r}(f:w.cell? ⟨b,1,V⟩=U (Y d a.length c))(h:w.ownsRow base 9 1 (Y d a.length c) a.length (a.map v4))(m:w.heap.size<=Q)(hi:a[i]?=U r)(k:r.size<=3000):∃g,OP w b Q i r g a.length c:=by
 have n:b<w.heap.size:=bL w _ f;have l:=(iG.1 hi).1;obtain⟨g,cap,e,_,o⟩:=h.form (by omega);injection e with e _ _;subst e;have j:=h.cells (g:=g) rfl i (O r) (by rw[q9,hi];rfl);rw[Yc,j1]at j;exact⟨g,f,l,j,k,by omega,by omega⟩
structure ze (rts:List Zf)(nms:List ByteArray)(prs:List (List Zl))(tr:Tr):Prop where
 rt:∀t,t∈rts->Lz t
 r6:rts.length<=6
 nm:∀s,s∈nms->s.size<=3000
 gd:∀l,l∈prs->l.length<=1000/\∀s,s∈l->s.sort<3->vz s
 dp:tr.deep 0
def JI (rts:List Zf)(a:List ByteArray)(b:List (List Zl))(c:Tr)(p:WC)(s:Zl):Prop:=
 ∃l,b[c.find (Iu (Zy p.pan)) 0]?=U l/\(∃n,XN (RN p) l n 0=U s)/\(s.sort=6\/((s.sort=3\/s.sort=4\/s.sort=5)/\s.nums.length<=4000/\(∀x,x∈s.nums->x<rts.length)/\s.rule<a.length))
def OS (rts:List Zf)(a:List ByteArray)(p:WC)(b:Nat->Bool)(s:Zl):Nat×ByteArray×ByteArray:=
 if Y5 p then U3 rts (a.getD s.rule z6) s b p.am else(1,z6,z6)
structure xi (w:y4)(zb TT:Nat)(rts:List Zf)(ra:Option Addr)(rc:Nat)(nms:List ByteArray)(prs:List (List Zl))(tr:Tr):Prop where
 tg:OR zb w TT rts ra rc nms prs tr
 bk:ze rts nms prs tr
theorem xi.fr {w w' c d rts e f a b g}(h:xi w c d rts e f a b g)(i:F0 w w'):xi w' c d rts e f a b g:=⟨h.tg.fr i,h.bk⟩
def sO (w:y4)(b:Nat)(c:z9)(a:Nat->Bool):Prop:=∀W,F0 w W->z8 G 63 #[z5 (U ⟨b,0,V⟩),c] W fun e w'=>e=C (y5 #[B (a 0),B (a 1),B (a 2),B (a 3),B (a 4),B (a 5)])/\F0 W w'
theorem CV (w zb c rts ra rc l c0 tr fv a p y)(h:xi w zb c rts ra rc l c0 tr)(L0:sO w c fv a)(he:Y5 p=true->JI rts l c0 tr p y)(hs:p.pan.size<=maxLen):
  z8 G 36 #[z5 (U ⟨c,0,V⟩),UI p,fv] w fun e w'=>e=C (OQ (OS rts l p (a) y))/\F0 w w':=by
 have HH:=Za h;have M0:=Za he;have N0:=Za L0
 have O0:z4 (∀W,z8 G 62 #[y5 #[O p.pan,J I p.mcc,J I p.am,J I p.cur]] W fun e w'=>e=C (B (Y5 p))/\F0 W w'):=fun W=>LI W p hs
 obtain⟨j0,r,d0⟩:=SA w (Rv p) (F #[J I 0,O ⟨#[]⟩,O ⟨#[]⟩] 38);unfold UI;unfold Rv at j0 r d0;go_enter Tryz.func36,Tryz.ntmps36;go_upto_region 1 with fail;generalize(w.alloc _).alloc _=W0 at*;obtain⟨P,hP⟩:∃P,w.heap.size=P:=⟨_,rfl⟩;have P0:=Za hP;rw[hP]at r d0;rw[hP];have x0:=Zc r.o 0;have x1:=Zc r.o 1;have x2:=Zc r.o 2;have x3:=Zc r.o 3;go_wp2_with fail;refine(O0.o _).mono ?_;rintro e d ⟨rfl,e0⟩;have D:=Za (j0.o.trans e0);have k0:=Za (e0.whole r.o);have n:=Za (e0.whole d0.o);have s:=Za (HH.o.fr D.o)
 have z:w.heap.size<=P+1:=by have:=P0.o;omega
 cases l0:Y5 p with
 |false=>
  have HD:z4 (OS rts l p (a) y=(1,z6,z6)):=by show _=_;unfold OS;rw[if_neg (by rw[l0];simp)]
  have o0:=Zc n.o 0;have o1:=Zc n.o 1;have o2:=Zc n.o 2;have Q0:=bF n.o 0;have R0:=bF n.o 1;have S0:=bF n.o 2;go_wp2_with fail;have N:=JH (v0:=J I 1) (v1:=O ⟨#[]⟩) (v2:=O ⟨#[]⟩) n.o;have s0:=Zc N 0;have s1:=Zc N 1;have s2:=Zc N 2;refine bodyPost_ret (v:=y5 #[J I 1,O ⟨#[]⟩,O ⟨#[]⟩]) (by simp[results,Tryz.results36,go_sem,s0,s1,s2]) rfl ⟨by rw[HD.o];rfl,?_⟩;exact((D.o.setCell (p:=⟨P+1,0,V⟩) (z7 z) _).setCell (p:=⟨P+1,1,V⟩) (z7 z) _).setCell (p:=⟨P+1,2,V⟩) (z7 z) _
 |true=>
  have R:=Za l0;go_upto_region 3 with fail
  have m0:z4 (∀W,F0 d W->z8 G 63 #[z5 (U ⟨c,0,V⟩),fv] W fun e w'=>e=C (y5 #[B (a 0),B (a 1),B (a 2),B (a 3),B (a 4),B (a 5)])/\F0 W w'):=by
   exact fun W hW=>N0.o W (D.o.trans hW)
  have t:z4 (∀W,F0 d W->W.cell? ⟨P,0,V⟩=U (O p.pan)/\W.cell? ⟨P,1,V⟩=U (J I p.mcc)/\W.cell? ⟨P,2,V⟩=U (J I p.am)/\W.cell? ⟨P,3,V⟩=U (J I p.cur)):=fun W hW=>by
   have e:=hW.whole k0.o;exact⟨Zc e 0,Zc e 1,Zc e 2,Zc e 3⟩
  go_cut [7] (fun v wx=>∃Q,v=z5 (U ⟨Q,0,V⟩)/\z4 (F0 d wx/\d.heap.size<=Q/\wx.heap[Q]?=U (UC c p (a) 0 false (0,z6,z6))))
  case first=>
   refine wp_region_held_drew (S:=fun W=>W.cell? ⟨P,0,V⟩=U (O p.pan)/\W.cell? ⟨P,1,V⟩=U (J I p.mcc)/\W.cell? ⟨P,2,V⟩=U (J I p.am)/\W.cell? ⟨P,3,V⟩=U (J I p.cur)) (by kernel_rfl) (t.o _ Zt.drew) (fun hH=>?_)
   iterate 4 (refine YO 0 hH ?_;try go_frame)
   refine Xz [4,6] ?_;refine Zb rfl (fun K2 H=>?_) ?_
   ·try rw[if_pos (by rfl)]
    go_simp;refine(m0.o _ (Zt.drew)).mono ?_;rintro e X ⟨rfl,Z⟩;have f:z4 (F0 d X):=(Zt.drew).trans Z;refine H.out _ _ (t.o _ f.o) (fun hH=>?_)
    try go_frame
    refine ZX 5 hH ?_
    try go_frame
    refine Vv 6 (fun K2 H=>?_);go_simp;refine H.out _ _ (t.o _ (f.o.alloc _)) (fun hH=>?_)
    try go_frame
    refine Xz [7] ?_;refine Zb rfl (fun K2 H=>?_) E
    try rw[if_pos (by rfl)]
    refine wp_store_row 127 _ _ rfl X.heap.size #[z5 (U ⟨c,0,V⟩),O p.pan,J I p.mcc,J I p.am,J I p.cur,B (a 0),B (a 1),B (a 2),B (a 3),B (a 4),B (a 5),J I 0,B false,J I 0,O ⟨#[]⟩,O ⟨#[]⟩] rfl rfl 127 _ (heap_alloc_new X _) (by kernel_rfl) rfl (by simp[x5]) ?_;refine H.out _ _ (t.o _ (Fr.setRow (f.o.alloc _) (z7 f.o.size) _)) (fun _=>?_)
    try go_frame
    refine wpAnyH_done (by kernel_rfl) ?_ _;go_wp2_with fail;go_meet;refine⟨X.heap.size,rfl,Fr.setRow (f.o.alloc _) (z7 f.o.size) _,f.o.size,?_⟩;have e:=setRow_heap (X.alloc (F #[z5 V,O ⟨#[]⟩,J I 0,J I 0,J I 0,B false,B false,B false,B false,B false,B false,J I 0,B false,J I 0,O ⟨#[]⟩,O ⟨#[]⟩] 127)) X.heap.size _ #[z5 (U ⟨c,0,V⟩),O p.pan,J I p.mcc,J I p.am,J I p.cur,B (a 0),B (a 1),B (a 2),B (a 3),B (a 4),B (a 5),J I 0,B false,J I 0,O ⟨#[]⟩,O ⟨#[]⟩] _ _ (aN X _);exact e
   refine Zb rfl (fun K2 H=>?_) E
   try rw[if_pos (by rfl)]
   go_simp;refine H.out _ _ (t.o _ ((Zt.drew).alloc _)) (fun hH=>?_)
   try go_frame
   have n0:z4 (F0 d (d.drew.alloc (F #[z5 V,O ⟨#[]⟩,J I 0,J I 0,J I 0,B false,B false,B false,B false,B false,B false,J I 0,B false,J I 0,O ⟨#[]⟩,O ⟨#[]⟩] 127))):=(Zt.drew).alloc _;have T0:z4 ((d.drew.alloc (F #[z5 V,O ⟨#[]⟩,J I 0,J I 0,J I 0,B false,B false,B false,B false,B false,B false,J I 0,B false,J I 0,O ⟨#[]⟩,O ⟨#[]⟩] 127)).heap[d.heap.size]?=U (F #[z5 V,O ⟨#[]⟩,J I 0,J I 0,J I 0,B false,B false,B false,B false,B false,B false,J I 0,B false,J I 0,O ⟨#[]⟩,O ⟨#[]⟩] 127)):=aN d.drew _;refine Vv 4 (fun K2 H=>?_);go_simp;refine(m0.o _ n0.o).mono ?_;rintro e X ⟨rfl,Z⟩;have f:=Za (n0.o.trans Z);have p0:=Za (Z.whole T0.o);refine H.out _ _ (t.o _ f.o) (fun hH=>?_)
   try go_frame
   refine ZX 5 hH ?_
   try go_frame
   refine Xz [7] ?_;refine Zb rfl (fun K2 H=>?_) E
   try rw[if_pos (by rfl)]
   refine wp_store_row 127 _ _ rfl d.heap.size #[z5 (U ⟨c,0,V⟩),O p.pan,J I p.mcc,J I p.am,J I p.cur,B (a 0),B (a 1),B (a 2),B (a 3),B (a 4),B (a 5),J I 0,B false,J I 0,O ⟨#[]⟩,O ⟨#[]⟩] rfl rfl 127 _ p0.o (by kernel_rfl) rfl (by simp[x5]) ?_;refine H.out _ _ (t.o _ (Fr.setRow f.o (z7 (x7 _)) _)) (fun _=>?_)
   try go_frame
   refine wpAnyH_done (by kernel_rfl) ?_ _;go_wp2_with fail;go_meet;exact⟨d.heap.size,rfl,Fr.setRow f.o (z7 (x7 _)) _,x7 _,setRow_heap X d.heap.size _ _ _ _ p0.o⟩
  obtain⟨Q,rfl,HQ⟩:=hcut
  have q0:XP p.pan=true:=by have e:=R.o;rw[Xu,j2]at e;exact e.1
  have V0:0<=p.am/\p.am<=1000000000:=by
   have e:=R.o;rw[Xu]at e;simp only[j2,VX,decide_eq_true_eq]at e;exact e.2.2.1
  obtain⟨lp,a0,X0,Y0⟩:=M0.o R.o;obtain⟨b,b0⟩:∃b,tr.find (Iu (Zy p.pan)) 0=b:=⟨_,rfl⟩;rw[b0]at a0;obtain⟨vn,vp,aa,bb,K,r0,⟨xs,t0,Z0⟩,a1⟩:=s.o.tg.bx;obtain⟨na,nc,e1⟩:=oL r0;subst e1;obtain⟨vj,c1,w0⟩:=Z0 b lp a0;have p1:=(iG.1 a0).1;obtain⟨A,pc,e2,_,y0⟩:=t0.form (by omega);subst e2;have z0:=t0.cells (g:=A) rfl b vj c1;rw[Yc,j1]at z0;have A0:=w0;obtain⟨ys,d1,_⟩:=A0;obtain⟨pa,u,N⟩:=oL d1;subst N;obtain⟨np,B0⟩:∃np,c0.length=np:=⟨_,rfl⟩;obtain⟨ll,f0⟩:∃ll,lp.length=ll:=⟨_,rfl⟩;have M:=HQ.o;have C0:=Za (Ms.of w0 M.2.1);have g1:=Za (PN.of (Zc K 0) s.o.tg.ro M.2.1 s.o.bk.rt);have h1:z4 (xg d zb c 3 0 tr aa bb (Iu (Zy p.pan)) b):=⟨Zc K 3,Zc K 4,a1,s.o.bk.dp,b0⟩
  have i1:z4 (za d c Q rts (l.getD y.rule z6) y):=by
   rcases Y0 with h6|⟨h3,h4,h5,D0⟩
   ·exact y9 h6
   obtain⟨g,hg⟩:=OP.ofN (Q:=Q) (i:=y.rule) (Zc K 1) r0 M.2.1 (gE D0) (s.o.bk.nm _ (j7 _))
   rw[show l.getD y.rule z6=l[y.rule]from by simp[v5,D0]];exact z7 ⟨h3,h4,h5,g,_,_,hg⟩
  have E0:z4 (OS rts l p (a) y=U3 rts (l.getD y.rule z6) y (a) p.am):=by show _=_;unfold OS;rw[if_pos R.o]
  obtain⟨q,G0⟩:∃q,OS rts l p (a) y=q:=⟨_,rfl⟩;have H0:=Za G0
  have g0:z4 (∀m,Fr (fun j=>j=Q) wc m->m.cell? ⟨c,2,V⟩=U (Y (U ⟨A,0,V⟩) np pc)/\m.cell? ⟨P,0,V⟩=U (O p.pan)/\m.cell? ⟨A,b,V⟩=U (Y pa ll u)):=by
   intro m hf;have L:=(M.1.mono).trans hf
   have b1:d.cell? ⟨c,2,V⟩=U (Y (U ⟨A,0,V⟩) np pc):=by rw[<-B0];exact Zc K 2
   have b2:=Zc k0.o 0
   have b3:d.cell? ⟨A,b,V⟩=U (Y pa ll u):=by rw[<-f0];exact z0
   have k1:c<d.heap.size:=bL d _ b1;have k2:P<d.heap.size:=bL d _ b2;have q1:=M.2.1;exact⟨(L.cell (p:=⟨c,2,V⟩) k1 (by show c≠Q;omega)).trans b1,(L.cell (p:=⟨P,0,V⟩) k2 (by show P≠Q;omega)).trans b2,(L.cell (p:=⟨A,b,V⟩) y0 (by show A≠Q;omega)).trans b3⟩
  have HL:z4 (∀m,z4 (F0 wc m)->z8 G 65 #[z5 (U ⟨c,0,V⟩),O p.pan] m fun e w'=>e=C (J I (b:Nat))/\z4 (F0 wc w')/\w'.cell? ⟨c,2,V⟩=U (Y (U ⟨A,0,V⟩) np pc)/\w'.cell? ⟨P,0,V⟩=U (O p.pan)/\w'.cell? ⟨A,b,V⟩=U (Y pa ll u)):=by
   intro m hf;have L:=M.1.trans hf.o;obtain⟨l1,l2,l3,l4,l5⟩:=h1.o;refine(A9 m zb c _ aa bb p.pan b ⟨(L.cell (p:=⟨c,3,V⟩) (bL d _ l1)).trans l1,(L.cell (p:=⟨c,3+1,V⟩) (bL d _ l2)).trans l2,l3.keep' L (by simp),l4,l5⟩ q0).mono ?_;rintro e w' ⟨he,h3⟩;have h4:=hf.o.trans h3;exact⟨he,h4,g0.o _ (h4.mono)⟩
  have HT:z4 (∀m,z4 (F0 wc m)->z8 G 64 #[z5 (U ⟨Q,0,V⟩),Y pa ll u] m fun e w'=>e=C (.tuple #[])/\z4 ((∃k,w'.heap[Q]?=U (UC c p (a) k true q))/\Fr (fun j=>j=Q) wc w')/\w'.cell? ⟨c,2,V⟩=U (Y (U ⟨A,0,V⟩) np pc)/\w'.cell? ⟨P,0,V⟩=U (O p.pan)/\w'.cell? ⟨A,b,V⟩=U (Y pa ll u)):=by
   intro m hf;have L:Fr (fun j=>j=Q) d m:=(M.1.trans hf.o).mono;rw[<-f0];have I0:=s.o.bk.gd lp (mG a0);refine(I8 m Q c p (a) (0,z6,z6) pa u _ y rts ra rc _ (hf.o.whole M.2.2) (C0.o.fr L) I0.2 I0.1 X0 (i1.o.fr L) (g1.o.fr L) s.o.bk.r6 V0).mono ?_
   rintro e w' ⟨he,h2,h3⟩
   have h4:=(hf.o.mono (T:=fun j=>j=Q)).trans h3;rw[<-E0.o,H0.o]at h2;have hS:=g0.o _ h4;rw[<-f0]at hS;exact⟨he,⟨h2,h4⟩,hS⟩
  have hS:=g0.o wc Zt;have r1:z4 (F0 wc wc.drew):=Zt.drew
  have t1:(b:Int)<(np:Int):=by omega
  have J0:=Za M.2.1;have K0:=Za M.1;go_upto_region 4 with fail
  go_region_held3 (fun m=>m.cell? ⟨c,2,V⟩=U (Y (U ⟨A,0,V⟩) np pc)/\m.cell? ⟨P,0,V⟩=U (O p.pan)/\m.cell? ⟨A,b,V⟩=U (Y pa ll u)) (first|assumption|go_keep) (first
   |(go_at_call 65;refine(HL.o _ (by assumption)).mono ?_;rintro e w7 ⟨rfl,y1,m1⟩)
   |(go_at_call 64;refine(HT.o _ (by assumption)).mono ?_;rintro e w7 ⟨rfl,h0,m1⟩))
  obtain⟨kz,i0⟩:=h0.o.1;have z1:=(iA.1 n.o).1;have x:=Za (h0.o.2.whole (K0.o.whole n.o) (fun e=>by have:=J0.o;omega));have n1:z4 (F0 w w7):=(D.o.trans K0.o).monoNew h0.o.2 (fun k hk=>z7 (by have:=J0.o;have:=D.o.size;omega));have A1:=Zc i0 13;have B1:=Zc i0 14;have C1:=Zc i0 15;have o0:=Zc x.o 0;have o1:=Zc x.o 1;have o2:=Zc x.o 2;have Q0:=bF x.o 0;have R0:=bF x.o 1;have S0:=bF x.o 2;go_wp2_with fail;have N:=JH (v0:=J I (q.1:Nat)) (v1:=O q.2.1) (v2:=O q.2.2) x.o;have s0:=Zc N 0;have s1:=Zc N 1;have s2:=Zc N 2;refine bodyPost_ret (v:=y5 #[J I (q.1:Nat),O q.2.1,O q.2.2]) (by simp[results,Tryz.results36,go_sem,s0,s1,s2]) rfl ⟨by rw[H0.o];rfl,?_⟩;exact((n1.o.setCell (p:=⟨P+1,0,V⟩) (z7 z) _).setCell (p:=⟨P+1,1,V⟩) (z7 z) _).setCell (p:=⟨P+1,2,V⟩) (z7 z) _
structure xm (w:y4)(zb TT D:Nat)(rts:List Zf)(ra:Option Addr)(rc:Nat)(nms:List ByteArray)(prs:List (List Zl))(tr:Tr)(a:Option Addr)(c:Nat)(l:List ByteArray):Prop where
 tg:OR zb w TT rts ra rc nms prs tr
 bk:ze rts nms prs tr
 d0:w.cell? ⟨D,0,V⟩=U (Y a l.length c)
 st:Ye w a l
 ln:l.length<=maxLen
theorem xm.fr {w w' f g D rts i j b d k a c l}(h:xm w f g D rts i j b d k a c l)(e:F0 w w'):xm w' f g D rts i j b d k a c l:=
 ⟨h.tg.fr e,h.bk,(e.cell (p:=⟨D,0,V⟩) (bL w _ h.d0)).trans h.d0,h.st.fr e,h.ln⟩
theorem I9 (w o g D rts i j b d k a c l p m)(h:xm w o g D rts i j b d k a c l)(q:Y5 p=true->JI rts b d k p m)(r:p.pan.size<=maxLen):
  z8 G 36 #[z5 (U ⟨g,0,V⟩),UI p,.func (.func 37) #[] #[z5 (U ⟨D,0,V⟩)]] w fun e w'=>e=C (OQ (OS rts b p (Vh rts l) m))/\F0 w w':=
 CV w o g rts i j b d k _ (Vh rts l) p m ⟨h.tg,h.bk⟩ (fun W s=>by
  have f:=h.fr s;obtain⟨t,u,v,x,n,_⟩:=f.tg.bx
  exact CS W g W.heap.size D rts i j a c l (PN.of (Zc n 0) f.tg.ro (x7 _) f.bk.rt) f.bk.r6 f.d0 f.st f.ln) q r
structure tM (w:y4)(zb T TT:Nat)(rts:List Zf)(ra:Option Addr)(rc:Nat)(nms:List ByteArray)(prs:List (List Zl))(tr:Tr)(a:Option Addr)(l:List ByteArray):Prop where
 t1:w.cell? ⟨T,1,V⟩=U (z5 (U ⟨TT,0,V⟩))
 tg:OR zb w TT rts ra rc nms prs tr
 bk:ze rts nms prs tr
 st:Ye w a l
 ln:l.length<=maxLen
theorem Ha (w zb T L rts ra rc i y tr a c l p M)(h:tM w zb T L rts ra rc i y tr a l)(N:Y5 p=true->JI rts i y tr p M)(hs:p.pan.size<=maxLen):
  z8 G 19 #[z5 (U ⟨T,0,V⟩),UI p,Y a l.length c] w fun e w'=>e=C (OQ (OS rts i p (Vh rts l) M))/\F0 w w':=by
 have f0:∀(fn:Fn)(first cap:Array z9)(w:y4),(Instr.makeFunc fn first cap).run G w=.ok (.func fn first cap) w:=fun _ _ _ _=>rfl
 obtain⟨m,r,s,t⟩:=xS w (Rv p) (F #[Y a l.length c] 28) (F #[J I 0,O ⟨#[]⟩,O ⟨#[]⟩] 38);have HH:=Za h;have b0:=Za N;unfold UI;unfold Rv at m r t s;obtain⟨n,hn⟩:∃n,l.length=n:=⟨_,rfl⟩;have HN:=Za hn;rw[hn]at m r t s ⊢;have c0:=Za hs;clear h hs hn N;go_enter Tryz.func19,Tryz.ntmps19;go_upto_region 1 with fail;generalize((w.alloc _).alloc _).alloc _=W at*;obtain⟨P,hP⟩:∃P,w.heap.size=P:=⟨_,rfl⟩;have Q:=Za hP;rw[hP]at r t s;rw[hP];clear hP
 have z:z4 (∀d,F0 W d->z8 G 36 #[z5 (U ⟨L,0,V⟩),y5 #[O p.pan,J I p.mcc,J I p.am,J I p.cur],.func (.func 37) #[] #[z5 (U ⟨P+1,0,V⟩)]] d fun e w'=>e=C (OQ (OS rts i p (Vh rts l) M))/\F0 d w'):=by
  intro d R;have f:=m.o.trans R;have hh:=HH.o;exact I9 d zb L (P+1) rts ra rc i y tr a c l p M ⟨hh.tg.fr f,hh.bk,by rw[HN.o];exact Zc (R.whole s.o) 0,hh.st.fr f,hh.ln⟩ b0.o c0.o
 obtain⟨b,q⟩:∃b,OS rts i p (Vh rts l) M=b:=⟨_,rfl⟩;have d0:=Za q;rw[q]at z;unfold OQ at z
 have A:z4 (∀d,F0 W d->d.cell? ⟨T,1,V⟩=U (z5 (U ⟨L,0,V⟩))/\d.cell? ⟨P,0,V⟩=U (O p.pan)/\d.cell? ⟨P,1,V⟩=U (J I p.mcc)/\d.cell? ⟨P,2,V⟩=U (J I p.am)/\d.cell? ⟨P,3,V⟩=U (J I p.cur)):=fun d R=>by
  have e:=R.whole r.o;have t1:=HH.o.t1;exact⟨((m.o.trans R).cell (p:=⟨T,1,V⟩) (bL w _ t1)).trans t1,Zc e 0,Zc e 1,Zc e 2,Zc e 3⟩
 have Z:z4 (T<P/\w.heap.size<=P+1+1):=⟨by rw[<-Q.o];exact bL w _ HH.o.t1,by rw[Q.o];omega⟩;clear q;refine wp_region_held_drew (S:=fun d=>d.cell? ⟨T,1,V⟩=U (z5 (U ⟨L,0,V⟩))/\d.cell? ⟨P,0,V⟩=U (O p.pan)/\d.cell? ⟨P,1,V⟩=U (J I p.mcc)/\d.cell? ⟨P,2,V⟩=U (J I p.am)/\d.cell? ⟨P,3,V⟩=U (J I p.cur)) (by kernel_rfl) (A.o _ Zt.drew) (fun B=>?_);refine ZX 0 B ?_
 try go_frame
 refine ZX 1 B ?_
 try go_frame
 refine ZX 2 B ?_
 try go_frame
 refine ZX 3 B ?_
 try go_frame
 refine ZX 4 B ?_
 try go_frame
 refine ZX 5 B ?_
 try go_frame
 refine Xz [6] ?_;refine Zb rfl (fun K2 hK=>?_) E
 try rw[if_pos (by rfl)]
 go_simp;refine(z.o _ (Zt.drew)).mono ?_;rintro e x ⟨rfl,a0⟩;have u:=Za ((Zt.drew).trans a0);have g:=Za (u.o.whole t.o);clear a0;refine hK.out _ _ (A.o _ u.o) (fun B=>?_);clear hK K2
 try go_frame
 have o0:=Zc g.o 0;have o1:=Zc g.o 1;have o2:=Zc g.o 2;have g0:=bF g.o 0;have h0:=bF g.o 1;have i0:=bF g.o 2;refine Xz [7] ?_;refine Zb rfl (fun K2 hK=>?_) E
 try rw[if_pos (by rfl)]
 go_simp;have D:Fr (fun j=>j=P+1+1) x (((x.setCell ⟨P+1+1,0,V⟩ (J I (b.1:Nat))).setCell ⟨P+1+1,1,V⟩ (O b.2.1)).setCell ⟨P+1+1,2,V⟩ (O b.2.2)):=(((Fr.refl (fun j=>j=P+1+1) x).setCell (p:=⟨P+1+1,0,V⟩) (y9 rfl) _).setCell (p:=⟨P+1+1,1,V⟩) (y9 rfl) _).setCell (p:=⟨P+1+1,2,V⟩) (y9 rfl) _;have e0:F0 w (((x.setCell ⟨P+1+1,0,V⟩ (J I (b.1:Nat))).setCell ⟨P+1+1,1,V⟩ (O b.2.1)).setCell ⟨P+1+1,2,V⟩ (O b.2.2)):=(m.o.trans u.o).monoNew D (fun k hk=>z7 (by have:=Z.o.2;omega));have H:=JH (v0:=J I (b.1:Nat)) (v1:=O b.2.1) (v2:=O b.2.2) g.o;obtain⟨s0,s1,s2,s3,s4⟩:=A.o _ u.o
 have K:∀X o v,X<P+1+1->x.cell? ⟨X,o,V⟩=U v->(((x.setCell ⟨P+1+1,0,V⟩ (J I (b.1:Nat))).setCell ⟨P+1+1,1,V⟩ (O b.2.1)).setCell ⟨P+1+1,2,V⟩ (O b.2.2)).cell? ⟨X,o,V⟩=U v:=fun X o v hX hv=>(D.cell (p:=⟨X,o,V⟩) (bL x _ hv) (by show X≠P+1+1;omega)).trans hv
 have j0:=Z.o.1;refine hK.out _ _ ⟨K T 1 _ (by omega) s0,K P 0 _ (by omega) s1,K P 1 _ (by omega) s2,K P 2 _ (by omega) s3,K P 3 _ (by omega) s4⟩ (fun _=>?_);clear hK K2 K s0 s1 s2 s3 s4 D
 try go_frame
 generalize((x.setCell ⟨P+1+1,0,V⟩ (J I (b.1:Nat))).setCell ⟨P+1+1,1,V⟩ (O b.2.1)).setCell ⟨P+1+1,2,V⟩ (O b.2.2)=W8 at*;refine wpAnyH_done (by kernel_rfl) ?_ _;go_wp2_with fail;have s0:=Zc H 0;have s1:=Zc H 1;have s2:=Zc H 2;refine bodyPost_ret (v:=y5 #[J I (b.1:Nat),O b.2.1,O b.2.2]) (by simp[results,Tryz.results19,go_sem,s0,s1,s2]) rfl ⟨by rw[d0.o];rfl,e0⟩
structure tN (w:y4)(zb T TT:Nat)(rts:List Zf)(R:List Ze)(ra:Option Addr)(rc:Nat)(a:Option Addr)(l:List ByteArray):Prop where
 t1:w.cell? ⟨T,1,V⟩=U (z5 (U ⟨TT,0,V⟩))
 tr:X7 zb w TT (Y ra rts.length rc) R (Zx (Zv R) R.length)
 ro:w.ownsRow 0 148 3 (Y ra rts.length rc) rts.length (Yh rts)
 bk:Yx rts R
 st:Ye w a l
 ln:l.length<=maxLen
theorem zg {rts R}(a:Yx rts R):ze rts (R.map Ze.name) ((ZG R 7 ⟨0,0⟩ 0 (2^R.length-1) []).2.map fun m=>ZI R m (X6 R.length (Zx (Zv R) R.length))) (ZG R 7 ⟨0,0⟩ 0 (2^R.length-1) []).1:=by
 refine⟨a.rt,a.r6,fun s b=>?_,fun l c=>?_,Mt a⟩
 ·obtain⟨r,d,rfl⟩:=y7.1 b
  exact(a.rl r d).nm
 obtain⟨m,f,rfl⟩:=y7.1 c
 refine⟨?_,fun s b e=>Q6 a.rl m _ s b e⟩;have g:=Sg R m (X6 R.length (Zx (Zv R) R.length))
 have h:(X6 R.length (Zx (Zv R) R.length)).length=R.length:=by simp[X6]
 have i:=a.l8;omega
theorem X7.tg {f w g rts c d R}(h:X7 f w g (Y c rts.length d) R (Zx (Zv R) R.length))(k:w.ownsRow 0 148 3 (Y c rts.length d) rts.length (Yh rts)):OR f w g rts c d (R.map Ze.name) ((ZG R 7 ⟨0,0⟩ 0 (2^R.length-1) []).2.map fun m=>ZI R m (X6 R.length (Zx (Zv R) R.length))) (ZG R 7 ⟨0,0⟩ 0 (2^R.length-1) []).1:=by
 obtain⟨n,o,a,b,p,q,⟨r,s,t⟩,u⟩:=h.bx;refine⟨⟨n,o,a,b,p,by rw[y8];exact q,⟨r,by rw[y8];exact s,fun j l i=>?_⟩,u⟩,k⟩;rw[q9]at i;obtain⟨m,v,e⟩:=Option.map_eq_some_iff.1 i;subst e;exact t j m v
theorem Mu {rts R}(g:Yx rts R)(p)(j:Y5 p=true):JI rts (R.map Ze.name) ((ZG R 7 ⟨0,0⟩ 0 (2^R.length-1) []).2.map fun m=>ZI R m (X6 R.length (Zx (Zv R) R.length))) (ZG R 7 ⟨0,0⟩ 0 (2^R.length-1) []).1 p (Qj R (YF (Zv R) (YX R p (Zy p.pan)) R.length)):=by
 have b:XP p.pan=true:=by have e:=j;rw[Xu,j2]at e;exact e.1
 obtain⟨m,c,d⟩:=zd g p b;refine⟨_,by rw[q9,c];rfl,d,?_⟩;have f:=Ur (Zv R) (YX R p (Zy p.pan)) R.length
 cases k:YF (Zv R) (YX R p (Zy p.pan)) R.length with
 |none=>exact y9 rfl
 |some i=>
  rw[k]at f;obtain⟨r,h⟩:∃r,R[i]?=U r:=⟨_,gE f.1⟩;have a:=g.rl r (mG h);refine z7 ?_
  have hi:i<(R.map Ze.name).length:=by rw[y8];exact f.1
  simp only[Qj,h];unfold UG
  split
  ·exact⟨y9 rfl,by simp,by simp,hi⟩
  split
  ·exact⟨z7 (z7 rfl),a.pl.1,a.pl.2,hi⟩
  exact⟨z7 (y9 rfl),a.pl.1,a.pl.2,hi⟩
theorem Ks {rts R}(p b):OS rts (R.map Ze.name) p b (Qj R (YF (Zv R) (YX R p (Zy p.pan)) R.length))=TR rts R p b:=by
 unfold OS;by_cases a:Y5 p=true
 ·rw[if_pos a,xh p b a _ rfl]
  cases f:YF (Zv R) (YX R p (Zy p.pan)) R.length with
  |none=>simp[Qj,U3]
  |some i=>
   have c:=Ur (Zv R) (YX R p (Zy p.pan)) R.length;rw[f]at c;obtain⟨r,d⟩:∃r,R[i]?=U r:=⟨_,gE c.1⟩
   have e:(Qj R (U i)).rule=i:=by
    simp only[Qj,d];unfold UG
    split
    ·rfl
    split<;>rfl
   rw[e];simp[v5,d]
 rw[if_neg a]
 unfold TR;rw[if_neg a]
theorem FX (w b T d rts R f g a c l p)(h:tN w b T d rts R f g a l)(i:p.pan.size<=maxLen):
  z8 G 19 #[z5 (U ⟨T,0,V⟩),UI p,Y a l.length c] w fun e w'=>e=C (OQ (TR rts R p (Vh rts l)))/\F0 w w':=by
 have e:=Ha w b T d rts f g _ _ _ a c l p _ ⟨h.t1,h.tr.tg h.ro,zg h.bk,h.st,h.ln⟩ (Mu h.bk p) i;rw[Ks]at e;exact e
abbrev Rm:=Nat×Nat
def YY (s:Rm)(n:Nat):Bool:=decide (s.1<=n)&&decide (n<=s.2)
structure SE where
 s0:List Rm
 s1:List Rm
 s2:List Rm
 s3:List Rm
def SE.at (A:SE):Nat->List Rm
 |0=>A.s0
 |1=>A.s1
 |2=>A.s2
 |_=>A.s3
def Xv (A:SE)(side n:Nat):Bool:=(A.at side).any fun s=>YY s n
def Rw (w:y4)(a:Option Addr)(l:List Rm):Prop:=∀k s,l[k]?=U s->∃g o,a=U ⟨g,o,V⟩/\w.cell? ⟨g,o+2*k,V⟩=U (J I (s.1:Nat))/\w.cell? ⟨g,o+2*k+1,V⟩=U (J I (s.2:Nat))
theorem Rw.fr {w w' S a l}(h:Rw w a l)(b:Fr S w w')(c:∀g o,a=U ⟨g,o,V⟩->¬S g:=by simp):Rw w' a l:=by
 intro k s i;obtain⟨g,o,e,d,f⟩:=h k s i;exact⟨g,o,e,(b.cell (p:=⟨g,o+2*k,V⟩) (bL w _ d) (c g o e)).trans d,(b.cell (p:=⟨g,o+2*k+1,V⟩) (bL w _ f) (c g o e)).trans f⟩
structure GU where
 a:Option Addr
 c:Nat
def Xn (x:GU)(l:List Rm):z9:=Y x.a l.length x.c
structure PR (w:y4)(A:SE)(x0 x1 x2 x3:GU):Prop where
 p0:Rw w x0.a A.s0
 p1:Rw w x1.a A.s1
 p2:Rw w x2.a A.s2
 p3:Rw w x3.a A.s3
 few:∀k,(A.at k).length<=10
theorem PR.fr {w w' A b c d e}(h:PR w A b c d e)(a:F0 w w'):PR w' A b c d e:=⟨h.p0.fr a,h.p1.fr a,h.p2.fr a,h.p3.fr a,h.few⟩
def Rn (A:SE)(a b c d:GU):Array z9:=#[Xn a A.s0,Xn b A.s1,Xn c A.s2,Xn d A.s3]
def Hb (a b c d:GU):Nat->GU
 |0=>a
 |1=>b
 |2=>c
 |_=>d
theorem PR.at {w A b c d e}(h:PR w A b c d e)(k):Rw w (Hb b c d e k).a (A.at k):=by
 unfold SE.at Hb
 split
 ·exact h.p0
 ·exact h.p1
 ·exact h.p2
 exact h.p3
theorem JJ {w:y4}{b A a c d e t}(h:w.heap[b]?=U (F (Rn A a c d e) t)){k}(f:k<4):w.cell? ⟨b,k,V⟩=U (Xn (Hb a c d e k) (A.at k)):=by
 have:k=0\/k=1\/k=2\/k=3:=by omega
 rcases this with rfl|rfl|rfl|rfl
 ·exact Zc h 0
 ·exact Zc h 1
 ·exact Zc h 2
 exact Zc h 3
theorem Mv (w)(lo hi n:Nat)(g h i:Int)(l:g=lo)(m:h=hi)(p:i=n):
  z8 G 264 #[y5 #[J I g,J I h],J I i] w fun e w'=>e=C (B (YY (lo,hi) n))/\F0 w w':=by
 subst l m p;have j:=aN w (F #[J I (lo:Int),J I (hi:Int)] 118);have q:=Zc j 0;have r:=Zc j 1;have b:=(Vx w (F #[J I (lo:Int),J I (hi:Int)] 118)).1;by_cases c:lo<=n
 ·have d:(lo:Int)<=(n:Int):=by omega
  by_cases k:n<=hi
  ·have f:(n:Int)<=(hi:Int):=by omega
   have a:z4 (YY (lo,hi) n=true):=by show _=_;simp[YY,c,k]
   go_enter Tryz.func264,Tryz.ntmps264;go_wp2_with fail;go_ret;rw[a.o];exact⟨rfl,b.o⟩
  have f:¬(n:Int)<=(hi:Int):=by omega
  have a:z4 (YY (lo,hi) n=false):=by show _=_;simp[YY,c,k]
  go_enter Tryz.func264,Tryz.ntmps264;go_wp2_with fail;go_ret;rw[a.o];exact⟨rfl,b.o⟩
 have d:¬(lo:Int)<=(n:Int):=by omega
 have a:z4 (YY (lo,hi) n=false):=by show _=_;simp[YY,c]
 go_enter Tryz.func264,Tryz.ntmps264;go_wp2_with fail;go_ret;rw[a.o];exact⟨rfl,b.o⟩
theorem zh (w A c d f i)(side n:Nat)(M O:Int)(h:PR w A c d f i)(Z:side<4)(e1:M=side)(e2:O=n):
  z8 G 245 #[y5 #[Xn c A.s0,Xn d A.s1,Xn f A.s2,Xn i A.s3],J I M,J I O] w fun e w'=>e=C (B (Xv A side n))/\F0 w w':=by
 subst e1 e2;have HA:=Za h;have v:=JJ (t:=215) (aN w (F (Rn A c d f i) 215)) Z;have j:=(Vx w (F #[Xn c A.s0,Xn d A.s1,Xn f A.s2,Xn i A.s3] 215)).1;unfold Rn at v;obtain⟨l,y⟩:∃l,A.at side=l:=⟨_,rfl⟩;obtain⟨x,z⟩:∃x,Hb c d f i side=x:=⟨_,rfl⟩
 have HS:z4 (Rw w x.a l):=by have e:=h.at side;rw[y,z]at e;exact e
 have HV:z4 (Xv A side n=l.any fun s=>YY s n):=by show _=_;unfold Xv;rw[y]
 have D:z4 (l.length<=10):=by have e:=h.few side;rw[y]at e;exact e
 rw[y,z]at v
 have p:(side:Int)<4:=by omega
 unfold Xn at v j ⊢;go_enter Tryz.func245,Tryz.ntmps245;go_wp2_with fail;obtain⟨N,P⟩:∃N,l.length=N:=⟨_,rfl⟩;rw[P]at v ⊢;have q:=Za P
 have Q:N<=10:=by have:=D.o;omega
 go_loopg [8,13] N (fun m _ iv wr=>∃k,k<=N/\m=N-k/\iv=J I (k:Nat)/\z4 (Xv A side n=(l.drop k).any fun s=>YY s n)/\z4 (F0 w wr))
 case atStart=>exact⟨0,by omega,rfl,rfl,by show _=_;rw[List.drop_zero];exact HV.o,j⟩
 obtain⟨k,hk,rfl,rfl,R,b⟩:=hrel;by_cases a0:k<N
 ·have p:(k:Int)<(N:Int):=by omega
  have z:=gE (show k<l.length by have:=q.o;omega);obtain⟨g,o,S,T,U⟩:=(HS.o.fr b.o) k _ z
  have V:z4 (Xv A side n=(YY (l[k]'(by have:=q.o;omega)) n||(l.drop (k+1)).any fun s=>YY s n)):=by
   show _=_
   rw[R.o,dC (by have:=q.o;omega),List.any_cons]
  generalize l[k]'(by have:=q.o;omega)=s at*;obtain⟨lo,hi⟩:=s
  dsimp only at T U
  obtain⟨xa,xc⟩:=x
  dsimp only at S
  subst S;have E:=Za (b.o.alloc (F #[J I (lo:Nat),J I (hi:Nat)] 118));have X:=aN wr (F #[J I (lo:Int),J I (hi:Int)] 118);have z0:=Zc X 0;have z1:=Zc X 1
  have Y:(k:Int)*2=((2*k:Nat):Int):=by omega
  rw[show o+2*k=o+k*2 from by omega]at T;rw[show o+2*k+1=o+k*2+1 from by omega]at U
  have H:z4 (∀W,z8 G 264 #[y5 #[J I (lo:Nat),J I (hi:Nat)],J I (n:Nat)] W fun e w'=>e=C (B (YY (lo,hi) n))/\F0 W w'):=fun W=>Mv W lo hi n _ _ _ rfl rfl rfl
  go_wp2_with fail;refine(H.o _).mono ?_;rintro e w5 ⟨rfl,K⟩;have r:=Za (E.o.trans K)
  cases u:YY (lo,hi) n with
  |true=>
   have L:z4 (Xv A side n=true):=by show _=_;rw[V.o,u];rfl
   go_wp2_with fail;go_ret;rw[L.o];exact⟨rfl,r.o⟩
  |false=>
   have L:z4 (Xv A side n=(l.drop (k+1)).any fun s=>YY s n):=by show _=_;rw[V.o,u];rfl
   go_wp2_with fail;go_roundg (N-(k+1))
   case measure=>omega
   exact⟨k+1,by omega,rfl,by go_num,L,r⟩
 have p:¬(k:Int)<(N:Int):=by omega
 have HE:z4 (Xv A side n=false):=by show _=_;rw[R.o,dL (by have:=q.o;omega)];rfl
 go_wp2_with fail;go_ret;rw[HE.o];exact⟨rfl,b.o⟩
def Rx (Yq:Rm)(n:Nat):List Nat:=if YY Yq n then[n]else[]
def OT (Yq:Rm)(s:Rm):List Nat:=Rx Yq s.1++Rx Yq (s.2+1)
def YB (Yq:Rm)(l:List Rm):List Nat:=l.flatMap (OT Yq)
def VY (Yq s:Rm):Nat->List Nat
 |0=>[]
 |1=>Rx Yq s.1
 |_=>OT Yq s
theorem Mw (Yq n):(Rx Yq n).length<=1:=by unfold Rx;split<;>simp
theorem Hc (Yq s):(OT Yq s).length<=2:=by
 have a:=Mw Yq s.1;have b:=Mw Yq (s.2+1);unfold OT;rw[lA];omega
theorem Ro (Yq:Rm):∀l:List Rm,(YB Yq l).length<=2*l.length
 |[]=>by simp[YB]
 |s::r=>by
  have a:=Ro Yq r;have b:=Hc Yq s;simp only[YB,j0,q8,j3]at*;omega
theorem FY (Yq){l:List Rm}{k s}(h:l[k]?=U s):YB Yq (l.take (k+1))=YB Yq (l.take k)++OT Yq s:=by
 rw[y6,h];simp[YB]
theorem zi (Yq s j):(VY Yq s j).length<=2:=by
 unfold VY
 split
 ·simp
 ·have:=Mw Yq s.1;omega
 exact Hc Yq s
theorem vA {Yq s}(h:YY Yq s.1=true):VY Yq s (0+1)=VY Yq s 0++[s.1]:=by simp[VY,Rx,h]
theorem vB {Yq s}(h:YY Yq s.1=false):VY Yq s (0+1)=VY Yq s 0:=by simp[VY,Rx,h]
theorem vC {Yq s}(h:YY Yq (s.2+1)=true):VY Yq s (1+1)=VY Yq s 1++[s.2+1]:=by
 show OT Yq s=Rx Yq s.1++_
 unfold OT
 congr 1
 unfold Rx;rw[h];rfl
theorem vD {Yq s}(h:YY Yq (s.2+1)=false):VY Yq s (1+1)=VY Yq s 1:=by
 show OT Yq s=Rx Yq s.1
 unfold OT;rw[show Rx Yq (s.2+1)=[]from by unfold Rx;rw[h];rfl,List.append_nil]
theorem zj (w Yq)(x:GU)(l)(hS:Rw w x.a l)(hl:l.length<=10)(hb:∀s,s∈l->s.1<=10000000000/\s.2<=10000000000):
  z8 G 242 #[y5 #[J I (Yq.1:Nat),J I (Yq.2:Nat)],Y x.a l.length x.c] w fun e w'=>(∃v,e=C v/\w'.ownsRow w.heap.size 3 1 v (YB Yq l).length (Zg (YB Yq l))/\((YB Yq l).length=0->v=Y V 0 0))/\F0 w w':=by
 obtain⟨ii,hi,c0,d0,e0⟩:=info_parts Y2;obtain⟨lo,b⟩:=Yq
 dsimp only
 have HS:=Za hS;have HB:=Za hb;obtain⟨f0,O⟩:=Vx w (F #[J I (lo:Nat),J I (b:Nat)] 118);obtain⟨N,hN⟩:∃N,l.length=N:=⟨_,rfl⟩;have HN:=Za hN
 have y0:N<=10:=by omega
 rw[hN];go_enter Tryz.func242,Tryz.ntmps242;go_wp2_with fail;generalize w.alloc _=w0 at*;obtain⟨P,hP⟩:∃P,w.heap.size=P:=⟨_,rfl⟩;have HP:=Za hP;rw[hP]at O;rw[hP]
 go_loopg [5,7,9,12] N (fun m Q _ _ iv wr=>∃k,k<=N/\m=N-k/\iv=J I (k:Nat)/\z4 ((YB (lo,b) (l.take k)).length=0->Q=Y V 0 0)/\z4 (wr.ownsRow (P+1) 3 1 Q (YB (lo,b) (l.take k)).length (Zg (YB (lo,b) (l.take k))))/\z4 (F0 w wr)/\z4 (wr.heap[P]?=U (F #[J I (lo:Nat),J I (b:Nat)] 118)))
 case atStart=>exact⟨0,by omega,rfl,rfl,fun _=>rfl,oZ _ _ _ _,f0,O⟩
 obtain⟨k,K,rfl,rfl,HZ,HO,y,g0⟩:=hrel;by_cases A0:k<N
 ·have h0:(k:Int)<(N:Int):=by omega
  have hx:=gE (show k<l.length by have:=HN.o;omega);obtain⟨g,o,ea,h1,h2⟩:=(HS.o.fr y.o) k _ hx;have i0:=HB.o _ (j7 (show k<l.length by have:=HN.o;omega));have R:=Za (FY (lo,b) hx);generalize l[k]'(by have:=HN.o;omega)=s at*;obtain⟨d,f⟩:=s
  dsimp only at h1 h2 i0
  obtain⟨xa,xc⟩:=x
  dsimp only at ea
  subst ea;rw[show o+2*k=o+k*2 from by omega]at h1;rw[show o+2*k+1=o+k*2+1 from by omega]at h2;have hb:=aN wr (F #[J I (d:Int),J I (f:Int)] 118);have z0:=Zc hb 0;have z1:=Zc hb 1;have z:=(Vx wr (F #[J I (d:Int),J I (f:Int)] 118)).1;go_wp2_with fail;have j0:=Za (y.o.trans z.o);have k0:=Za (oF HO.o z.o);have l0:=Za (z.o.whole g0.o);generalize wr.alloc _=w1 at*
  go_loopg [5,9,22] 2 (fun m Q _ jv wq=>∃j,j<=2/\m=2-j/\jv=J I (j:Nat)/\z4 ((YB (lo,b) (l.take k)++VY (lo,b) (d,f) j).length=0->Q=Y V 0 0)/\z4 (wq.ownsRow (P+1) 3 1 Q (YB (lo,b) (l.take k)++VY (lo,b) (d,f) j).length (Zg (YB (lo,b) (l.take k)++VY (lo,b) (d,f) j)))/\z4 (F0 w wq)/\z4 (wq.heap[P]?=U (F #[J I (lo:Nat),J I (b:Nat)] 118)))
  case atStart=>exact⟨0,by omega,rfl,rfl,fun h=>HZ.o (by simpa[VY]using h),by show World.ownsRow _ _ _ _ _ _ _;simpa[VY]using k0.o,j0,l0⟩
  obtain⟨j,hj,rfl,rfl,A,r,S,t⟩:=hrel;obtain⟨L,M,ho⟩:=oL r.o;subst ho;obtain⟨i,u⟩:∃i,(YB (lo,b) (l.take k)++VY (lo,b) (d,f) j).length=i:=⟨_,rfl⟩
  have B0:i<=40:=by
   rw[<-u,lA];have e1:=Ro (lo,b) (l.take k);have e2:=zi (lo,b) (d,f) j;rw[j8]at e1;omega
  have n:=Za u;rw[u]at r A;rw[u];by_cases C0:j<2
  ·have z0:=bC t.o 0 _ rfl
   have z1:=Zc t.o 1
   have m0:(j:Int)<2:=by omega
   obtain⟨q,D0,E0,n0,o0⟩:∃q:Nat,q<=10000000001/\(∀W:y4,(Instr.index 355 (y5 #[J I (d:Int),J I ((f:Int)+1)]) (J I (j:Nat))).run G W=.ok (J I (q:Nat)) W)/\z4 (YY (lo,b) q=true->VY (lo,b) (d,f) (j+1)=VY (lo,b) (d,f) j++[q])/\z4 (YY (lo,b) q=false->VY (lo,b) (d,f) (j+1)=VY (lo,b) (d,f) j):=by
    rcases(by omega:j=0\/j=1)with rfl|rfl
    ·exact⟨d,by omega,fun _=>by kernel_rfl,vA (s:=(d,f)),vB (s:=(d,f))⟩
    exact⟨f+1,by omega,fun _=>by kernel_rfl,vC (s:=(d,f)),vD (s:=(d,f))⟩
   go_wp2_with fail;refine(Mv _ lo b q _ _ _ rfl rfl rfl).mono ?_;rintro e w5 ⟨rfl,B⟩;have D:=Za (S.o.trans B);have E:=Za (oF r.o B);have H:=Za (B.whole t.o)
   cases T:YY (lo,b) q with
   |true=>
    have X:=Za (n0.o T)
    go_wp2_with (at_builtin;refine wpList_append_lies _ rfl (.tmp 28) (.tmp 30) 25 rfl (P+1) 3 ii _ 1 8 Tryz.underlying25 hi c0 d0 e0 rfl (by decide) (Y L i M) i (Zg (YB (lo,b) (l.take k)++VY (lo,b) (d,f) j)) rfl ?q1 ⟨w5.heap.size,0,V⟩ 1 1 [J I (q:Nat)] rfl rfl ?q2 ?q3 (by decide) ?q4 ?q5 ?q6 _ rfl ?_)
    case q1=>exact E.o.alloc _
    case q2=>exact q0 (aN w5 (F #[J I (q:Nat)] 3))
    case q3=>simp[x5]
    case q4=>unfold maxLen;omega
    case q5=>omega
    case q6=>have h6:=D.o.size;have h7:=(iA.1 H.o).1;simp;omega
    intro g2 Z w8 a0 p G0 _
    have b0:∀k,(j6 L i M).ownBlock=U k->P+1<=k:=fun k K=>(E.o.lt k K).1
    have p0:=Za ((D.o.alloc _).grown p (fun k K=>z7 (by have:=b0 k K;have:=HP.o;omega)));have r0:=Za ((((Fr.refl (fun k=>(j6 L i M).ownBlock=U k) w5).alloc _).grown p (fun k K=>y9 K)).whole H.o (fun e=>by have:=b0 P e;omega))
    have s0:z4 (w8.ownsRow (P+1) 3 1 (Y (U ⟨g2,0,V⟩) (i+1) Z) (YB (lo,b) (l.take k)++VY (lo,b) (d,f) (j+1)).length (Zg (YB (lo,b) (l.take k)++VY (lo,b) (d,f) (j+1)))):=by
     rw[X.o,<-List.append_assoc,XU,lA,n.o];exact a0
    go_wp2_with fail;go_roundg (2-(j+1))
    case measure=>omega
    exact⟨j+1,by omega,rfl,by go_num,fun h=>by rw[X.o]at h;simp at h,s0,p0,r0⟩
   |false=>
    have X:=Za (o0.o T)
    have t0:z4 (w5.ownsRow (P+1) 3 1 (Y L i M) (YB (lo,b) (l.take k)++VY (lo,b) (d,f) (j+1)).length (Zg (YB (lo,b) (l.take k)++VY (lo,b) (d,f) (j+1)))):=by
     rw[X.o,n.o];exact E.o
    go_wp2_with fail;go_roundg (2-(j+1))
    case measure=>omega
    exact⟨j+1,by omega,rfl,by go_num,fun h=>A.o (by rw[X.o,n.o]at h;exact h),t0,D,H⟩
  have m0:¬(j:Int)<2:=by omega
  have ej:j=2:=by omega
  have v0:z4 ((YB (lo,b) (l.take (k+1))).length=0->j6 L i M=Y V 0 0):=fun h=>A.o (by rw[show YB (lo,b) (l.take (k+1))=YB (lo,b) (l.take k)++VY (lo,b) (d,f) j from by rw[R.o,ej];rfl,n.o]at h;exact h)
  have x0:z4 (wr.ownsRow (P+1) 3 1 (Y L i M) (YB (lo,b) (l.take (k+1))).length (Zg (YB (lo,b) (l.take (k+1))))):=by
   have e:=r.o;rw[show YB (lo,b) (l.take (k+1))=YB (lo,b) (l.take k)++VY (lo,b) (d,f) j from by rw[R.o,ej];rfl,n.o];exact e
  go_wp2_with fail;go_roundg (N-(k+1))
  case measure=>omega
  exact⟨k+1,by omega,rfl,by go_num,v0,x0,S,t⟩
 have h0:¬(k:Int)<(N:Int):=by omega
 have HE:z4 (l.take k=l):=by show _=_;rw[x8 (by have:=HN.o;omega)]
 go_wp2_with fail;go_ret;refine⟨⟨_,rfl,?_,fun h=>HZ.o (by rw[HE.o];simpa using h)⟩,y.o⟩;have e:=HO.o;rw[HE.o]at e;exact oS e (by have:=HP.o;omega)
structure Ta where
 A:SE
 x0:GU
 x1:GU
 x2:GU
 x3:GU
def Q7 (e:Ta):List z9:=[Xn e.x0 e.A.s0,Xn e.x1 e.A.s1,Xn e.x2 e.A.s2,Xn e.x3 e.A.s3]
def Ve (es:List Ta):List z9:=es.flatMap Q7
theorem Ou (es e):Ve (es++[e])=Ve es++Q7 e:=by simp[Ve]
def Ta.ok (w:y4)(e:Ta):Prop:=PR w e.A e.x0 e.x1 e.x2 e.x3
def VZ (w:y4)(a:Option Addr)(es:List Ta):Prop:=∀k e,es[k]?=U e->e.ok w/\∃g o,a=U ⟨g,o,V⟩/\∀j v,(Q7 e)[j]?=U v->w.cell? ⟨g,o+k*4+j,V⟩=U v
theorem VZ.fr {w w' a es}(h:VZ w a es)(b:F0 w w'):VZ w' a es:=by
 intro k e f;obtain⟨i,g,o,l,c⟩:=h k e f;exact⟨i.fr b,g,o,l,fun j v d=>(b.cell (p:=⟨g,o+k*4+j,V⟩) (bL w _ (c j v d))).trans (c j v d)⟩
def Vi (side n:Nat)(es:List Ta):List Ta:=es.filter fun e=>Xv e.A side n
theorem CW {side n}{es:List Ta}{k e}(h:es[k]?=U e):Vi side n (es.take (k+1))=Vi side n (es.take k)++(if Xv e.A side n then[e]else[]):=by
 rw[y6,h];simp only[Vi,Option.toList,List.filter_append]
 congr 1
 cases a:Xv e.A side n<;>simp[a]
theorem Hd (side n es):(Vi side n es).length<=es.length:=List.length_filter_le _ _
theorem RO:(G.info? 215).map (fun i=>(i.zero,i.size,i.bytes))=U (U (y5 #[Y V 0 0,Y V 0 0,Y V 0 0,Y V 0 0]),4,96):=by kernel_rfl
theorem FZ (w side n a c es)(hs:side<4)(h:VZ w a es)(hl:es.length<=10):
  z8 G 214 #[J I (side:Nat),J I (n:Nat),Y a es.length c] w fun e w'=>(∃v,e=C v/\w'.ownsRow w.heap.size 215 4 v (Vi side n es).length (Ve (Vi side n es)))/\F0 w w':=by
 obtain⟨ii,hi,P,R,S⟩:=info_parts RO;have HA:=Za h;obtain⟨N,T⟩:∃N,es.length=N:=⟨_,rfl⟩;have W:=Za T
 have g0:N<=10:=by omega
 have X:=Za hs;rw[T];clear h hl T;go_enter Tryz.func214,Tryz.ntmps214;go_wp2_with fail
 go_loopg [7,9,12] N (fun m ov _ iv wr=>∃k,k<=N/\m=N-k/\iv=J I (k:Nat)/\z4 (wr.ownsRow w.heap.size 215 4 ov (Vi side n (es.take k)).length (Ve (Vi side n (es.take k))))/\z4 (F0 w wr))
 case atStart=>exact⟨0,by omega,rfl,rfl,oZ _ _ _ _,Zt⟩
 obtain⟨k,hk,rfl,rfl,B,q⟩:=hrel;by_cases i0:k<N
 ·have Z:(k:Int)<(N:Int):=by omega
  obtain⟨oa,oc,ho⟩:=oL B.o;subst ho;obtain⟨x,d⟩:∃x,(Vi side n (es.take k)).length=x:=⟨_,rfl⟩
  have j0:x<=10:=by rw[<-d];have h1:=Hd side n (es.take k);rw[j8]at h1;omega
  have D:=Za d;rw[d]at B;rw[d];have hx:=gE (show k<es.length by have:=W.o;omega);obtain⟨h0,g,o,ea,E⟩:=(HA.o.fr q.o) k _ hx;have H:=Za (CW (side:=side) (n:=n) hx);generalize es[k]'(by have:=W.o;omega)=e at*;subst ea;obtain⟨A,f,i,j,l⟩:=e;have H0:=Za h0;have c0:wr.cell? ⟨g,o+k*4,V⟩=U (Y f.a A.s0.length f.c):=E 0 _ rfl;have c1:wr.cell? ⟨g,o+k*4+1,V⟩=U (Y i.a A.s1.length i.c):=E 1 _ rfl;have c2:wr.cell? ⟨g,o+k*4+2,V⟩=U (Y j.a A.s2.length j.c):=E 2 _ rfl;have c3:wr.cell? ⟨g,o+k*4+3,V⟩=U (Y l.a A.s3.length l.c):=E 3 _ rfl;obtain⟨r,b⟩:=Vx wr (F #[Y f.a A.s0.length f.c,Y i.a A.s1.length i.c,Y j.a A.s2.length j.c,Y l.a A.s3.length l.c] 215);clear E hx h0 d;go_upto_region 5 with fail;clear c0 c1 c2 c3;have K:=Za (oF B.o r.o);have L:=Za (q.o.trans r.o);have a0:z4 (PR _ A f i j l):=Za (H0.o.fr r.o);generalize wr.alloc _=w1 at*;obtain⟨Q,hQ⟩:∃Q,wr.heap.size=Q:=⟨_,rfl⟩;rw[hQ]at b;rw[hQ];clear hQ r B q H0;have y0:=Zc b.o 0;have y1:=Zc b.o 1;have y2:=Zc b.o 2;have y3:=Zc b.o 3;go_wp2_with fail;refine(zh w1 A f i j l side n _ _ a0.o X.o rfl rfl).mono ?_;rintro e w5 ⟨rfl,s⟩;have y:=Za (L.o.trans s);have z:=Za (oF K.o s);have t:=Za (s.whole b.o);clear s y0 y1 y2 y3 L K b
  cases O:Xv A side n with
  |true=>
   have HC:z4 (Vi side n (es.take (k+1))=Vi side n (es.take k)++[⟨A,f,i,j,l⟩]):=by show _=_;rw[H.o];simp[O]
   have y0:=Zc t.o 0;have y1:=Zc t.o 1;have y2:=Zc t.o 2;have y3:=Zc t.o 3;clear O
   go_wp2_with (at_builtin;refine wpList_append_lies _ rfl (.tmp 20) (.tmp 22) 217 rfl w.heap.size 215 ii _ 4 96 Tryz.underlying217 hi P R S rfl (by decide) (Y oa x oc) x (Ve (Vi side n (es.take k))) rfl ?h1 ⟨w5.heap.size,0,V⟩ 1 1 [Y f.a A.s0.length f.c,Y i.a A.s1.length i.c,Y j.a A.s2.length j.c,Y l.a A.s3.length l.c] rfl rfl ?h2 ?h3 (by decide) ?h4 ?h5 ?h6 _ rfl ?_)
   case h1=>exact z.o.alloc _
   case h2=>exact q0 (aN w5 (F #[Y f.a A.s0.length f.c,Y i.a A.s1.length i.c,Y j.a A.s2.length j.c,Y l.a A.s3.length l.c] 215))
   case h3=>simp[x5]
   case h4=>unfold maxLen;omega
   case h5=>omega
   case h6=>have:=y.o.size;simp;omega
   intro g2 M w8 u p b0 _;have d0:=Za ((y.o.alloc _).grown p (fun k hk=>z7 (z.o.lt k hk).1))
   have e0:z4 (w8.ownsRow w.heap.size 215 4 (Y (U ⟨g2,0,V⟩) (x+1) M) (Vi side n (es.take (k+1))).length (Ve (Vi side n (es.take (k+1))))):=by
    rw[HC.o,Ou,lA,D.o];exact u
   clear u p b0 y0 y1 y2 y3;go_wp2_with fail;go_roundg (N-(k+1))
   case measure=>omega
   exact⟨k+1,by omega,rfl,by go_num,e0,d0⟩
  |false=>
   have f0:z4 (w5.ownsRow w.heap.size 215 4 (Y oa x oc) (Vi side n (es.take (k+1))).length (Ve (Vi side n (es.take (k+1))))):=by
    have e:Vi side n (es.take (k+1))=Vi side n (es.take k):=by rw[H.o];simp[O]
    rw[e,D.o];exact z.o
   clear O;go_wp2_with fail;go_roundg (N-(k+1))
   case measure=>omega
   exact⟨k+1,by omega,rfl,by go_num,f0,y⟩
 have Z:¬(k:Int)<(N:Int):=by omega
 have HE:z4 (es.take k=es):=by show _=_;rw[x8 (by have:=W.o;omega)]
 go_wp2_with fail;go_ret;refine⟨⟨_,rfl,?_⟩,q.o⟩;have e:=B.o;rw[HE.o]at e;exact e
def WN (d lo hi:Nat):Rm:=(lo*10^(6-d),(hi+1)*10^(6-d)-1)
theorem xn {k}(h:k<=6):10^k<=1000000:=Nat.pow_le_pow_right (by decide) h
theorem CX (w h rk dg lo hi i j l b m n r s t u x y z A B)(hd:dg<=6)(a0:lo<=hi)(b0:hi<1000000):
  z8 G 173 #[GS h rk dg lo hi i j l b m n r s t u x y z A B] w fun e w'=>e=C (y5 #[J I ((WN dg lo hi).1:Nat),J I ((WN dg lo hi).2:Nat)])/\F0 w w':=by
 obtain⟨D,E⟩:=Vx w (Lm h rk dg lo hi i j l b m n r s t u x y z A B);have a:=(SA w (Lm h rk dg lo hi i j l b m n r s t u x y z A B) (F #[J I 0,J I 0] 118)).2.2;have f:z4 (F0 (w.alloc (Lm h rk dg lo hi i j l b m n r s t u x y z A B)) ((w.alloc (Lm h rk dg lo hi i j l b m n r s t u x y z A B)).alloc (F #[J I 0,J I 0] 118))):=Zt.alloc _;unfold Lm at E D a f;unfold GS;go_enter Tryz.func173,Tryz.ntmps173;go_upto_region 1 with fail;generalize w.alloc _=w0 at*;generalize w0.alloc _=w1 at*;have c:=Za (f.o.whole E.o);have O:=Za (D.o.trans f.o);obtain⟨P,Q⟩:∃P,w.heap.size=P:=⟨_,rfl⟩;have HP:=Za Q;rw[Q]at c a;rw[Q];have x2:=Zc c.o 2;have x3:=Zc c.o 3;have x4:=Zc c.o 4;obtain⟨q,L⟩:∃q,6-dg=q:=⟨_,rfl⟩
 have R:(6:Int)-(dg:Int)=(q:Int):=by omega
 have S:q<=6:=by omega
 have T:z4 (WN dg lo hi=(lo*10^q,(hi+1)*10^q-1)):=by show _=_;unfold WN;rw[L]
 go_wp2_with fail
 try rw[R]
 go_loop [3,7] (fun zv U=>∃k:Nat,k<=q/\zv=J I ((10^k:Nat):Int)/\U=J I (k:Nat)) (fun _ U=>q-(intOf U).toNat)
 case atStart=>exact⟨0,by omega,rfl,rfl⟩
 obtain⟨k,hk,rfl,rfl⟩:=hrel;by_cases c0:k<q
 ·have W:(k:Int)<(q:Int):=by omega
  obtain⟨Z,d⟩:∃Z,10^k=Z:=⟨_,rfl⟩
  have g:Z<=1000000:=by rw[<-d];exact xn (by omega)
  rw[d];go_wp2_with fail;exact⟨⟨k+1,by omega,by rw[Nat.pow_succ,d];simp,by go_num⟩,by simp[intOf];omega⟩
 have W:¬(k:Int)<(q:Int):=by omega
 have X:q=k:=by omega
 subst X;obtain⟨Z,d⟩:∃Z,10^q=Z:=⟨_,rfl⟩
 have g:Z<=1000000:=by rw[<-d];exact xn S
 have Y:0<Z:=by rw[<-d];exact Nat.pow_pos (by decide)
 rw[d]at T;rw[d];have m1:lo*Z<=1000000*1000000:=j9 (by omega) g;have m2:(hi+1)*Z<=1000000*1000000:=j9 (by omega) g;have m3:1<=(hi+1)*Z:=Nat.mul_pos (by omega) Y
 have i1:(lo:Int)*(Z:Int)=((lo*Z:Nat):Int):=by simp
 have i2:((hi:Int)+1)*(Z:Int)=(((hi+1)*Z:Nat):Int):=by simp
 obtain⟨M1,H⟩:∃M,lo*Z=M:=⟨_,rfl⟩;obtain⟨N,K⟩:∃M,(hi+1)*Z=M:=⟨_,rfl⟩;rw[H,K]at T;rw[H]at m1 i1;rw[K]at m2 m3 i2;have f0:=Zc a.o 0;have f1:=Zc a.o 1;have z0:=bF a.o 0;have z1:=bF a.o 1;go_wp2_with fail
 have i3:((N:Int)-1)=((N-1:Nat):Int):=by omega
 rw[i3];have e1:=heap_setCell_same w1 (P+1) 0 _ _ (J I (M1:Nat)) a.o;have e2:=heap_setCell_same _ (P+1) 1 _ _ (J I ((N-1:Nat):Int)) e1;have s0:=Zc e2 0;have s1:=Zc e2 1
 have L:w.heap.size<=P+1:=by have:=HP.o;omega
 rw[T.o];refine bodyPost_ret (v:=y5 #[J I (M1:Nat),J I ((N-1:Nat):Int)]) (by simp[results,Tryz.results173,go_sem,s0,s1]) rfl ⟨rfl,?_⟩;exact(O.o.setCell (p:=⟨P+1,0,V⟩) (z7 L) _).setCell (p:=⟨P+1,1,V⟩) (z7 L) _
def Yk (l:List Nat)(a:Nat):List Rm:=if l=[]then[(0,a)]else l.map fun n=>(n,n)
def RP (l:List Rm):List z9:=l.flatMap fun s=>[J I (s.1:Nat),J I (s.2:Nat)]
theorem F1 (l s):RP (l++[s])=RP l++[J I (s.1:Nat),J I (s.2:Nat)]:=by simp[RP]
theorem LJ:(G.info? 118).map (fun i=>(i.zero,i.size,i.bytes))=U (U (y5 #[J I 0,J I 0]),2,16):=by kernel_rfl
theorem Dn (w:y4)(a b):(w.alloc (F #[J I (a:Nat),J I (b:Nat)] 118)).ownsRow w.heap.size 118 2 (Y (U ⟨w.heap.size,0,V⟩) 1 1) 1 [J I (a:Nat),J I (b:Nat)]:=
 ⟨rfl,.inr ⟨w.heap.size,1,#[J I (a:Nat),J I (b:Nat)],rfl,x7 _,aN w _,x7 _,by unfold maxLen;simp,by simp,by simp⟩⟩
theorem F2 (w a c l b)(h:Zu w a l)(hl:l.length<=4000):
  z8 G 174 #[Y a l.length c,J I (b:Nat)] w fun e w'=>(∃v,e=C v/\w'.ownsRow w.heap.size 118 2 v (Yk l b).length (RP (Yk l b)))/\F0 w w':=by
 obtain⟨L,hi,s,t,u⟩:=info_parts LJ;by_cases x:l=[]
 ·subst x
  have j:=Za (Dn w 0 b);have M:=(Vx w (F #[J I (0:Nat),J I (b:Nat)] 118)).1
  show z8 _ _ #[Y a 0 c,_] _ _
  go_enter Tryz.func174,Tryz.ntmps174;go_wp2_with fail;go_ret;exact⟨⟨_,rfl,j.o⟩,M.o⟩
 obtain⟨N,D⟩:∃N,l.length=N:=⟨_,rfl⟩
 have O:((N:Int)==0)=false:=by
  have:l.length≠0:=fun e=>x (List.eq_nil_of_length_eq_zero e)
  simp;omega
 have q:=Za D;have P:=Za h
 have Q:N<=4000:=by omega
 have R:z4 (Yk l b=l.map fun n=>(n,n)):=by show _=_;unfold Yk;rw[if_neg x]
 rw[D];go_enter Tryz.func174,Tryz.ntmps174;go_wp2_with fail
 go_loopg [5,7,16] N (fun m S _ T wr=>∃k,k<=N/\m=N-k/\T=J I (k:Nat)/\z4 (wr.ownsRow w.heap.size 118 2 S k (RP ((l.take k).map fun n=>(n,n))))/\z4 (F0 w wr))
 case atStart=>exact⟨0,by omega,rfl,rfl,oZ _ _ _ _,Zt⟩
 obtain⟨k,E,rfl,rfl,j,d⟩:=hrel;obtain⟨W,X,Z⟩:=oL j.o;subst Z;by_cases a0:k<N
 ·have z:(k:Int)<(N:Int):=by omega
  have H:=gE (show k<l.length by have:=q.o;omega);obtain⟨g,ea,K⟩:=P.o k _ H
  have HT:z4 (l.take (k+1)=l.take k++[l[k]'(by have:=q.o;omega)]):=by show _=_;rw[y6,H];rfl
  generalize l[k]'(by have:=q.o;omega)=y at*;subst ea;have b0:=(d.o.cell (p:=⟨g,k,V⟩) (bL w _ K)).trans K
  go_wp2_with (at_builtin;refine wpList_append_lies _ rfl (.tmp 20) (.tmp 24) 213 rfl w.heap.size 118 L _ 2 16 Tryz.underlying213 hi s t u rfl (by decide) (Y W k X) k (RP ((l.take k).map fun n=>(n,n))) rfl ?h1 ⟨wr.heap.size,0,V⟩ 1 1 [J I (y:Nat),J I (y:Nat)] rfl rfl ?h2 ?h3 (by decide) ?h4 ?h5 ?h6 _ rfl ?_)
  case h1=>exact j.o.alloc _
  case h2=>exact q0 (aN wr (F #[J I (y:Nat),J I (y:Nat)] 118))
  case h3=>simp[x5]
  case h4=>unfold maxLen;omega
  case h5=>omega
  case h6=>have:=d.o.size;simp;omega
  intro g2 r w8 f i c0 _;have A:=Za ((d.o.alloc _).grown i (fun k E=>z7 (j.o.lt k E).1))
  have B:z4 (w8.ownsRow w.heap.size 118 2 (Y (U ⟨g2,0,V⟩) (k+1) r) (k+1) (RP ((l.take (k+1)).map fun n=>(n,n)))):=by
   rw[HT.o,List.map_append,List.map_singleton,F1];rw[<-List.map_take]at f;exact f
  go_wp2_with fail;go_roundg (N-(k+1))
  case measure=>omega
  exact⟨k+1,by omega,rfl,by go_num,B,A⟩
 have z:¬(k:Int)<(N:Int):=by omega
 have ek:k=N:=by omega
 subst ek;go_wp2_with fail;go_ret;refine⟨⟨_,rfl,?_⟩,d.o⟩;have e:=j.o;rw[x8 (by have:=q.o;omega)]at e;rw[R.o,y8,q.o];exact e
def st1 (side:Nat)(Yq:Rm)(es:List Ta):List Nat:=Yq.1::es.flatMap fun e=>YB Yq (e.A.at side)
def YZ (side:Nat)(Yq:List Rm)(es:List Ta):List Nat:=Yq.flatMap fun s=>st1 side s es
theorem zk (side Yq){es:List Ta}{k e}(h:es[k]?=U e):st1 side Yq (es.take (k+1))=st1 side Yq (es.take k)++YB Yq (e.A.at side):=by
 rw[y6,h];simp[st1]
theorem F3 (side){Yq:List Rm}{es k s}(h:Yq[k]?=U s):YZ side (Yq.take (k+1)) es=YZ side (Yq.take k) es++st1 side s es:=by
 rw[y6,h];simp[YZ]
theorem Do (side Yq):∀es:List Ta,(∀e,e∈es->(e.A.at side).length<=10)->(st1 side Yq es).length<=1+20*es.length:=by
 intro es
 induction es with
 |nil=>intro _;simp[st1]
 |cons e r a=>
  intro h;have c:=a (fun x b=>h x (by simp[b]));have d:=Ro Yq (e.A.at side);have f:=h e (by simp);simp only[st1,j0,j3,q8]at*;omega
def Kt (ns:List Nat):List Int:=ns.map fun n:Nat=>(n:Int)
theorem Ku {w base g n cap ns}(h:w.ownsRow base 3 1 (Y (U ⟨g,0,V⟩) n cap) n (Zg ns)):Sort.Holds (j4 I) w g 0 (Kt ns).toArray/\n<=cap/\g<w.heap.size/\ns.length=n/\base<=g:=by
 obtain⟨d,i⟩:=h
 have m:ns.length=n:=by simpa[Zg]using d
 rcases i with⟨i,_⟩|⟨x,k,o,e,p,a,q,l,r,s⟩
 ·cases i
 injection e with f y t
 injection f with f;injection f with f;subst f t;refine⟨fun j u=>⟨?_,bF a _⟩,q,(iA.1 a).1,m,p⟩
 have b:j<ns.length:=by simpa[Kt]using u
 have c:(o.toList.take (n*1))[j]?=U (J I ((ns[j]'b:Nat):Int)):=by
  rw[s];simp[Zg,b]
 rw[List.getElem?_take]at c
 split at c
 ·rw[j1]
  have v:(Kt ns).toArray[j]! =((ns[j]'b:Nat):Int):=by simp[Kt,b]
  rw[v];exact bC a j _ (by simpa using c)
 cases c
theorem Kv {w g off n d os}:Fr (fun k=>k=g) w (Sort.grow (Sort.putRow (j4 I) (Sort.ahead w n) g off d) os):=by
 refine⟨rfl,rfl,rfl,by simp,fun k a b=>?_⟩;rw[Sort.heap_grow_old _ _ (by simpa using a)];unfold Sort.putRow Sort.mapBlock;simp[Array.getElem?_modify,show¬g=k from fun e=>b e.symm]
def PS (ns:List Nat):List Int:=Lib.compact ((Kt ns).mergeSort fun x y=>decide (x<=y))
theorem zm {w base g n cap ns}(h:w.ownsRow base 3 1 (Y (U ⟨g,0,V⟩) n cap) n (Zg ns))(i:n<=100000):
  z8 G 243 #[Y (U ⟨g,0,V⟩) n cap] w fun e w'=>e=C (.tuple #[])/\Sort.Holds (j4 I) w' g 0 ((Kt ns).mergeSort fun x y=>decide (x<=y)).toArray/\Fr (fun k=>k=g) w w':=by
 obtain⟨a,j,b,d,_⟩:=Ku h
 have f:(Kt ns).length=n:=by simp[Kt,d]
 have c:=Tryz.slices_Sort_int g 0 cap (Kt ns) w a b (by omega);rw[f]at c;refine c.mono ?_;rintro e w' ⟨rfl,q,os,rfl⟩;refine⟨rfl,Sort.holds_grow _ _ _ _ _ _ (by simpa using b) (Sort.holds_putRow _ _ _ _ _ _ (Sort.holds_ahead _ _ q _ _ _ a) (by simp)),Kv⟩
theorem He {w g n cap a}(h:Sort.Holds (j4 I) w g 0 a.toArray)(i:a.length=n)(p:n<=cap)(r:n<=100000):
  z8 G 244 #[Y (U ⟨g,0,V⟩) n cap] w fun e w'=>e=C (Y (U ⟨g,0,V⟩) (Lib.compact a).length cap)/\(∀j x,(Lib.compact a)[j]?=U x->w'.cell? ⟨g,j,V⟩=U (J I x))/\Fr (fun k=>k=g) w w':=by
 have c:=Tryz.slices_Compact_int g 0 cap a w h (by omega) (by omega);rw[i]at c;refine c.mono ?_;rintro e w' ⟨rfl,q,rfl⟩;have l:=Lib.compact_length_le a;have m:=Sort.holds_putRow (j4 I) (Sort.ahead w q) g 0 a.toArray (Lib.compact a++v3 (n-(Lib.compact a).length) 0).toArray (Sort.holds_ahead _ _ q _ _ _ h) (by simp;omega);refine⟨rfl,fun j x b=>?_,?_⟩
 ·have o:=(iG.1 b).1
  have e:=(m j (by simp;omega)).1;rw[j1]at e;rw[e]
  congr 2
  rw[getElem!_def];simp only[List.getElem?_toArray,List.getElem?_append,o,if_true,b]
 have f:=Kv (w:=w) (g:=g) (off:=0) (n:=q) (d:=(Lib.compact a++v3 (n-(Lib.compact a).length) 0).toArray) (os:=#[])
 rw[Sort.grow_empty]at f;exact f
theorem Mx {P w}{o:Oper}{a K Q}(s x t)(f:o.op=.call {callee:=.builtin .append,args:=#[s,x],argTypes:=#[t,t]})(base e i b)(g:P.underlying t=U (.slice e))(hi:P.info? e=U i)(v n d)(j:a.eval s=v)(c:w.ownsRow base e b v n d)(k:a.eval x=.slice V 0 0)(h:K (a.put o.dst v) w):o.wp P a w K Q:=by
 unfold Oper.wp execOp;simp only[f,resolve,invoke,builtin,Sem.run_bind,Sem.run_pure,Result.andThen_ok,List.map_toArray,List.map_cons,List.map_nil,j,k,run_append_owned_none w base t o.type e i b g hi v n d c];exact h
theorem PT (side:Nat)(es:List Ta)(h:∀e,e∈es->(e.A.at side).length<=10):∀l:List Rm,(YZ side l es).length<=(1+20*es.length)*l.length
 |[]=>by simp[YZ]
 |s::r=>by
  have a:=PT side es h r;have b:=Do side s es h;simp only[YZ,j0,q8,j3,Nat.mul_add,Nat.mul_one]at*;omega
theorem F4 (ns):∀u∈Zg ns,u.oneCell'=true:=by
 intro u a;simp only[Zg,y7]at a;obtain⟨n,_,rfl⟩:=a;rfl
theorem My (ns):(Zg ns).length=ns.length:=by simp[Zg]
theorem Mz (a b):Zg (a++b)=Zg a++Zg b:=by simp[Zg]
theorem Ta.at {w}{e:Ta}(h:e.ok w)(k):Rw w (Hb e.x0 e.x1 e.x2 e.x3 k).a (e.A.at k):=PR.at h k
theorem OU (d:Array Int):∀m x,x∈Lib.compactUpTo d m↔∃j,j<m/\x=d[j]! :=by
 intro m
 induction m with
 |zero=>intro x;simp[Lib.compactUpTo]
 |succ m c=>
  intro x;rw[Lib.compactUpTo_succ,List.mem_append,c]
  constructor
  ·rintro(⟨j,f,rfl⟩|h)
   ·exact⟨j,by omega,rfl⟩
   split at h
   ·exact⟨m,by omega,by simpa using h⟩
   cases h
  rintro⟨j,f,rfl⟩
  by_cases a:j<m
  ·exact y9 ⟨j,a,rfl⟩
  have e:j=m:=by omega
  subst e
  cases b:Lib.keeps d j with
  |true=>exact z7 (by simp)
  |false=>
   refine y9 ⟨j-1,?_,?_⟩
   ·have:j≠0:=fun e=>by subst e;simp[Lib.keeps]at b
    omega
   simp[Lib.keeps]at b
   exact b.2
theorem Ov (b)(x:Int):x∈Lib.compact b↔x∈b:=by
 unfold Lib.compact;rw[OU]
 constructor
 ·rintro⟨j,a,rfl⟩
  simp[a]
 intro h
 obtain⟨j,a,rfl⟩:=List.mem_iff_getElem.1 h;exact⟨j,a,by simp[a]⟩
def Sh (ns:List Nat):List Nat:=(PS ns).map Int.toNat
theorem MA {ns x}(h:x∈PS ns):∃n,n∈ns/\x=(n:Nat):=by
 have a:=(Ov _ _).1 h;rw[j5]at a;simp only[Kt,y7]at a;obtain⟨n,b,rfl⟩:=a;exact⟨n,b,rfl⟩
theorem CY (ns):PS ns=Kt (Sh ns):=by
 unfold Kt Sh;rw[List.map_map]
 conv=>lhs;rw[<-List.map_id (PS ns)]
 refine List.map_congr_left fun x a=>?_
 obtain⟨n,_,rfl⟩:=MA a;simp
theorem MB (ns n):n∈Sh ns↔n∈ns:=by
 constructor
 ·intro h
  simp only[Sh,y7]at h;obtain⟨x,a,rfl⟩:=h;obtain⟨k,b,rfl⟩:=MA a
  simpa using b
 intro h
 simp only[Sh,y7];refine⟨(n:Int),?_,by simp⟩;unfold PS;rw[Ov,j5];simp only[Kt,y7];exact⟨n,h,rfl⟩
theorem F5 (ns):(Sh ns).length<=ns.length:=by
 unfold Sh PS;rw[y8];have h:=Lib.compact_length_le ((Kt ns).mergeSort fun x y=>decide (x<=y));rw[List.length_mergeSort]at h
 simpa[Kt]using h
def F6 (n:Nat):Code->Option (List Oper)
 | .region i c _=>if i=n then U c.toList else V
 | .seq a b=>match F6 n a with
  |some l=>U l
  |none=>F6 n b
 |_=>V
def uk (f:Func):List Oper:=(f.body.bind (F6 1)).getD []
def Sx (w0 w:y4)(v:z9)(l:List Rm):Prop:=w.ownsRow w0.heap.size 118 2 v l.length (RP l)
theorem Sx.fr {w0 w w' v l}(h:Sx w0 w v l)(a:F0 w w'):Sx w0 w' v l:=oF h a
theorem Sx.one {w0 w:y4}(c)(h:w0.heap.size<=w.heap.size):Sx w0 (w.alloc (F #[J I (c.1:Nat),J I (c.2:Nat)] 118)) (Y (U ⟨w.heap.size,0,V⟩) 1 1) [c]:=oS (Dn w c.1 c.2) h
theorem Sx.set {w0 w v l a k j u}(h:Sx w0 w v l)(m:w.heap[a]?=U (F j 215)):Sx w0 (w.setCell ⟨a,k,V⟩ u) v l:=by
 obtain⟨n,b⟩:=h;refine⟨n,?_⟩;rcases b with b|⟨g,cap,c,e,d,f,r⟩
 ·exact y9 b
 refine z7 ⟨g,cap,c,e,d,?_,r⟩
 have i:g≠a:=by
  rintro rfl;rw[m]at f;simp at f
 exact((Fr.refl (fun k=>k=a) w).setCell (p:=⟨a,k,V⟩) (y9 rfl) u).whole f i
abbrev cV (c:Rm):z9:=y5 #[J I (c.1:Nat),J I (c.2:Nat)]
abbrev mV:z9:=y5 #[J I 0,J I 1000000000]
structure uK where
 Q:Exit->Act->y4->Prop
 S:y4->Prop
 w0:y4
 v0:z9
 vm:z9
 vc:z9
 p:z9
 r:z9
 p5:z9
 p9:z9
 c:Rm
 l9:List Rm
 l14:List Rm
 s:∀W,F0 w0 W->S W
 f5:∀W,F0 w0 W->z8 G 173 #[v0] W fun e w'=>e=C (cV c)/\F0 W w'
 f9:∀W,F0 w0 W->z8 G 174 #[vm,J I 9999] W fun e w'=>(∃v,e=C v/\Sx w0 w' v l9)/\F0 W w'
 f14:∀W,F0 w0 W->z8 G 174 #[vc,J I 999] W fun e w'=>(∃v,e=C v/\Sx w0 w' v l14)/\F0 W w'
 pan:∀c a d v w,Q (.panic c) (Act.put a d v) w->Q (.panic c) a w
 fin:∀b3 x6 x9 x11 x14 w,w0.heap.size<=b3->w.heap[b3]?=U (F #[x6,x9,x11,x14] 215)->Sx w0 w x6 [c]->Sx w0 w x9 l9->Sx w0 w x11 [(0,1000000000)]->Sx w0 w x14 l14->F0 w0 w->Q .normal ⟨#[v0,p,r,(z5 (U ⟨b3,0,V⟩)),v0,(cV c),x6,p5,vm,x9,mV,x11,p9,vc,x14,(y5 #[x6,x9,x11,x14]),undef,undef,undef,undef,undef,undef,undef],[]⟩ w
abbrev tY (X:uK)(d e f g a b c:z9):Act:=⟨#[X.v0,X.p,X.r,d,X.v0,e,f,X.p5,X.vm,g,mV,a,X.p9,X.vc,b,c,undef,undef,undef,undef,undef,undef,undef],[]⟩
abbrev tZ (d e f g a b c:Bool):Array Bool:=#[true,d,e,true,true,f,true,g,true,true,a,b,c,false]
def vE (w0 w:y4)(l:List Rm):Bool->z9->Prop
 |true,v=>Sx w0 w v l
 |false,v=>v=undef
theorem vE.fr {w0 w w' l b v}(h:vE w0 w l b v)(a:F0 w w'):vE w0 w' l b v:=by
 cases b
 ·exact h
 exact Sx.fr h a
def sP (w0 w:y4):Bool->z9->Prop
 |true,x=>∃b,x=z5 (U ⟨b,0,V⟩)/\w0.heap.size<=b/\w.heap[b]?=U (F #[Y V 0 0,Y V 0 0,Y V 0 0,Y V 0 0] 215)
 |false,x=>x=undef
structure Kw (X:uK)(w:y4)(f2 f5 f7 f10 f12:Bool)(x3 x6 x9 x11 x14:z9):Prop where
 f:F0 X.w0 w
 h3:sP X.w0 w f12 x3
 h6:vE X.w0 w [X.c] f2 x6
 h9:vE X.w0 w X.l9 f5 x9
 h11:vE X.w0 w [(0,1000000000)] f7 x11
 h14:vE X.w0 w X.l14 f10 x14
section
set_option maxRecDepth 30000
set_option maxHeartbeats 2000000
variable {X:uK} {w w':y4} {v:z9} {f2 f5 f7 f10 f12:Bool} {x3 x6 x9 x11 x14:z9} {L:Array Bool} {a:Act}
theorem Kw.fr (h:Kw X w f2 f5 f7 f10 f12 x3 x6 x9 x11 x14)(a:F0 w w'):Kw X w' f2 f5 f7 f10 f12 x3 x6 x9 x11 x14:=by
 refine⟨h.f.trans a,?_,h.h6.fr a,h.h9.fr a,h.h11.fr a,h.h14.fr a⟩;have c:=h.h3
 cases f12
 ·exact c
 obtain⟨b,d,e,g⟩:=c
 exact⟨b,d,e,a.whole g⟩
theorem Kw.s2 (h:Kw X w f2 f5 f7 f10 f12 x3 x6 x9 x11 x14):Kw X (w.alloc (F #[J I (X.c.1:Nat),J I (X.c.2:Nat)] 118)) true f5 f7 f10 f12 x3 (Y (U ⟨w.heap.size,0,V⟩) 1 1) x9 x11 x14:=by
 have g:=h.fr ((Fr.refl (fun _=>False) w).alloc (F #[J I (X.c.1:Nat),J I (X.c.2:Nat)] 118));exact⟨g.f,g.h3,Sx.one X.c h.f.size,g.h9,g.h11,g.h14⟩
theorem Kw.s7 (h:Kw X w f2 f5 f7 f10 f12 x3 x6 x9 x11 x14):Kw X (w.alloc (F #[J I 0,J I 1000000000] 118)) f2 f5 true f10 f12 x3 x6 x9 (Y (U ⟨w.heap.size,0,V⟩) 1 1) x14:=by
 have g:=h.fr ((Fr.refl (fun _=>False) w).alloc (F #[J I 0,J I 1000000000] 118));exact⟨g.f,g.h3,g.h6,g.h9,Sx.one (0,1000000000) h.f.size,g.h14⟩
theorem Kw.s12 (h:Kw X w f2 f5 f7 f10 f12 x3 x6 x9 x11 x14):Kw X (w.alloc (F #[Y V 0 0,Y V 0 0,Y V 0 0,Y V 0 0] 215)) f2 f5 f7 f10 true (z5 (U ⟨w.heap.size,0,V⟩)) x6 x9 x11 x14:=by
 have g:=h.fr ((Fr.refl (fun _=>False) w).alloc (F #[Y V 0 0,Y V 0 0,Y V 0 0,Y V 0 0] 215));exact⟨g.f,⟨_,rfl,h.f.size,aN w _⟩,g.h6,g.h9,g.h11,g.h14⟩
theorem Kw.s5 (h:Kw X w f2 f5 f7 f10 f12 x3 x6 x9 x11 x14)(a:F0 w w')(b:Sx X.w0 w' v X.l9):Kw X w' f2 true f7 f10 f12 x3 x6 v x11 x14:=
 have g:=h.fr a
 ⟨g.f,g.h3,g.h6,b,g.h11,g.h14⟩
theorem Kw.s10 (h:Kw X w f2 f5 f7 f10 f12 x3 x6 x9 x11 x14)(a:F0 w w')(b:Sx X.w0 w' v X.l14):Kw X w' f2 f5 f7 true f12 x3 x6 x9 x11 v:=
 have g:=h.fr a
 ⟨g.f,g.h3,g.h6,g.h9,g.h11,b⟩
def Pr (X:uK)(n:Nat)(g h i j b d:Bool):Prop:=∀w k l m e f L a,z4 (Kw X w h i j b d k l m e f)->L=tZ g h i j b false d->a=tY X k (bif g then cV X.c else undef) l m e f undef->wpAnyH G .any (uk Tryz.f114).toArray X.Q X.S n L a w
theorem sb (H:z4 (Kw X w true true true true true x3 x6 x9 x11 x14))(x:L=tZ true true true true true true true)(y:a=tY X x3 (cV X.c) x6 x9 x11 x14 (y5 #[x6,x9,x11,x14])):
  wpAnyH G .any (uk Tryz.f114).toArray X.Q X.S 1 L a w:=by
 subst x y;obtain⟨b,rfl,z,d⟩:=H.o.h3;obtain⟨q,r,rfl⟩:=oL H.o.h6;obtain⟨t,u,rfl⟩:=oL H.o.h9;obtain⟨e,g,rfl⟩:=oL H.o.h11;obtain⟨h,i,rfl⟩:=oL H.o.h14;have j:=Za d;have k:=Za z;have g0:=Zc d 0;have g1:=Zc d 1;have g2:=Zc d 2;have g3:=Zc d 3;have C:=bF d 0;have D:=bF d 1;have E:=bF d 2;have F:=bF d 3;refine Vv 13 (fun K A=>?_);go_simp;have l:=heap_setCell_same w b 0 _ _ (Y q [X.c].length r) j.o;have m:=heap_setCell_same _ b 1 _ _ (Y t X.l9.length u) l;have n:=heap_setCell_same _ b 2 _ _ (Y e [((0,1000000000):Rm)].length g) m;have B:=heap_setCell_same _ b 3 _ _ (Y h X.l14.length i) n;have v:=(((H.o.f.setCell (p:=⟨b,0,V⟩) (z7 k.o) (Y q [X.c].length r)).setCell (p:=⟨b,1,V⟩) (z7 k.o) (Y t X.l9.length u)).setCell (p:=⟨b,2,V⟩) (z7 k.o) (Y e [((0,1000000000):Rm)].length g)).setCell (p:=⟨b,3,V⟩) (z7 k.o) (Y h X.l14.length i);refine A.out _ _ (X.s _ v) (fun _=>?_);refine wpAnyH_done (by kernel_rfl) ?_ _;exact X.fin b _ _ _ _ _ k.o B ((((Sx.set H.o.h6 j.o).set l).set m).set n) ((((Sx.set H.o.h9 j.o).set l).set m).set n) ((((Sx.set H.o.h11 j.o).set l).set m).set n) ((((Sx.set H.o.h14 j.o).set l).set m).set n) v
theorem V0:Pr X 2 true true true true true true:=by
 intro w m n p b d L a H e g;subst e g;obtain⟨q,t,rfl⟩:=oL H.o.h6;obtain⟨u,x,rfl⟩:=oL H.o.h9;obtain⟨i,j,rfl⟩:=oL H.o.h11;obtain⟨k,l,rfl⟩:=oL H.o.h14;refine TF 11 (v:=?v) rfl (by kernel_rfl) (by kernel_rfl) (by kernel_rfl) (fun c a w h=>X.pan c a _ _ w h) rfl ?y (X.s _ H.o.f) ?r
 case y=>rintro w z;go_simp;with_reducible rfl
 try go_frame
 exact sb H rfl rfl
theorem V1:Pr X 3 true true true true false true:=by
 intro w l m n c d L a H g h;subst g h;refine Xz [10] ?_;refine Zb rfl (fun K i=>?_) E
 all_goals
  try rw[if_pos (by rfl)]
  go_simp
 ·exact(X.f14 _ H.o.f).mono fun e w' ⟨⟨v,j,k⟩,b⟩=>by subst j;exact i.out _ _ (X.s _ (H.o.fr b).f) fun _=>V0 _ _ _ _ _ _ _ _ (Za (H.o.s10 b k)) rfl rfl
theorem Uz:Pr X 3 true false true true true true:=by
 intro w h i j b c L a H d e;subst d e;refine Xz [2] ?_;refine Zb rfl (fun K g=>?_) E
 all_goals
  try rw[if_pos (by rfl)]
  go_simp
 ·exact g.out _ _ (X.s _ H.o.s2.f) fun _=>V0 _ _ _ _ _ _ _ _ (Za H.o.s2) rfl rfl
theorem U4:Pr X 3 true true true true true false:=by
 intro w n p q b d L a H e g;subst e g;obtain⟨t,u,rfl⟩:=oL H.o.h6;obtain⟨x,z,rfl⟩:=oL H.o.h9;obtain⟨i,j,rfl⟩:=oL H.o.h11;obtain⟨k,l,rfl⟩:=oL H.o.h14;refine TF 11 (v:=?v) rfl (by kernel_rfl) (by kernel_rfl) (by kernel_rfl) (fun c a w h=>X.pan c a _ _ w h) rfl ?y (X.s _ H.o.f) ?r
 case y=>rintro w A;go_simp;with_reducible rfl
 try go_frame
 refine Vv 12 (fun K m=>?_);go_simp
 exact m.out _ _ (X.s _ H.o.s12.f) fun _=>sb (Za H.o.s12) rfl rfl
theorem UA:Pr X 3 true true true false true true:=by
 intro w h i j b c L a H d e;subst d e;refine Xz [7] ?_;refine Zb rfl (fun K g=>?_) E
 all_goals
  try rw[if_pos (by rfl)]
  go_simp
 ·exact g.out _ _ (X.s _ H.o.s7.f) fun _=>V0 _ _ _ _ _ _ _ _ (Za H.o.s7) rfl rfl
theorem Si:Pr X 4 true true false true false true:=by
 intro w l m n c d L a H g h;subst g h;refine Xz [5] ?_;refine Zb rfl (fun K i=>?_) E
 all_goals
  try rw[if_pos (by rfl)]
  go_simp
 ·exact(X.f9 _ H.o.f).mono fun e w' ⟨⟨v,j,k⟩,b⟩=>by subst j;exact i.out _ _ (X.s _ (H.o.fr b).f) fun _=>V1 _ _ _ _ _ _ _ _ (Za (H.o.s5 b k)) rfl rfl
theorem Sj:Pr X 4 true false true true false true:=by
 intro w l m n d g L a H h i;subst h i;refine Xz [2,10] ?_;refine Zb rfl (fun K b=>?_) (Zb rfl (fun K b=>?_) E)
 all_goals
  try rw[if_pos (by rfl)]
  go_simp
 ·exact b.out _ _ (X.s _ H.o.s2.f) fun _=>V1 _ _ _ _ _ _ _ _ (Za H.o.s2) rfl rfl
 exact(X.f14 _ H.o.f).mono fun e w' ⟨⟨v,j,k⟩,c⟩=>by subst j;exact b.out _ _ (X.s _ (H.o.fr c).f) fun _=>Uz _ _ _ _ _ _ _ _ (Za (H.o.s10 c k)) rfl rfl
theorem SW:Pr X 4 true true true true false false:=by
 intro w l m n d g L a H h i;subst h i;refine Xz [10,12] ?_;refine Zb rfl (fun K b=>?_) (Zb rfl (fun K b=>?_) E)
 all_goals
  try rw[if_pos (by rfl)]
  go_simp
 ·exact(X.f14 _ H.o.f).mono fun e w' ⟨⟨v,j,k⟩,c⟩=>by subst j;exact b.out _ _ (X.s _ (H.o.fr c).f) fun _=>U4 _ _ _ _ _ _ _ _ (Za (H.o.s10 c k)) rfl rfl
 exact b.out _ _ (X.s _ H.o.s12.f) fun _=>V1 _ _ _ _ _ _ _ _ (Za H.o.s12) rfl rfl
theorem Sk:Pr X 4 true true true false false true:=by
 intro w l m n d g L a H h i;subst h i;refine Xz [7,10] ?_;refine Zb rfl (fun K b=>?_) (Zb rfl (fun K b=>?_) E)
 all_goals
  try rw[if_pos (by rfl)]
  go_simp
 ·exact b.out _ _ (X.s _ H.o.s7.f) fun _=>V1 _ _ _ _ _ _ _ _ (Za H.o.s7) rfl rfl
 exact(X.f14 _ H.o.f).mono fun e w' ⟨⟨v,j,k⟩,c⟩=>by subst j;exact b.out _ _ (X.s _ (H.o.fr c).f) fun _=>UA _ _ _ _ _ _ _ _ (Za (H.o.s10 c k)) rfl rfl
theorem Q8:Pr X 4 true false true true true false:=by
 intro w h i j c d L a H e g;subst e g;refine Xz [2,12] ?_;refine Zb rfl (fun K b=>?_) (Zb rfl (fun K b=>?_) E)
 all_goals
  try rw[if_pos (by rfl)]
  go_simp
 ·exact b.out _ _ (X.s _ H.o.s2.f) fun _=>U4 _ _ _ _ _ _ _ _ (Za H.o.s2) rfl rfl
 exact b.out _ _ (X.s _ H.o.s12.f) fun _=>Uz _ _ _ _ _ _ _ _ (Za H.o.s12) rfl rfl
theorem RQ:Pr X 4 true false true false true true:=by
 intro w h i j c d L a H e g;subst e g;refine Xz [2,7] ?_;refine Zb rfl (fun K b=>?_) (Zb rfl (fun K b=>?_) E)
 all_goals
  try rw[if_pos (by rfl)]
  go_simp
 ·exact b.out _ _ (X.s _ H.o.s2.f) fun _=>UA _ _ _ _ _ _ _ _ (Za H.o.s2) rfl rfl
 exact b.out _ _ (X.s _ H.o.s7.f) fun _=>Uz _ _ _ _ _ _ _ _ (Za H.o.s7) rfl rfl
theorem Q9:Pr X 4 true true true false true false:=by
 intro w h i j c d L a H e g;subst e g;refine Xz [7,12] ?_;refine Zb rfl (fun K b=>?_) (Zb rfl (fun K b=>?_) E)
 all_goals
  try rw[if_pos (by rfl)]
  go_simp
 ·exact b.out _ _ (X.s _ H.o.s7.f) fun _=>U4 _ _ _ _ _ _ _ _ (Za H.o.s7) rfl rfl
 exact b.out _ _ (X.s _ H.o.s12.f) fun _=>UA _ _ _ _ _ _ _ _ (Za H.o.s12) rfl rfl
theorem Ql:Pr X 5 true false false true false true:=by
 intro w l m n d g L a H h i;subst h i;refine Xz [2,5] ?_;refine Zb rfl (fun K b=>?_) (Zb rfl (fun K b=>?_) E)
 all_goals
  try rw[if_pos (by rfl)]
  go_simp
 ·exact b.out _ _ (X.s _ H.o.s2.f) fun _=>Si _ _ _ _ _ _ _ _ (Za H.o.s2) rfl rfl
 exact(X.f9 _ H.o.f).mono fun e w' ⟨⟨v,j,k⟩,c⟩=>by subst j;exact b.out _ _ (X.s _ (H.o.fr c).f) fun _=>Sj _ _ _ _ _ _ _ _ (Za (H.o.s5 c k)) rfl rfl
theorem Kx:Pr X 5 true true false true false false:=by
 intro w l m n d g L a H h i;subst h i;refine Xz [5,12] ?_;refine Zb rfl (fun K b=>?_) (Zb rfl (fun K b=>?_) E)
 all_goals
  try rw[if_pos (by rfl)]
  go_simp
 ·exact(X.f9 _ H.o.f).mono fun e w' ⟨⟨v,j,k⟩,c⟩=>by subst j;exact b.out _ _ (X.s _ (H.o.fr c).f) fun _=>SW _ _ _ _ _ _ _ _ (Za (H.o.s5 c k)) rfl rfl
 exact b.out _ _ (X.s _ H.o.s12.f) fun _=>Si _ _ _ _ _ _ _ _ (Za H.o.s12) rfl rfl
theorem MC:Pr X 5 true true false false false true:=by
 intro w l m n d g L a H h i;subst h i;refine Xz [5,7] ?_;refine Zb rfl (fun K b=>?_) (Zb rfl (fun K b=>?_) E)
 all_goals
  try rw[if_pos (by rfl)]
  go_simp
 ·exact(X.f9 _ H.o.f).mono fun e w' ⟨⟨v,j,k⟩,c⟩=>by subst j;exact b.out _ _ (X.s _ (H.o.fr c).f) fun _=>Sk _ _ _ _ _ _ _ _ (Za (H.o.s5 c k)) rfl rfl
 exact b.out _ _ (X.s _ H.o.s7.f) fun _=>Si _ _ _ _ _ _ _ _ (Za H.o.s7) rfl rfl
theorem Ky:Pr X 5 true false true true false false:=by
 intro w l m n d g L a H h i;subst h i;refine Xz [2,10,12] ?_;refine Zb rfl (fun K b=>?_) (Zb rfl (fun K b=>?_) (Zb rfl (fun K b=>?_) E))
 all_goals
  try rw[if_pos (by rfl)]
  go_simp
 ·exact b.out _ _ (X.s _ H.o.s2.f) fun _=>SW _ _ _ _ _ _ _ _ (Za H.o.s2) rfl rfl
 ·exact(X.f14 _ H.o.f).mono fun e w' ⟨⟨v,j,k⟩,c⟩=>by subst j;exact b.out _ _ (X.s _ (H.o.fr c).f) fun _=>Q8 _ _ _ _ _ _ _ _ (Za (H.o.s10 c k)) rfl rfl
 exact b.out _ _ (X.s _ H.o.s12.f) fun _=>Sj _ _ _ _ _ _ _ _ (Za H.o.s12) rfl rfl
theorem MD:Pr X 5 true false true false false true:=by
 intro w l m n d g L a H h i;subst h i;refine Xz [2,7,10] ?_;refine Zb rfl (fun K b=>?_) (Zb rfl (fun K b=>?_) (Zb rfl (fun K b=>?_) E))
 all_goals
  try rw[if_pos (by rfl)]
  go_simp
 ·exact b.out _ _ (X.s _ H.o.s2.f) fun _=>Sk _ _ _ _ _ _ _ _ (Za H.o.s2) rfl rfl
 ·exact b.out _ _ (X.s _ H.o.s7.f) fun _=>Sj _ _ _ _ _ _ _ _ (Za H.o.s7) rfl rfl
 exact(X.f14 _ H.o.f).mono fun e w' ⟨⟨v,j,k⟩,c⟩=>by subst j;exact b.out _ _ (X.s _ (H.o.fr c).f) fun _=>RQ _ _ _ _ _ _ _ _ (Za (H.o.s10 c k)) rfl rfl
theorem Kz:Pr X 5 true true true false false false:=by
 intro w l m n d g L a H h i;subst h i;refine Xz [7,10,12] ?_;refine Zb rfl (fun K b=>?_) (Zb rfl (fun K b=>?_) (Zb rfl (fun K b=>?_) E))
 all_goals
  try rw[if_pos (by rfl)]
  go_simp
 ·exact b.out _ _ (X.s _ H.o.s7.f) fun _=>SW _ _ _ _ _ _ _ _ (Za H.o.s7) rfl rfl
 ·exact(X.f14 _ H.o.f).mono fun e w' ⟨⟨v,j,k⟩,c⟩=>by subst j;exact b.out _ _ (X.s _ (H.o.fr c).f) fun _=>Q9 _ _ _ _ _ _ _ _ (Za (H.o.s10 c k)) rfl rfl
 exact b.out _ _ (X.s _ H.o.s12.f) fun _=>Sk _ _ _ _ _ _ _ _ (Za H.o.s12) rfl rfl
theorem F8:Pr X 5 true false true false true false:=by
 intro w h i j c d L a H e g;subst e g;refine Xz [2,7,12] ?_;refine Zb rfl (fun K b=>?_) (Zb rfl (fun K b=>?_) (Zb rfl (fun K b=>?_) E))
 all_goals
  try rw[if_pos (by rfl)]
  go_simp
 ·exact b.out _ _ (X.s _ H.o.s2.f) fun _=>Q9 _ _ _ _ _ _ _ _ (Za H.o.s2) rfl rfl
 ·exact b.out _ _ (X.s _ H.o.s7.f) fun _=>Q8 _ _ _ _ _ _ _ _ (Za H.o.s7) rfl rfl
 exact b.out _ _ (X.s _ H.o.s12.f) fun _=>RQ _ _ _ _ _ _ _ _ (Za H.o.s12) rfl rfl
theorem Hf:Pr X 6 false false false true false true:=by
 intro w k l m c d L a H g h;subst g h;refine Xz [1] ?_;refine Zb rfl (fun K i=>?_) E
 all_goals
  try rw[if_pos (by rfl)]
  go_simp
 ·exact(X.f5 _ H.o.f).mono fun e w' ⟨j,b⟩=>by subst j;exact i.out _ _ (X.s _ (H.o.fr b).f) fun _=>Ql _ _ _ _ _ _ _ _ (Za (H.o.fr b)) rfl rfl
theorem Dp:Pr X 6 true false false true false false:=by
 intro w l m n d g L a H h i;subst h i;refine Xz [2,5,12] ?_;refine Zb rfl (fun K b=>?_) (Zb rfl (fun K b=>?_) (Zb rfl (fun K b=>?_) E))
 all_goals
  try rw[if_pos (by rfl)]
  go_simp
 ·exact b.out _ _ (X.s _ H.o.s2.f) fun _=>Kx _ _ _ _ _ _ _ _ (Za H.o.s2) rfl rfl
 ·exact(X.f9 _ H.o.f).mono fun e w' ⟨⟨v,j,k⟩,c⟩=>by subst j;exact b.out _ _ (X.s _ (H.o.fr c).f) fun _=>Ky _ _ _ _ _ _ _ _ (Za (H.o.s5 c k)) rfl rfl
 exact b.out _ _ (X.s _ H.o.s12.f) fun _=>Ql _ _ _ _ _ _ _ _ (Za H.o.s12) rfl rfl
theorem Hg:Pr X 6 true false false false false true:=by
 intro w l m n d g L a H h i;subst h i;refine Xz [2,5,7] ?_;refine Zb rfl (fun K b=>?_) (Zb rfl (fun K b=>?_) (Zb rfl (fun K b=>?_) E))
 all_goals
  try rw[if_pos (by rfl)]
  go_simp
 ·exact b.out _ _ (X.s _ H.o.s2.f) fun _=>MC _ _ _ _ _ _ _ _ (Za H.o.s2) rfl rfl
 ·exact(X.f9 _ H.o.f).mono fun e w' ⟨⟨v,j,k⟩,c⟩=>by subst j;exact b.out _ _ (X.s _ (H.o.fr c).f) fun _=>MD _ _ _ _ _ _ _ _ (Za (H.o.s5 c k)) rfl rfl
 exact b.out _ _ (X.s _ H.o.s7.f) fun _=>Ql _ _ _ _ _ _ _ _ (Za H.o.s7) rfl rfl
theorem xo:Pr X 6 true true false false false false:=by
 intro w l m n d g L a H h i;subst h i;refine Xz [5,7,12] ?_;refine Zb rfl (fun K b=>?_) (Zb rfl (fun K b=>?_) (Zb rfl (fun K b=>?_) E))
 all_goals
  try rw[if_pos (by rfl)]
  go_simp
 ·exact(X.f9 _ H.o.f).mono fun e w' ⟨⟨v,j,k⟩,c⟩=>by subst j;exact b.out _ _ (X.s _ (H.o.fr c).f) fun _=>Kz _ _ _ _ _ _ _ _ (Za (H.o.s5 c k)) rfl rfl
 ·exact b.out _ _ (X.s _ H.o.s7.f) fun _=>Kx _ _ _ _ _ _ _ _ (Za H.o.s7) rfl rfl
 exact b.out _ _ (X.s _ H.o.s12.f) fun _=>MC _ _ _ _ _ _ _ _ (Za H.o.s12) rfl rfl
theorem xq:Pr X 6 true false true false false false:=by
 intro w l m n d g L a H h i;subst h i;refine Xz [2,7,10,12] ?_;refine Zb rfl (fun K b=>?_) (Zb rfl (fun K b=>?_) (Zb rfl (fun K b=>?_) (Zb rfl (fun K b=>?_) E)))
 all_goals
  try rw[if_pos (by rfl)]
  go_simp
 ·exact b.out _ _ (X.s _ H.o.s2.f) fun _=>Kz _ _ _ _ _ _ _ _ (Za H.o.s2) rfl rfl
 ·exact b.out _ _ (X.s _ H.o.s7.f) fun _=>Ky _ _ _ _ _ _ _ _ (Za H.o.s7) rfl rfl
 ·exact(X.f14 _ H.o.f).mono fun e w' ⟨⟨v,j,k⟩,c⟩=>by subst j;exact b.out _ _ (X.s _ (H.o.fr c).f) fun _=>F8 _ _ _ _ _ _ _ _ (Za (H.o.s10 c k)) rfl rfl
 exact b.out _ _ (X.s _ H.o.s12.f) fun _=>MD _ _ _ _ _ _ _ _ (Za H.o.s12) rfl rfl
theorem ul:Pr X 7 false false false true false false:=by
 intro w k l m d g L a H h i;subst h i;refine Xz [1,12] ?_;refine Zb rfl (fun K b=>?_) (Zb rfl (fun K b=>?_) E)
 all_goals
  try rw[if_pos (by rfl)]
  go_simp
 ·exact(X.f5 _ H.o.f).mono fun e w' ⟨j,c⟩=>by subst j;exact b.out _ _ (X.s _ (H.o.fr c).f) fun _=>Dp _ _ _ _ _ _ _ _ (Za (H.o.fr c)) rfl rfl
 exact b.out _ _ (X.s _ H.o.s12.f) fun _=>Hf _ _ _ _ _ _ _ _ (Za H.o.s12) rfl rfl
theorem vF:Pr X 7 false false false false false true:=by
 intro w k l m d g L a H h i;subst h i;refine Xz [1,7] ?_;refine Zb rfl (fun K b=>?_) (Zb rfl (fun K b=>?_) E)
 all_goals
  try rw[if_pos (by rfl)]
  go_simp
 ·exact(X.f5 _ H.o.f).mono fun e w' ⟨j,c⟩=>by subst j;exact b.out _ _ (X.s _ (H.o.fr c).f) fun _=>Hg _ _ _ _ _ _ _ _ (Za (H.o.fr c)) rfl rfl
 exact b.out _ _ (X.s _ H.o.s7.f) fun _=>Hf _ _ _ _ _ _ _ _ (Za H.o.s7) rfl rfl
theorem um:Pr X 7 true false false false false false:=by
 intro w l m n d g L a H h i;subst h i;refine Xz [2,5,7,12] ?_;refine Zb rfl (fun K b=>?_) (Zb rfl (fun K b=>?_) (Zb rfl (fun K b=>?_) (Zb rfl (fun K b=>?_) E)))
 all_goals
  try rw[if_pos (by rfl)]
  go_simp
 ·exact b.out _ _ (X.s _ H.o.s2.f) fun _=>xo _ _ _ _ _ _ _ _ (Za H.o.s2) rfl rfl
 ·exact(X.f9 _ H.o.f).mono fun e w' ⟨⟨v,j,k⟩,c⟩=>by subst j;exact b.out _ _ (X.s _ (H.o.fr c).f) fun _=>xq _ _ _ _ _ _ _ _ (Za (H.o.s5 c k)) rfl rfl
 ·exact b.out _ _ (X.s _ H.o.s7.f) fun _=>Dp _ _ _ _ _ _ _ _ (Za H.o.s7) rfl rfl
 exact b.out _ _ (X.s _ H.o.s12.f) fun _=>Hg _ _ _ _ _ _ _ _ (Za H.o.s12) rfl rfl
theorem sQ:Pr X 8 false false false false false false:=by
 intro w k l m d g L a H h i;subst h i;refine Xz [1,7,12] ?_;refine Zb rfl (fun K b=>?_) (Zb rfl (fun K b=>?_) (Zb rfl (fun K b=>?_) E))
 all_goals
  try rw[if_pos (by rfl)]
  go_simp
 ·exact(X.f5 _ H.o.f).mono fun e w' ⟨j,c⟩=>by subst j;exact b.out _ _ (X.s _ (H.o.fr c).f) fun _=>um _ _ _ _ _ _ _ _ (Za (H.o.fr c)) rfl rfl
 ·exact b.out _ _ (X.s _ H.o.s7.f) fun _=>ul _ _ _ _ _ _ _ _ (Za H.o.s7) rfl rfl
 exact b.out _ _ (X.s _ H.o.s12.f) fun _=>vF _ _ _ _ _ _ _ _ (Za H.o.s12) rfl rfl
end
