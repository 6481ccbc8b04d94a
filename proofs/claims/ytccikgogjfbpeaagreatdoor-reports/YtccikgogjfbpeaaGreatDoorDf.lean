import Derived.Test.YtccikgogjfbpeaaGreatDoorDe
import Derived.Laws.Tables
open Go.Value renaming string->I,int->J,bool->Z,pointer->O,slice->E,agg->z4,oneCell'->z6,string->z7
open Go.IntKind renaming i64->V
open Option renaming none->Y,some->U
open Go.Obj renaming cells->K
open _root_.ByteArray renaming empty->H
open Go.RowKit renaming Hid->B
open Go.Proofs.Tryz renaming prog->G
open Go.Ending renaming returned->M
open Or renaming inr->N,inl->z3
open Go.AllReadyH renaming nil->L
open Go renaming World->A,Calls->C,Value->z5
open List renaming getElem?_map->F,length_map->z1,mem_map->z9,getD->y0
open Bool renaming and_eq_true->z0
open Nat renaming le_refl->z2,zero_add->z8
namespace Go.Proofs.YtccikgogjfbpeaaGreatDoor
set_option maxRecDepth 30000
set_option maxHeartbeats 8000000
open Go.RowKit
def UM (p:ZI):z5:=z4 #[I p.pan,J V p.mcc,J V p.am,J V p.cur]
def Xt (p:ZI):Obj:=K #[I p.pan,J V p.mcc,J V p.am,J V p.cur] 35
def NG (o:Nat×ByteArray×ByteArray):z5:=z4 #[J V (o.1:Nat),I o.2.1,I o.2.2]
def XD (n m:Int):Bool:=decide (0<=n)&&decide (n<=m)
theorem Y7 (p:ZI):Yd p=(Xv p.pan&&(XD p.mcc 9999&&(XD p.am 1000000000&&XD p.cur 999))):=by
 unfold Yd XD;simp only[Bool.and_assoc]
theorem NH (w:A)(p:ZI)(t:p.pan.size<=maxLen):
  C G 62 #[UM p] w fun e w'=>e=M (Z (Yd p))/\F0 w w':=by
 have u:B (∀W,C G 110 #[I p.pan] W fun e w'=>e=M (Z (Xv p.pan))/\F0 W w'):=fun W=>Fh p.pan W t
 have g:B (∀W n m,C G 111 #[J V n,J V m] W fun e w'=>e=M (Z (XD n m))/\w'=W):=fun W n m=>Fg W n m
 have v:B (F0 w (w.alloc (Xt p))):=(Fr.refl _ _).alloc _;have h:B ((w.alloc (Xt p)).heap[w.heap.size]?=U (Xt p)):=aN w _;rw[Y7];obtain⟨z,i⟩:∃b,Xv p.pan=b:=⟨_,rfl⟩;obtain⟨x,j⟩:∃b,XD p.mcc 9999=b:=⟨_,rfl⟩;obtain⟨y,k⟩:∃b,XD p.am 1000000000=b:=⟨_,rfl⟩;obtain⟨D,l⟩:∃b,XD p.cur 999=b:=⟨_,rfl⟩
 have q:B (∀W,C G 111 #[J V p.mcc,J V 9999] W fun e w'=>e=M (Z x)/\w'=W):=fun W=>by rw[<-j];exact g.o W _ _
 have r:B (∀W,C G 111 #[J V p.am,J V 1000000000] W fun e w'=>e=M (Z y)/\w'=W):=fun W=>by rw[<-k];exact g.o W _ _
 have s:B (∀W,C G 111 #[J V p.cur,J V 999] W fun e w'=>e=M (Z D)/\w'=W):=fun W=>by rw[<-l];exact g.o W _ _
 rw[i]at u;rw[i,j,k,l];clear i j k l g t;unfold Xt at v h;unfold UM;go_enter Tryz.func62,Tryz.ntmps62;go_upto_region 1 with fail;generalize w.alloc (K #[I p.pan,J V p.mcc,J V p.am,J V p.cur] 35)=W at*;generalize w.heap.size=X at*;have E:=bC h.o 0 _ rfl;go_wp2_with fail;refine(u.o _).mono ?_;rintro e F ⟨rfl,f⟩;have c:B (F0 w F):=v.o.trans f;have d:=f.whole h.o (by simp);have H:=bC d 1 _ rfl;have L:=bC d 2 _ rfl;have N:=bC d 3 _ rfl;clear f d E
 cases z with
 |false=>
  go_wp2_with fail;go_ret;exact⟨rfl,c.o⟩
 |true=>
  go_wp2_with fail;refine(q.o _).mono ?_;rintro e w2 ⟨rfl,a⟩;replace a:=a.symm;subst a
  cases x with
  |false=>
   go_wp2_with fail;go_ret;exact⟨rfl,c.o⟩
  |true=>
   go_wp2_with fail;refine(r.o _).mono ?_;rintro e w2 ⟨rfl,a⟩;replace a:=a.symm;subst a
   cases y with
   |false=>
    go_wp2_with fail;go_ret;exact⟨rfl,c.o⟩
   |true=>
    go_wp2_with fail;refine(s.o _).mono ?_;rintro e w2 ⟨rfl,a⟩;replace a:=a.symm;subst a;go_wp2_with fail;go_ret;exact⟨rfl,c.o⟩
theorem Kw {w:A}{b:Nat}{t:TypeId}{u0 u1 u2 v0 v1 v2:z5}(h:w.heap[b]?=U (K #[u0,u1,u2] t)):
    (((w.setCell ⟨b,0,Y⟩ v0).setCell ⟨b,1,Y⟩ v1).setCell ⟨b,2,Y⟩ v2).heap[b]?=U (K #[v0,v1,v2] t):=by
  have e:=heap_setCell_same _ b 2 _ _ v2 (heap_setCell_same _ b 1 _ _ v1 (heap_setCell_same w b 0 _ _ v0 h))
  simpa using e
structure In (zb:Nat)(w:A)(TT:Nat)(rts:List Zd)(ra:Option Addr)(rc:Nat)(nms:List ByteArray)(prs:List (List Zn))(tr:Tr):Prop where
 bx:∃vn vp a b,w.heap[TT]?=U (K #[E ra rts.length rc,vn,vp,a,b] 135)/\w.ownsRow zb 9 1 vn nms.length (nms.map z7)/\(∃xs,w.ownsRow zb 129 1 vp prs.length xs/\∀(j:Nat)(l:List Zn),prs[j]?=U l->∃vj,xs[j]?=U vj/\YW zb w zb vj l)/\VY w zb tr (z4 #[a,b])
 ro:w.ownsRow 0 148 3 (E ra rts.length rc) rts.length (YU rts)
theorem In.fr {g:Nat}{w w':A}{i:Nat}{d:List Zd}{k:Option Addr}{l:Nat}{e:List ByteArray}{f:List (List Zn)}{n:Tr}(h:In g w i d k l e f n)(c:F0 w w'):In g w' i d k l e f n:=by
 obtain⟨o,p,a,b,q,r,⟨s,t,u⟩,v⟩:=h.bx;refine⟨⟨o,p,a,b,c.whole q (by simp),oF r c (by simp),⟨s,oF t c (by simp),fun j m x=>?_⟩,v.keep' c (by simp)⟩,oF h.ro c (by simp)⟩;obtain⟨y,z,B⟩:=u j m x;exact⟨y,z,OB B c⟩
theorem Ri.ofN {w:A}{b Q base c:Nat}{d:Option Addr}{a:List ByteArray}{i:Nat}{r:ByteArray}(f:w.cell? ⟨b,1,Y⟩=U (E d a.length c))(h:w.ownsRow base 9 1 (E d a.length c) a.length (a.map z7))(n:w.heap.size<=Q)(j:a[i]?=U r)(l:r.size<=3000):∃g,Ri w b Q i r g a.length c:=by
 have o:b<w.heap.size:=bL w _ f;have m:=(iG.1 j).1;obtain⟨g,cap,e,_,p⟩:=h.form (by omega);injection e with e _ _;subst e;have k:=h.cells (g:=g) rfl i (I r) (by rw[F,j];rfl);rw[YN,z8]at k;exact⟨g,f,m,k,l,by omega,by omega⟩
structure Cg (rts:List Zd)(nms:List ByteArray)(prs:List (List Zn))(tr:Tr):Prop where
 rt:∀t,t∈rts->Nz t
 r6:rts.length<=6
 nm:∀s,s∈nms->s.size<=3000
 gd:∀l,l∈prs->l.length<=1000/\∀s,s∈l->s.sort<3->Cd s
 dp:tr.deep 0
def Lj (a:List Zd)(b:List ByteArray)(c:List (List Zn))(d:Tr)(p:ZI)(s:Zn):Prop:=
 ∃l,c[d.find (J0 (Zz p.pan)) 0]?=U l/\(∃n,Xc (TL p) l n 0=U s)/\(s.sort=6\/((s.sort=3\/s.sort=4\/s.sort=5)/\s.nums.length<=4000/\(∀x,x∈s.nums->x<a.length)/\s.rule<b.length))
def Qz (a:List Zd)(b:List ByteArray)(p:ZI)(c:Nat->Bool)(s:Zn):Nat×ByteArray×ByteArray:=
 if Yd p then WZ a (b.getD s.rule H) s c p.am else(1,H,H)
structure Fo (w:A)(zb TT:Nat)(rts:List Zd)(ra:Option Addr)(rc:Nat)(nms:List ByteArray)(prs:List (List Zn))(tr:Tr):Prop where
 tg:In zb w TT rts ra rc nms prs tr
 bk:Cg rts nms prs tr
theorem Fo.fr {w w':A}{d e:Nat}{a:List Zd}{f:Option Addr}{g:Nat}{b:List ByteArray}{c:List (List Zn)}{i:Tr}(h:Fo w d e a f g b c i)(j:F0 w w'):Fo w' d e a f g b c i:=⟨h.tg.fr j,h.bk⟩
def AU (w:A)(b:Nat)(c:z5)(a:Nat->Bool):Prop:=∀W,F0 w W->C G 63 #[O (U ⟨b,0,Y⟩),c] W fun e w'=>e=M (z4 #[Z (a 0),Z (a 1),Z (a 2),Z (a 3),Z (a 4),Z (a 5)])/\F0 W w'
theorem Fp (w:A)(zb d:Nat)(f:List Zd)(ra:Option Addr)(rc:Nat)(l:List ByteArray)(a0:List (List Zn))(tr:Tr)(fv:z5)(b:Nat->Bool)(p:ZI)(D:Zn)(h:Fo w zb d f ra rc l a0 tr)(E0:AU w d fv b)(he:Yd p=true->Lj f l a0 tr p D)(hs:p.pan.size<=maxLen):
  C G 36 #[O (U ⟨d,0,Y⟩),UM p,fv] w fun e w'=>e=M (NG (Qz f l p (b) D))/\F0 w w':=by
 have HH:B (Fo w zb d f ra rc l a0 tr):=h;have h1:=Za he;have i1:=Za E0
 have j1:B (∀W,C G 62 #[z4 #[I p.pan,J V p.mcc,J V p.am,J V p.cur]] W fun e w'=>e=M (Z (Yd p))/\F0 W w'):=fun W=>NH W p hs
 have G0:B (F0 w ((w.alloc (Xt p)).alloc (K #[J V 0,I ⟨#[]⟩,I ⟨#[]⟩] 38))):=((Fr.refl _ _).alloc _).alloc _;have s:B (((w.alloc (Xt p)).alloc (K #[J V 0,I ⟨#[]⟩,I ⟨#[]⟩] 38)).heap[w.heap.size]?=U (Xt p)):=((Fr.refl (fun _=>False) _).alloc _).whole (aN w _) (by simp)
 have e0:B (((w.alloc (Xt p)).alloc (K #[J V 0,I ⟨#[]⟩,I ⟨#[]⟩] 38)).heap[w.heap.size+1]?=U (K #[J V 0,I ⟨#[]⟩,I ⟨#[]⟩] 38)):=by
  have e:=aN (w.alloc (Xt p)) (K #[J V 0,I ⟨#[]⟩,I ⟨#[]⟩] 38);rw[show(w.alloc (Xt p)).heap.size=w.heap.size+1 from by simp]at e;exact e
 unfold UM;unfold Xt at G0 s e0;clear h hs he E0;go_enter Tryz.func36,Tryz.ntmps36;go_upto_region 1 with fail;generalize(w.alloc (K #[I p.pan,J V p.mcc,J V p.am,J V p.cur] 35)).alloc (K #[J V 0,I ⟨#[]⟩,I ⟨#[]⟩] 38)=W0 at*;obtain⟨P,hP⟩:∃P,w.heap.size=P:=⟨_,rfl⟩;have m1:B (w.heap.size=P):=hP;rw[hP]at s e0;rw[hP];clear hP;have x0:=bC s.o 0 _ rfl;have x1:=bC s.o 1 _ rfl;have x2:=bC s.o 2 _ rfl;have x3:=bC s.o 3 _ rfl;go_wp2_with fail;refine(j1.o _).mono ?_;rintro e a ⟨rfl,f0⟩;have b0:B (F0 w a):=G0.o.trans f0;have H0:B (a.heap[P]?=U (K #[I p.pan,J V p.mcc,J V p.am,J V p.cur] 35)):=f0.whole s.o (by simp);have r:B (a.heap[P+1]?=U (K #[J V 0,I ⟨#[]⟩,I ⟨#[]⟩] 38)):=f0.whole e0.o (by simp);have x:B (Fo a zb d f ra rc l a0 tr):=HH.o.fr b0.o
 have F:w.heap.size<=P+1:=by have:=m1.o;omega
 clear f0 x0 x1 x2 x3 s e0
 cases r0:Yd p with
 |false=>
  have HD:B (Qz f l p (b) D=(1,H,H)):=by show _=_;unfold Qz;rw[if_neg (by rw[r0];simp)]
  have o0:=bC r.o 0 _ rfl;have o1:=bC r.o 1 _ rfl;have o2:=bC r.o 2 _ rfl;have n1:=bF r.o 0;have p1:=bF r.o 1;have q1:=bF r.o 2;go_wp2_with fail;have e3:=Kw (v0:=J V 1) (v1:=I ⟨#[]⟩) (v2:=I ⟨#[]⟩) r.o;have s0:=bC e3 0 _ rfl;have s1:=bC e3 1 _ rfl;have s2:=bC e3 2 _ rfl;refine bodyPost_ret (v:=z4 #[J V 1,I ⟨#[]⟩,I ⟨#[]⟩]) (by simp[results,Tryz.results36,go_sem,s0,s1,s2]) rfl ⟨by rw[HD.o];rfl,?_⟩;exact((b0.o.setCell (p:=⟨P+1,0,Y⟩) (N F) _).setCell (p:=⟨P+1,1,Y⟩) (N F) _).setCell (p:=⟨P+1,2,Y⟩) (N F) _
 |true=>
  have g0:B (Yd p=true):=r0;clear r0;go_upto_region 3 with fail
  have t0:B (∀W,F0 a W->C G 63 #[O (U ⟨d,0,Y⟩),fv] W fun e w'=>e=M (z4 #[Z (b 0),Z (b 1),Z (b 2),Z (b 3),Z (b 4),Z (b 5)])/\F0 W w'):=by
   exact fun W hW=>i1.o W (b0.o.trans hW)
  have t:B (∀W,F0 a W->W.cell? ⟨P,0,Y⟩=U (I p.pan)/\W.cell? ⟨P,1,Y⟩=U (J V p.mcc)/\W.cell? ⟨P,2,Y⟩=U (J V p.am)/\W.cell? ⟨P,3,Y⟩=U (J V p.cur)):=fun W hW=>by
   have e:=hW.whole H0.o (by simp);exact⟨bC e 0 _ rfl,bC e 1 _ rfl,bC e 2 _ rfl,bC e 3 _ rfl⟩
  go_cut [7] (fun v wx=>∃Q,v=O (U ⟨Q,0,Y⟩)/\B (F0 a wx/\a.heap.size<=Q/\wx.heap[Q]?=U (VD d p (b) 0 false (0,H,H))))
  case first=>
   refine wp_region_held_drew (S:=fun W=>W.cell? ⟨P,0,Y⟩=U (I p.pan)/\W.cell? ⟨P,1,Y⟩=U (J V p.mcc)/\W.cell? ⟨P,2,Y⟩=U (J V p.am)/\W.cell? ⟨P,3,Y⟩=U (J V p.cur)) (by kernel_rfl) (t.o _ (Fr.refl _ _).drew) (fun hH=>?_);refine Zf 0 hH ?_
   try go_frame
   refine Zf 1 hH ?_
   try go_frame
   refine Zf 2 hH ?_
   try go_frame
   refine Zf 3 hH ?_
   try go_frame
   refine wpAnyH_ready (rs:=[4,6]) (by kernel_rfl) (by simp) ?_;refine Zb rfl (fun K2 u=>?_) ?_
   ·try rw[if_pos (by rfl)]
    go_simp;refine(t0.o _ ((Fr.refl _ _).drew)).mono ?_;rintro e w5 ⟨rfl,R⟩;have n:B (F0 a w5):=((Fr.refl _ _).drew).trans R;clear R;refine u.out _ _ (t.o _ n.o) (fun hH=>?_);clear u K2
    try go_frame
    refine Zf 5 hH ?_
    try go_frame
    refine wpAnyH_ready (rs:=[6]) (by kernel_rfl) (by simp) ?_;refine Zb rfl (fun K2 u=>?_) L
    try rw[if_pos (by rfl)]
    go_simp;refine u.out _ _ (t.o _ (n.o.alloc _)) (fun hH=>?_);clear u K2
    try go_frame
    refine wpAnyH_ready (rs:=[7]) (by kernel_rfl) (by simp) ?_;refine Zb rfl (fun K2 u=>?_) L
    try rw[if_pos (by rfl)]
    refine wp_store_row 127 _ _ rfl w5.heap.size #[O (U ⟨d,0,Y⟩),I p.pan,J V p.mcc,J V p.am,J V p.cur,Z (b 0),Z (b 1),Z (b 2),Z (b 3),Z (b 4),Z (b 5),J V 0,Z false,J V 0,I ⟨#[]⟩,I ⟨#[]⟩] rfl rfl 127 _ (heap_alloc_new w5 _) (by kernel_rfl) rfl (by simp[z6]) ?_;refine u.out _ _ (t.o _ (Fr.setRow (n.o.alloc _) (N n.o.size) _)) (fun _=>?_);clear u K2
    try go_frame
    refine wpAnyH_done (by kernel_rfl) ?_ _;go_wp2_with fail;go_meet;refine⟨w5.heap.size,rfl,Fr.setRow (n.o.alloc _) (N n.o.size) _,n.o.size,?_⟩;have e:=setRow_heap (w5.alloc (K #[O Y,I ⟨#[]⟩,J V 0,J V 0,J V 0,Z false,Z false,Z false,Z false,Z false,Z false,J V 0,Z false,J V 0,I ⟨#[]⟩,I ⟨#[]⟩] 127)) w5.heap.size _ #[O (U ⟨d,0,Y⟩),I p.pan,J V p.mcc,J V p.am,J V p.cur,Z (b 0),Z (b 1),Z (b 2),Z (b 3),Z (b 4),Z (b 5),J V 0,Z false,J V 0,I ⟨#[]⟩,I ⟨#[]⟩] _ _ (aN w5 _);exact e
   ·refine Zb rfl (fun K2 u=>?_) L
    try rw[if_pos (by rfl)]
    go_simp;refine u.out _ _ (t.o _ (((Fr.refl _ _).drew).alloc _)) (fun hH=>?_);clear u K2
    try go_frame
    have I0:B (F0 a (a.drew.alloc (K #[O Y,I ⟨#[]⟩,J V 0,J V 0,J V 0,Z false,Z false,Z false,Z false,Z false,Z false,J V 0,Z false,J V 0,I ⟨#[]⟩,I ⟨#[]⟩] 127))):=((Fr.refl _ _).drew).alloc _;have r1:B ((a.drew.alloc (K #[O Y,I ⟨#[]⟩,J V 0,J V 0,J V 0,Z false,Z false,Z false,Z false,Z false,Z false,J V 0,Z false,J V 0,I ⟨#[]⟩,I ⟨#[]⟩] 127)).heap[a.heap.size]?=U (K #[O Y,I ⟨#[]⟩,J V 0,J V 0,J V 0,Z false,Z false,Z false,Z false,Z false,Z false,J V 0,Z false,J V 0,I ⟨#[]⟩,I ⟨#[]⟩] 127)):=aN a.drew _;refine wpAnyH_ready (rs:=[4]) (by kernel_rfl) (by simp) ?_;refine Zb rfl (fun K2 u=>?_) L
    try rw[if_pos (by rfl)]
    go_simp;refine(t0.o _ I0.o).mono ?_;rintro e w5 ⟨rfl,R⟩;have n:B (F0 a w5):=I0.o.trans R;have K0:B (w5.heap[a.heap.size]?=U (K #[O Y,I ⟨#[]⟩,J V 0,J V 0,J V 0,Z false,Z false,Z false,Z false,Z false,Z false,J V 0,Z false,J V 0,I ⟨#[]⟩,I ⟨#[]⟩] 127)):=R.whole r1.o (by simp);clear R;refine u.out _ _ (t.o _ n.o) (fun hH=>?_);clear u K2
    try go_frame
    refine Zf 5 hH ?_
    try go_frame
    refine wpAnyH_ready (rs:=[7]) (by kernel_rfl) (by simp) ?_;refine Zb rfl (fun K2 u=>?_) L
    try rw[if_pos (by rfl)]
    refine wp_store_row 127 _ _ rfl a.heap.size #[O (U ⟨d,0,Y⟩),I p.pan,J V p.mcc,J V p.am,J V p.cur,Z (b 0),Z (b 1),Z (b 2),Z (b 3),Z (b 4),Z (b 5),J V 0,Z false,J V 0,I ⟨#[]⟩,I ⟨#[]⟩] rfl rfl 127 _ K0.o (by kernel_rfl) rfl (by simp[z6]) ?_;refine u.out _ _ (t.o _ (Fr.setRow n.o (N (z2 _)) _)) (fun _=>?_);clear u K2
    try go_frame
    refine wpAnyH_done (by kernel_rfl) ?_ _;go_wp2_with fail;go_meet;exact⟨a.heap.size,rfl,Fr.setRow n.o (N (z2 _)) _,z2 _,setRow_heap w5 a.heap.size _ _ _ _ K0.o⟩
  case rest=>
   obtain⟨Q,rfl,HQ⟩:=hcut
   have k0:Xv p.pan=true:=by have e:=g0.o;rw[Y7,z0]at e;exact e.1
   have L0:0<=p.am/\p.am<=1000000000:=by
    have e:=g0.o;rw[Y7]at e;simp only[z0,XD,decide_eq_true_eq]at e;exact e.2.2.1
   obtain⟨lp,c0,M0,N0⟩:=h1.o g0.o;obtain⟨c,d0⟩:∃c,tr.find (J0 (Zz p.pan)) 0=c:=⟨_,rfl⟩;rw[d0]at c0;obtain⟨vn,vp,aa,bb,X,w0,⟨xs,A0,O0⟩,P0⟩:=x.o.tg.bx;obtain⟨na,nc,e1⟩:=oL w0;subst e1;obtain⟨vj,Q0,B0⟩:=O0 c lp c0;have t1:=(iG.1 c0).1;obtain⟨pg,pc,e2,_,l0⟩:=A0.form (by omega);subst e2;have C0:=A0.cells (g:=pg) rfl c vj Q0;rw[YN,z8]at C0;have R0:=B0;obtain⟨ys,S0,_⟩:=R0;obtain⟨pa,y,e3⟩:=oL S0;subst e3;obtain⟨np,m0⟩:∃np,a0.length=np:=⟨_,rfl⟩;obtain⟨ll,h0⟩:∃ll,lp.length=ll:=⟨_,rfl⟩;have hQ:=HQ.o;have n0:B (NF a Q pa lp):=NF.of B0 hQ.2.1;have T0:B (TN a d Q f ra rc):=TN.of (bC X 0 _ rfl) x.o.tg.ro hQ.2.1 x.o.bk.rt;have V0:B (Cc a zb d 3 0 tr aa bb (J0 (Zz p.pan)) c):=⟨bC X 3 _ rfl,bC X 4 _ rfl,P0,x.o.bk.dp,d0⟩
   have X0:B (Il a d Q f (l.getD D.rule H) D):=by
    rcases N0 with h6|⟨h3,h4,h5,Y0⟩
    ·exact z3 h6
    ·obtain⟨g,hg⟩:=Ri.ofN (Q:=Q) (i:=D.rule) (bC X 1 _ rfl) w0 hQ.2.1 (gE Y0) (x.o.bk.nm _ (List.getElem_mem _))
     rw[show l.getD D.rule H=l[D.rule]from by simp[y0,Y0]];exact N ⟨h3,h4,h5,g,_,_,hg⟩
   have p0:B (Qz f l p (b) D=WZ f (l.getD D.rule H) D (b) p.am):=by show _=_;unfold Qz;rw[if_pos g0.o]
   obtain⟨m,q0⟩:∃m,Qz f l p (b) D=m:=⟨_,rfl⟩;have Z0:B (Qz f l p (b) D=m):=q0
   have i0:B (∀q,Fr (fun j=>j=Q) wc q->q.cell? ⟨d,2,Y⟩=U (E (U ⟨pg,0,Y⟩) np pc)/\q.cell? ⟨P,0,Y⟩=U (I p.pan)/\q.cell? ⟨pg,c,Y⟩=U (E pa ll y)):=by
    intro q hf;have f1:Fr (fun j=>j=Q) a q:=(hQ.1.mono (by simp)).trans hf
    have b1:a.cell? ⟨d,2,Y⟩=U (E (U ⟨pg,0,Y⟩) np pc):=by rw[<-m0];exact bC X 2 _ rfl
    have b2:a.cell? ⟨P,0,Y⟩=U (I p.pan):=bC H0.o 0 _ rfl
    have b3:a.cell? ⟨pg,c,Y⟩=U (E pa ll y):=by rw[<-h0];exact C0
    have k1:d<a.heap.size:=bL a _ b1;have k2:P<a.heap.size:=bL a _ b2;have A1:=hQ.2.1;exact⟨(f1.cell (p:=⟨d,2,Y⟩) k1 (by show d≠Q;omega)).trans b1,(f1.cell (p:=⟨P,0,Y⟩) k2 (by show P≠Q;omega)).trans b2,(f1.cell (p:=⟨pg,c,Y⟩) l0 (by show pg≠Q;omega)).trans b3⟩
   have HL:B (∀q,B (F0 wc q)->C G 65 #[O (U ⟨d,0,Y⟩),I p.pan] q fun e w'=>e=M (J V (c:Nat))/\B (F0 wc w')/\w'.cell? ⟨d,2,Y⟩=U (E (U ⟨pg,0,Y⟩) np pc)/\w'.cell? ⟨P,0,Y⟩=U (I p.pan)/\w'.cell? ⟨pg,c,Y⟩=U (E pa ll y)):=by
    intro q hf;have f1:=hQ.1.trans hf.o;obtain⟨l1,l2,l3,l4,l5⟩:=V0.o;refine(EZ q zb d _ aa bb p.pan c ⟨(f1.cell (p:=⟨d,3,Y⟩) (bL a _ l1) (by simp)).trans l1,(f1.cell (p:=⟨d,3+1,Y⟩) (bL a _ l2) (by simp)).trans l2,l3.keep' f1 (by simp),l4,l5⟩ k0).mono ?_;rintro e w' ⟨he,h3⟩;have h4:=hf.o.trans h3;exact⟨he,h4,i0.o _ (h4.mono (by simp))⟩
   have HT:B (∀q,B (F0 wc q)->C G 64 #[O (U ⟨Q,0,Y⟩),E pa ll y] q fun e w'=>e=M (.tuple #[])/\B ((∃k,w'.heap[Q]?=U (VD d p (b) k true m))/\Fr (fun j=>j=Q) wc w')/\w'.cell? ⟨d,2,Y⟩=U (E (U ⟨pg,0,Y⟩) np pc)/\w'.cell? ⟨P,0,Y⟩=U (I p.pan)/\w'.cell? ⟨pg,c,Y⟩=U (E pa ll y)):=by
    intro q hf;have f1:Fr (fun j=>j=Q) a q:=(hQ.1.trans hf.o).mono (by simp);rw[<-h0];have a1:=x.o.bk.gd lp (mG c0);refine(Kv q Q d p (b) (0,H,H) pa y _ D f ra rc _ (hf.o.whole hQ.2.2 (by simp)) (n0.o.fr f1) a1.2 a1.1 M0 (X0.o.fr f1) (T0.o.fr f1) x.o.bk.r6 L0).mono ?_
    ·rintro e w' ⟨he,h2,h3⟩
     have h4:=(hf.o.mono (T:=fun j=>j=Q) (by simp)).trans h3;rw[<-p0.o,Z0.o]at h2;have hS:=i0.o _ h4;rw[<-h0]at hS;exact⟨he,⟨h2,h4⟩,hS⟩
   have hS:=i0.o wc (Fr.refl _ _);have B1:B (F0 wc wc.drew):=(Fr.refl _ _).drew
   have C1:(c:Int)<(np:Int):=by omega
   have c1:B (a.heap.size<=Q):=hQ.2.1;have d1:B (F0 a wc):=hQ.1;clear hQ N0 k0 L0 c0 M0 d0 X w0 A0 O0 P0 Q0 B0 t1 l0 C0 S0 m0 h0 q0 i0 V0 X0 p0 n0 T0 t0 t;go_upto_region 4 with fail
   go_region_held3 (fun q=>q.cell? ⟨d,2,Y⟩=U (E (U ⟨pg,0,Y⟩) np pc)/\q.cell? ⟨P,0,Y⟩=U (I p.pan)/\q.cell? ⟨pg,c,Y⟩=U (E pa ll y)) (first|assumption|go_keep) (first
    |(go_at_call 65;refine(HL.o _ (by assumption)).mono ?_;rintro e w7 ⟨rfl,D1,g1⟩)
    |(go_at_call 64;refine(HT.o _ (by assumption)).mono ?_;rintro e w7 ⟨rfl,D0,g1⟩))
   obtain⟨kz,j0⟩:=D0.o.1;have y1:=(iA.1 r.o).1;have z:B (w7.heap[P+1]?=U (K #[J V 0,I ⟨#[]⟩,I ⟨#[]⟩] 38)):=D0.o.2.whole (d1.o.whole r.o (by simp)) (fun e=>by have:=c1.o;omega);have z1:B (F0 w w7):=(b0.o.trans d1.o).monoNew D0.o.2 (fun k hk=>N (by have:=c1.o;have:=b0.o.size;omega));have E1:w7.cell? ⟨Q,13,Y⟩=U (J V (m.1:Nat)):=bC j0 13 _ rfl;have F1:w7.cell? ⟨Q,14,Y⟩=U (I m.2.1):=bC j0 14 _ rfl;have G1:w7.cell? ⟨Q,15,Y⟩=U (I m.2.2):=bC j0 15 _ rfl;have o0:=bC z.o 0 _ rfl;have o1:=bC z.o 1 _ rfl;have o2:=bC z.o 2 _ rfl;have n1:=bF z.o 0;have p1:=bF z.o 1;have q1:=bF z.o 2;clear j0 y1 g1 hS HL HT;go_wp2_with fail;have e3:=Kw (v0:=J V (m.1:Nat)) (v1:=I m.2.1) (v2:=I m.2.2) z.o;have s0:=bC e3 0 _ rfl;have s1:=bC e3 1 _ rfl;have s2:=bC e3 2 _ rfl;refine bodyPost_ret (v:=z4 #[J V (m.1:Nat),I m.2.1,I m.2.2]) (by simp[results,Tryz.results36,go_sem,s0,s1,s2]) rfl ⟨by rw[Z0.o];rfl,?_⟩;exact((z1.o.setCell (p:=⟨P+1,0,Y⟩) (N F) _).setCell (p:=⟨P+1,1,Y⟩) (N F) _).setCell (p:=⟨P+1,2,Y⟩) (N F) _
structure Ch (w:A)(zb TT D:Nat)(rts:List Zd)(ra:Option Addr)(rc:Nat)(nms:List ByteArray)(prs:List (List Zn))(tr:Tr)(a:Option Addr)(c:Nat)(l:List ByteArray):Prop where
 tg:In zb w TT rts ra rc nms prs tr
 bk:Cg rts nms prs tr
 d0:w.cell? ⟨D,0,Y⟩=U (E a l.length c)
 st:Yz w a l
 ln:l.length<=maxLen
theorem Ch.fr {w w':A}{g i D:Nat}{b:List Zd}{j:Option Addr}{k:Nat}{d:List ByteArray}{e:List (List Zn)}{m:Tr}{a:Option Addr}{c:Nat}{l:List ByteArray}(h:Ch w g i D b j k d e m a c l)(f:F0 w w'):Ch w' g i D b j k d e m a c l:=
 ⟨h.tg.fr f,h.bk,(f.cell (p:=⟨D,0,Y⟩) (bL w _ h.d0) (by simp)).trans h.d0,h.st.fr f (by simp),h.ln⟩
theorem Kx (w:A)(q i D:Nat)(b:List Zd)(j:Option Addr)(k:Nat)(d:List ByteArray)(f:List (List Zn))(m:Tr)(a:Option Addr)(c:Nat)(l:List ByteArray)(p:ZI)(n:Zn)(h:Ch w q i D b j k d f m a c l)(r:Yd p=true->Lj b d f m p n)(s:p.pan.size<=maxLen):
  C G 36 #[O (U ⟨i,0,Y⟩),UM p,.func (.func 37) #[] #[O (U ⟨D,0,Y⟩)]] w fun e w'=>e=M (NG (Qz b d p (Vn b l) n))/\F0 w w':=
 Fp w q i b j k d f m _ (Vn b l) p n ⟨h.tg,h.bk⟩ (fun W t=>by
  have g:=h.fr t;obtain⟨u,v,x,y,o,_⟩:=g.tg.bx
  exact Fk W i W.heap.size D b j k a c l (TN.of (bC o 0 _ rfl) g.tg.ro (z2 _) g.bk.rt) g.bk.r6 g.d0 g.st g.ln) r s
structure Aj (w:A)(zb T TT:Nat)(rts:List Zd)(ra:Option Addr)(rc:Nat)(nms:List ByteArray)(prs:List (List Zn))(tr:Tr)(a:Option Addr)(l:List ByteArray):Prop where
 t1:w.cell? ⟨T,1,Y⟩=U (O (U ⟨TT,0,Y⟩))
 tg:In zb w TT rts ra rc nms prs tr
 bk:Cg rts nms prs tr
 st:Yz w a l
 ln:l.length<=maxLen
theorem E1 (w:A)(zb T TT:Nat)(d:List Zd)(ra:Option Addr)(rc:Nat)(m:List ByteArray)(z:List (List Zn))(tr:Tr)(a:Option Addr)(c:Nat)(l:List ByteArray)(p:ZI)(sE:Zn)(h:Aj w zb T TT d ra rc m z tr a l)(a0:Yd p=true->Lj d m z tr p sE)(hs:p.pan.size<=maxLen):
  C G 19 #[O (U ⟨T,0,Y⟩),UM p,E a l.length c] w fun e w'=>e=M (NG (Qz d m p (Vn d l) sE))/\F0 w w':=by
 have i0:∀(fn:Fn)(first cap:Array z5)(w:A),(Instr.makeFunc fn first cap).run G w=.ok (.func fn first cap) w:=fun _ _ _ _=>rfl
 have q:B (F0 w (((w.alloc (Xt p)).alloc (K #[E a l.length c] 28)).alloc (K #[J V 0,I ⟨#[]⟩,I ⟨#[]⟩] 38))):=(((Fr.refl _ _).alloc _).alloc _).alloc _;have s:B ((((w.alloc (Xt p)).alloc (K #[E a l.length c] 28)).alloc (K #[J V 0,I ⟨#[]⟩,I ⟨#[]⟩] 38)).heap[w.heap.size]?=U (Xt p)):=(((Fr.refl (fun _=>False) _).alloc _).alloc _).whole (aN w _) (by simp)
 have t:B ((((w.alloc (Xt p)).alloc (K #[E a l.length c] 28)).alloc (K #[J V 0,I ⟨#[]⟩,I ⟨#[]⟩] 38)).heap[w.heap.size+1]?=U (K #[E a l.length c] 28)):=by
  have e:=aN (w.alloc (Xt p)) (K #[E a l.length c] 28);rw[show(w.alloc (Xt p)).heap.size=w.heap.size+1 from by simp]at e;exact((Fr.refl (fun _=>False) _).alloc _).whole e (by simp)
 have u:B ((((w.alloc (Xt p)).alloc (K #[E a l.length c] 28)).alloc (K #[J V 0,I ⟨#[]⟩,I ⟨#[]⟩] 38)).heap[w.heap.size+1+1]?=U (K #[J V 0,I ⟨#[]⟩,I ⟨#[]⟩] 38)):=by
  have e:=aN ((w.alloc (Xt p)).alloc (K #[E a l.length c] 28)) (K #[J V 0,I ⟨#[]⟩,I ⟨#[]⟩] 38);rw[show((w.alloc (Xt p)).alloc (K #[E a l.length c] 28)).heap.size=w.heap.size+1+1 from by simp]at e;exact e
 have HH:=Za h;have e0:=Za a0;unfold UM;unfold Xt at q s u t;obtain⟨n,hn⟩:∃n,l.length=n:=⟨_,rfl⟩;have HN:=Za hn;rw[hn]at q s u t ⊢;have f0:=Za hs;clear h hs hn a0;go_enter Tryz.func19,Tryz.ntmps19;go_upto_region 1 with fail;generalize((w.alloc (K #[I p.pan,J V p.mcc,J V p.am,J V p.cur] 35)).alloc (K #[E a n c] 28)).alloc (K #[J V 0,I ⟨#[]⟩,I ⟨#[]⟩] 38)=W at*;obtain⟨P,hP⟩:∃P,w.heap.size=P:=⟨_,rfl⟩;have b0:=Za hP;rw[hP]at s u t;rw[hP];clear hP
 have D:B (∀g,F0 W g->C G 36 #[O (U ⟨TT,0,Y⟩),z4 #[I p.pan,J V p.mcc,J V p.am,J V p.cur],.func (.func 37) #[] #[O (U ⟨P+1,0,Y⟩)]] g fun e w'=>e=M (NG (Qz d m p (Vn d l) sE))/\F0 g w'):=by
  intro g hf;have f:=q.o.trans hf;have hh:=HH.o;exact Kx g zb TT (P+1) d ra rc m z tr a c l p sE ⟨hh.tg.fr f,hh.bk,by rw[HN.o];exact bC (hf.whole t.o (by simp)) 0 _ rfl,hh.st.fr f (by simp),hh.ln⟩ e0.o f0.o
 obtain⟨b,r⟩:∃b,Qz d m p (Vn d l) sE=b:=⟨_,rfl⟩;have g0:=Za r;rw[r]at D;unfold NG at D
 have F:B (∀g,F0 W g->g.cell? ⟨T,1,Y⟩=U (O (U ⟨TT,0,Y⟩))/\g.cell? ⟨P,0,Y⟩=U (I p.pan)/\g.cell? ⟨P,1,Y⟩=U (J V p.mcc)/\g.cell? ⟨P,2,Y⟩=U (J V p.am)/\g.cell? ⟨P,3,Y⟩=U (J V p.cur)):=fun g hf=>by
  have e:=hf.whole s.o (by simp);have t1:=HH.o.t1;exact⟨((q.o.trans hf).cell (p:=⟨T,1,Y⟩) (bL w _ t1) (by simp)).trans t1,bC e 0 _ rfl,bC e 1 _ rfl,bC e 2 _ rfl,bC e 3 _ rfl⟩
 have c0:B (T<P/\w.heap.size<=P+1+1):=⟨by rw[<-b0.o];exact bL w _ HH.o.t1,by rw[b0.o];omega⟩;clear r;refine wp_region_held_drew (S:=fun g=>g.cell? ⟨T,1,Y⟩=U (O (U ⟨TT,0,Y⟩))/\g.cell? ⟨P,0,Y⟩=U (I p.pan)/\g.cell? ⟨P,1,Y⟩=U (J V p.mcc)/\g.cell? ⟨P,2,Y⟩=U (J V p.am)/\g.cell? ⟨P,3,Y⟩=U (J V p.cur)) (by kernel_rfl) (F.o _ (Fr.refl _ _).drew) (fun H=>?_);refine Zf 0 H ?_
 try go_frame
 refine Zf 1 H ?_
 try go_frame
 refine Zf 2 H ?_
 try go_frame
 refine Zf 3 H ?_
 try go_frame
 refine Zf 4 H ?_
 try go_frame
 refine Zf 5 H ?_
 try go_frame
 refine wpAnyH_ready (rs:=[6]) (by kernel_rfl) (by simp) ?_;refine Zb rfl (fun K2 hK=>?_) L
 try rw[if_pos (by rfl)]
 go_simp;refine(D.o _ ((Fr.refl _ _).drew)).mono ?_;rintro e y ⟨rfl,d0⟩;have x:=Za (((Fr.refl _ _).drew).trans d0);have i:=Za (x.o.whole u.o (by simp));clear d0;refine hK.out _ _ (F.o _ x.o) (fun H=>?_);clear hK K2
 try go_frame
 have o0:=bC i.o 0 _ rfl;have o1:=bC i.o 1 _ rfl;have o2:=bC i.o 2 _ rfl;have j0:=bF i.o 0;have k0:=bF i.o 1;have l0:=bF i.o 2;refine wpAnyH_ready (rs:=[7]) (by kernel_rfl) (by simp) ?_;refine Zb rfl (fun K2 hK=>?_) L
 try rw[if_pos (by rfl)]
 go_simp;have Q:Fr (fun j=>j=P+1+1) y (((y.setCell ⟨P+1+1,0,Y⟩ (J V (b.1:Nat))).setCell ⟨P+1+1,1,Y⟩ (I b.2.1)).setCell ⟨P+1+1,2,Y⟩ (I b.2.2)):=(((Fr.refl (fun j=>j=P+1+1) y).setCell (p:=⟨P+1+1,0,Y⟩) (z3 rfl) _).setCell (p:=⟨P+1+1,1,Y⟩) (z3 rfl) _).setCell (p:=⟨P+1+1,2,Y⟩) (z3 rfl) _;have h0:F0 w (((y.setCell ⟨P+1+1,0,Y⟩ (J V (b.1:Nat))).setCell ⟨P+1+1,1,Y⟩ (I b.2.1)).setCell ⟨P+1+1,2,Y⟩ (I b.2.2)):=(q.o.trans x.o).monoNew Q (fun k hk=>N (by have:=c0.o.2;omega));have R:=Kw (v0:=J V (b.1:Nat)) (v1:=I b.2.1) (v2:=I b.2.2) i.o;obtain⟨s0,s1,s2,s3,s4⟩:=F.o _ x.o
 have Z:∀X o v,X<P+1+1->y.cell? ⟨X,o,Y⟩=U v->(((y.setCell ⟨P+1+1,0,Y⟩ (J V (b.1:Nat))).setCell ⟨P+1+1,1,Y⟩ (I b.2.1)).setCell ⟨P+1+1,2,Y⟩ (I b.2.2)).cell? ⟨X,o,Y⟩=U v:=fun X o v hX hv=>(Q.cell (p:=⟨X,o,Y⟩) (bL y _ hv) (by show X≠P+1+1;omega)).trans hv
 have m0:=c0.o.1;refine hK.out _ _ ⟨Z T 1 _ (by omega) s0,Z P 0 _ (by omega) s1,Z P 1 _ (by omega) s2,Z P 2 _ (by omega) s3,Z P 3 _ (by omega) s4⟩ (fun _=>?_);clear hK K2 Z s0 s1 s2 s3 s4 Q
 try go_frame
 generalize((y.setCell ⟨P+1+1,0,Y⟩ (J V (b.1:Nat))).setCell ⟨P+1+1,1,Y⟩ (I b.2.1)).setCell ⟨P+1+1,2,Y⟩ (I b.2.2)=W8 at*;refine wpAnyH_done (by kernel_rfl) ?_ _;go_wp2_with fail;have s0:=bC R 0 _ rfl;have s1:=bC R 1 _ rfl;have s2:=bC R 2 _ rfl;refine bodyPost_ret (v:=z4 #[J V (b.1:Nat),I b.2.1,I b.2.2]) (by simp[results,Tryz.results19,go_sem,s0,s1,s2]) rfl ⟨by rw[g0.o];rfl,h0⟩
structure Ak (w:A)(zb T TT:Nat)(rts:List Zd)(R:List Zc)(ra:Option Addr)(rc:Nat)(a:Option Addr)(l:List ByteArray):Prop where
 t1:w.cell? ⟨T,1,Y⟩=U (O (U ⟨TT,0,Y⟩))
 tr:XV zb w TT (E ra rts.length rc) R (ZE (ZA R) R.length)
 ro:w.ownsRow 0 148 3 (E ra rts.length rc) rts.length (YU rts)
 bk:YE rts R
 st:Yz w a l
 ln:l.length<=maxLen
theorem E2 {b:List Zd}{R:List Zc}(a:YE b R):Cg b (R.map Zc.name) ((ZR R 7 ⟨0,0⟩ 0 (2^R.length-1) []).2.map fun m=>Z2 R m (WY R.length (ZE (ZA R) R.length))) (ZR R 7 ⟨0,0⟩ 0 (2^R.length-1) []).1:=by
 refine⟨a.rt,a.r6,fun s c=>?_,fun l d=>?_,Im a⟩
 ·obtain⟨r,e,rfl⟩:=z9.1 c
  exact(a.rl r e).nm
 ·obtain⟨m,g,rfl⟩:=z9.1 d
  refine⟨?_,fun s c f=>RW a.rl m _ s c f⟩;have h:=OQ R m (WY R.length (ZE (ZA R) R.length))
  have i:(WY R.length (ZE (ZA R) R.length)).length=R.length:=by simp[WY]
  have j:=a.l8;omega
theorem XV.tg {g:Nat}{w:A}{i:Nat}{c:List Zd}{d:Option Addr}{f:Nat}{R:List Zc}(h:XV g w i (E d c.length f) R (ZE (ZA R) R.length))(n:w.ownsRow 0 148 3 (E d c.length f) c.length (YU c)):In g w i c d f (R.map Zc.name) ((ZR R 7 ⟨0,0⟩ 0 (2^R.length-1) []).2.map fun m=>Z2 R m (WY R.length (ZE (ZA R) R.length))) (ZR R 7 ⟨0,0⟩ 0 (2^R.length-1) []).1:=by
 obtain⟨o,p,a,b,q,r,⟨s,t,u⟩,v⟩:=h.bx;refine⟨⟨o,p,a,b,q,by rw[z1];exact r,⟨s,by rw[z1];exact t,fun j l k=>?_⟩,v⟩,n⟩;rw[F]at k;obtain⟨m,x,e⟩:=Option.map_eq_some_iff.1 k;subst e;exact u j m x
theorem Io {b:List Zd}{R:List Zc}(j:YE b R)(p:ZI)(l:Yd p=true):Lj b (R.map Zc.name) ((ZR R 7 ⟨0,0⟩ 0 (2^R.length-1) []).2.map fun m=>Z2 R m (WY R.length (ZE (ZA R) R.length))) (ZR R 7 ⟨0,0⟩ 0 (2^R.length-1) []).1 p (RR R (YK (ZA R) (Y1 R p (Zz p.pan)) R.length)):=by
 have c:Xv p.pan=true:=by have e:=l;rw[Y7,z0]at e;exact e.1
 obtain⟨m,d,f⟩:=E0 j p c;refine⟨_,by rw[F,d];rfl,f,?_⟩;have g:=Ua (ZA R) (Y1 R p (Zz p.pan)) R.length
 cases n:YK (ZA R) (Y1 R p (Zz p.pan)) R.length with
 |none=>exact z3 rfl
 |some i=>
  rw[n]at g;obtain⟨r,k⟩:∃r,R[i]?=U r:=⟨_,gE g.1⟩;have a:=j.rl r (mG k);refine N ?_
  have h:i<(R.map Zc.name).length:=by rw[z1];exact g.1
  simp only[RR,k];unfold Ts
  split
  ·exact⟨z3 rfl,by simp,by simp,h⟩
  ·split
   ·exact⟨N (N rfl),a.pl.1,a.pl.2,h⟩
   ·exact⟨N (z3 rfl),a.pl.1,a.pl.2,h⟩
theorem Fq {a:List Zd}{R:List Zc}(p:ZI)(c:Nat->Bool):Qz a (R.map Zc.name) p c (RR R (YK (ZA R) (Y1 R p (Zz p.pan)) R.length))=TM a R p c:=by
 unfold Qz;by_cases b:Yd p=true
 ·rw[if_pos b,Cf p c b _ rfl]
  cases g:YK (ZA R) (Y1 R p (Zz p.pan)) R.length with
  |none=>simp[RR,WZ]
  |some i=>
   have d:=Ua (ZA R) (Y1 R p (Zz p.pan)) R.length;rw[g]at d;obtain⟨r,f⟩:∃r,R[i]?=U r:=⟨_,gE d.1⟩
   have e:(RR R (U i)).rule=i:=by
    simp only[RR,f];unfold Ts
    split
    ·rfl
    ·split<;>rfl
   rw[e];simp[y0,f]
 ·rw[if_neg b]
  unfold TM;rw[if_neg b]
theorem Ip (w:A)(d T f:Nat)(b:List Zd)(R:List Zc)(g:Option Addr)(i:Nat)(a:Option Addr)(c:Nat)(l:List ByteArray)(p:ZI)(h:Ak w d T f b R g i a l)(j:p.pan.size<=maxLen):
  C G 19 #[O (U ⟨T,0,Y⟩),UM p,E a l.length c] w fun e w'=>e=M (NG (TM b R p (Vn b l)))/\F0 w w':=by
 have e:=E1 w d T f b g i _ _ _ a c l p _ ⟨h.t1,h.tr.tg h.ro,E2 h.bk,h.st,h.ln⟩ (Io h.bk p) j;rw[Fq]at e;exact e
