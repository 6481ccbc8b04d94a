import Derived.Test.YtccikgogjfbpeaaGreatDoorAc
import Derived.Shelf.LaysM
import Derived.Shelf.Strconv.Clone
import Derived.Lib.ItoaNum
set_option maxRecDepth 30000
set_option maxHeartbeats 8000000
open Option renaming none->I,some->J
open Go.Value renaming slice->Y,int->Z,string->O,bool->H,pointer->y6,oneCell'->q4
open Go.IntKind renaming i64->U
open Go renaming Value->D,World->G,Calls->x0
open Go.RowKit renaming Hid->M
open Go.Proofs.Tryz renaming prog->T
open Go.Ending renaming returned->L
open Go.World renaming cell?_alloc_some->W,news_of_block->x6
open Go.Obj renaming cells->A
open List renaming map_cons->C,getElem?_append_left->F,any_cons->z8,length_cons->y0,length_eq_zero_iff->y9,getElem_of_mem->x7,append_assoc->x8,cons_append->x9,map_append->q0,replicate->q5
open Nat renaming zero_add->z6,le_refl->z7,zero_mul->q6
open And renaming intro->y4
open Go.AllReadyH renaming nil->y7
open Or renaming inr->y8,inl->x5
namespace Go.Proofs
open Go.Shelf
def PC:Go.Shelf.Ren:=⟨fun|316=>153|n=>n,fun|9=>9|3=>3|4=>4|37=>50|0=>0|127=>201|5=>5|n=>n,fun|n=>n⟩
theorem Jm:LaysM.n316 T PC:={
 mixed:=by kernel_rfl
 f316:=Tryz.func153.trans (congrArg J (by kernel_rfl))
 t0:=Tryz.underlying0
 a0:=Tryz.isAgg0
 z0:=Tryz.sizeOf0
 v0:=Tryz.zeroValue0
 t3:=Tryz.underlying3
 a3:=Tryz.isAgg3
 z3:=Tryz.sizeOf3
 v3:=Tryz.zeroValue3
 t4:=Tryz.underlying4
 a4:=Tryz.isAgg4
 z4:=Tryz.sizeOf4
 v4:=Tryz.zeroValue4
 t9:=Tryz.underlying9
 a9:=Tryz.isAgg9
 z9:=Tryz.sizeOf9
 v9:=Tryz.zeroValue9
 t37:=Tryz.underlying50
 a37:=Tryz.isAgg50
 z37:=Tryz.sizeOf50
 v37:=Tryz.zeroValue50
 t127:=Tryz.underlying201
 a127:=Tryz.isAgg201
 z127:=Tryz.sizeOf201
 v127:=Tryz.zeroValue201
 t5:=Tryz.underlying5
 a5:=Tryz.isAgg5
 z5:=Tryz.sizeOf5
 v5:=Tryz.zeroValue5
 i0:=by kernel_rfl
 i3:=by kernel_rfl
 i4:=by kernel_rfl
 i5:=by kernel_rfl
 i9:=by kernel_rfl
 i37:=by kernel_rfl
 i127:=by kernel_rfl}
namespace YtccikgogjfbpeaaGreatDoor
open Go.RowKit
theorem Fk (s w)(a:s.size<=3000):x0 T 153 #[O s] w fun e w'=>e=L (O s)/\F0 w w':=
 (Any.stringslite_Clone Jm s w (by omega)).mono fun _ _ h=>⟨h.1,Fr.of_below h.2⟩
theorem VD (s w)(a:s.size<=3000):x0 T 96 #[O s] w fun e w'=>e=L (O s)/\F0 w w':=by
 have c:=Za (Fk s w a);clear a;go_enter Tryz.func96,Tryz.ntmps96;go_wp2_with fail;refine c.o.mono ?_;rintro e f ⟨rfl,b⟩;have d:=Za b;clear b;go_wp2;go_ret;exact⟨rfl,d.o⟩
structure Ze where
 name:ByteArray
 rank:Nat
 digits:Nat
 lo:Nat
 hi:Nat
 mcc:List Nat
 am:Option (Nat×Nat)
 cur:List Nat
 decline:Bool
 cheapest:Bool
 routes:List Nat
 ahead:Nat
def BX (base:Nat)(w:G)(r:Ze)(d:List D):Prop:=
 ∃a b c,d=[O r.name,Z U r.rank,Z U r.digits,Z U r.lo,Z U r.hi,a,H r.am.isSome,Z U (r.am.getD (0,0)).1,Z U (r.am.getD (0,0)).2,b,H r.decline,H r.cheapest,c,Z U r.ahead]/\
  w.ownsRow base 3 1 a r.mcc.length (Zg r.mcc)/\w.ownsRow base 3 1 b r.cur.length (Zg r.cur)/\w.ownsRow base 3 1 c r.routes.length (Zg r.routes)
def Tz (base:Nat)(w:G):List Ze->List D->Prop
 |[],xs=>xs=[]
 |r::rs,xs=>∃c a,xs=c++a/\BX base w r c/\Tz base w rs a
theorem BX.keep {base w w' r b}(h:BX base w r b)(a:∀v n c,w.ownsRow base 3 1 v n c->w'.ownsRow base 3 1 v n c):BX base w' r b:=by
 obtain⟨d,f,g,e,i,j,k⟩:=h;exact⟨d,f,g,e,a _ _ _ i,a _ _ _ j,a _ _ _ k⟩
theorem Tz.keep {base:Nat}{w w':G}(b:∀v n a,w.ownsRow base 3 1 v n a->w'.ownsRow base 3 1 v n a):∀{rs:List Ze}{a:List D},Tz base w rs a->Tz base w' rs a
 |[],_,h=>h
 |_::_,_,⟨c,rest,e,h1,h2⟩=>⟨c,rest,e,h1.keep b,Tz.keep b h2⟩
theorem Tz.snoc {base:Nat}{w:G}{r:Ze}{c:List D}(a:BX base w r c):∀{rs:List Ze}{b:List D},Tz base w rs b->Tz base w (rs++[r]) (b++c)
 |[],_,h=>by
  have f:_=[]:=h;subst f;exact⟨c,[],by simp,a,rfl⟩
 |_::_,_,⟨d,rest,e,h1,h2⟩=>⟨d,rest++c,by rw[e,x8],h1,Tz.snoc a h2⟩
structure Bk (w:G)(B:Nat)(vr vl:D)(rts:List Zf)(rls:List Ze)(xs:List D):Prop where
 c0:w.cell? ⟨B,0,I⟩=J vr
 c1:w.cell? ⟨B,1,I⟩=J vl
 fz:∀o,w.frozen? ⟨B,o,I⟩=false
 ro:w.ownsRow (B+1) 148 3 vr rts.length (Yi rts)
 lo:w.ownsRow (B+1) 120 14 vl rls.length xs
 ru:Tz (B+1) w rls xs
 r6:rts.length<=6
 l8:rls.length<=8
theorem Bk.fr {w w' B i j rts b l S}(h:Bk w B i j rts b l)(a:Fr S w w')(d:∀k,S k->k<B:=by simp):Bk w' B i j rts b l:=by
 have f:B<w.heap.size:=bL w _ h.c0
 have g:¬S B:=fun e=>by have:=d B e;omega
 exact⟨(a.cell (p:=⟨B,0,I⟩) f g).trans h.c0,(a.cell (p:=⟨B,1,I⟩) f g).trans h.c1,fun o=>(a.frozen (p:=⟨B,o,I⟩) f g).trans (h.fz o),
  oF h.ro a (fun k c=>by have:=d k c;omega),oF h.lo a (fun k c=>by have:=d k c;omega),Tz.keep (fun v n q m=>oF m a (fun k c=>by have:=d k c;omega)) h.ru,h.r6,h.l8⟩
def ZE (rts:List Zf)(r:Nm):Except (Nat×Nat) Zf:=
 if rts.length=6 then .error (6,r.name.line)
 else if 0<=Zk r.name.text 0 rts then .error (4,r.name.line)
 else if 1000000<Zd r.base then .error (5,r.base.line)
 else if 1000<Zd r.rate then .error (5,r.rate.line)
 else .ok ⟨r.name.text,Zd r.base,Zd r.rate⟩
def Ux (x:Except (Nat×Nat) Zf)(w:G)(B:Nat)(b:D)(rts:List Zf)(a:List Ze)(c:List D)(e:Ending)(w':G):Prop:=
 match x with
 | .ok r=>e=L (.tuple #[])/\(∃d,Bk w' B d b (rts++[r]) a c)/\Below B w w'
 | .error f=>e=Zj f.1 f.2/\Below B w w'
theorem Ux.ok {x w w' B b rts a c e r}(h:x=.ok r):Ux x w B b rts a c e w'↔e=L (.tuple #[])/\(∃d,Bk w' B d b (rts++[r]) a c)/\Below B w w':=by subst h;exact Iff.rfl
theorem Ux.err {x w w' B b rts a c e f}(h:x=.error f):Ux x w B b rts a c e w'↔e=Zj f.1 f.2/\Below B w w':=by subst h;exact Iff.rfl
theorem oL {w:G}{base e b v n d}(h:w.ownsRow base e b v n d):∃a c,v=Y a n c:=by
 rcases h.2 with⟨rfl,f⟩|⟨g,cap,i,rfl,_⟩
 ·exact⟨I,0,by rw[f]⟩
 exact⟨_,_,rfl⟩
theorem Nz:(T.info? 148).map (fun i=>(i.zero,i.size,i.bytes))=J (J (.agg #[O ByteArray.empty,Z U 0,Z U 0]),3,32):=by kernel_rfl
end YtccikgogjfbpeaaGreatDoor
end Go.Proofs
namespace Go.Proofs.YtccikgogjfbpeaaGreatDoor
open Go.RowKit
theorem Cd {w g a B i r V rts d s rt}(h:Bk w B i r rts d s)(b:Below w.heap.size w g)(c:g.grownBy a i.ownBlock)(x:a.ownsRow (B+1) 148 3 V (rts.length+1) (Yi rts++Sb rt)):
  a.cell? ⟨B,0,I⟩=J i/\(∀o,a.frozen? ⟨B,o,I⟩=false)/\(rts.length<=5->Bk (a.setCell ⟨B,0,I⟩ V) B V r (rts++[rt]) d s/\Below B w (a.setCell ⟨B,0,I⟩ V)):=by
 have q:B<w.heap.size:=bL w _ h.c0
 have f:∀j,j<=B->J j≠i.ownBlock:=fun j C e=>by have:=h.ro.lt j e.symm;omega
 have t:∀o,a.cell? ⟨B,o,I⟩=w.cell? ⟨B,o,I⟩:=fun o=>(c.cell_far ⟨B,o,I⟩ (nL q b.size) (f B (z7 _))).trans (b.cell (p:=⟨B,o,I⟩) q)
 have u:∀o,a.frozen? ⟨B,o,I⟩=w.frozen? ⟨B,o,I⟩:=fun o=>(c.frozen_far ⟨B,o,I⟩ (nL q b.size) (f B (z7 _))).trans (b.frozen (p:=⟨B,o,I⟩) q)
 have l:g.ownsRow (B+1) 148 3 i rts.length (Yi rts):=oF h.ro (Fr.of_below (S:=fun _=>False) b);have y:Below B w a:=(b.mono (by omega)).trans ⟨c.os,c.tape,c.output,c.size,fun k D=>c.block k (nL (by omega) b.size) (f k (by omega))⟩;refine⟨(t 0).trans h.c0,fun o=>(u o).trans (h.fz o),fun E=>⟨⟨?_,?_,fun o=>by simp[u o,h.fz o],?_,?_,?_,by simp;omega,h.l8⟩,y.setCell (by simp) _⟩⟩
 ·exact cS _ _ _ ((t 0).trans h.c0)
 ·rw[cO _ _ _ _ (by simp)];exact(t 1).trans h.c1
 ·rw[Nx,lA];exact oB x (by simp) _
 ·have m:g.ownsRow (B+1) 120 14 r d.length s:=oF h.lo (Fr.of_below (S:=fun _=>False) b)
  exact oB (m.kept c (WL m l (by decide))) (by simp) _
 refine Tz.keep (fun v n z A=>?_) h.ru
 have m:g.ownsRow (B+1) 3 1 v n z:=oF A (Fr.of_below (S:=fun _=>False) b);exact oB (m.kept c (WL m l (by decide))) (by simp) _
theorem Jn (w B vr vl rts V xs r)(h:Bk w B vr vl rts V xs)(hn:r.name.text.size<=3000)(hb:Dg r.base.text)(hr:Dg r.rate.text):
  x0 T 314 #[UW r,y6 (J ⟨B,0,I⟩)] w (Ux (ZE rts r) w B vl rts V xs):=by
 have R:=Za h;have N0:B<w.heap.size:=bL w _ h.c0;obtain⟨va,vc,rfl⟩:=oL h.ro;obtain⟨ii,hi,v0,w0,y0⟩:=info_parts Nz;have z0:=Za hn;have X:=Za hb;have a0:=Za hr;have c0:=h.c0;have n:=(VA w (A #[Z U r.name.sort,O r.name.text,Z U r.name.line,Z U r.base.sort,O r.base.text,Z U r.base.line,Z U r.rate.sort,O r.rate.text,Z U r.rate.line] 290)).1;unfold UW;by_cases h6:rts.length=6
 ·have hq:((rts.length:Int)==6)=true:=by simp;omega
  have y:M (ZE rts r=.error (6,r.name.line)):=by show _=_;unfold ZE;rw[if_pos h6]
  go_enter Tryz.func314,Tryz.ntmps314;go_wp2_with fail;refine(YE r.name 6 _ _ (by rfl)).mono ?_;rintro e w9 ⟨f,b⟩;unfold Zj at f;subst f;exact⟨rfl,(Ux.err y.o).2 ⟨rfl,(n.o.trans b).below (by omega)⟩⟩
 have hq:((rts.length:Int)==6)=false:=by simp;omega
 have y:=Za h6;go_enter Tryz.func314,Tryz.ntmps314;go_wp2_with fail;refine(Ny _ B (B+1) _ rts r.name.text (R.o.fr n.o).c0 (R.o.fr n.o).ro R.o.r6).mono ?_;rintro e a ⟨rfl,b⟩;have c:=b.whole (aN w _);have b0:=Za (n.o.trans b);have e0:=bC c 0 _ rfl;have e1:=bC c 1 _ rfl;have e2:=bC c 2 _ rfl;have e3:=bC c 3 _ rfl;have e4:=bC c 4 _ rfl;have e5:=bC c 5 _ rfl;have e6:=bC c 6 _ rfl;have e7:=bC c 7 _ rfl;have e8:=bC c 8 _ rfl;have u:=Za c;by_cases hp:0<=Zk r.name.text 0 rts
 ·have z:M (ZE rts r=.error (4,r.name.line)):=by show _=_;unfold ZE;rw[if_neg y.o,if_pos hp]
  generalize Zk r.name.text 0 rts=q at*;go_wp2_with fail;refine(YE r.name 4 _ _ (by rfl)).mono ?_;rintro e w9 ⟨f,b⟩;unfold Zj at f;subst f;exact⟨rfl,(Ux.err z.o).2 ⟨rfl,(b0.o.trans b).below (by omega)⟩⟩
 have HP:=Za hp
 have A0:Zk r.name.text 0 rts<0:=by omega
 generalize hg:Zk r.name.text 0 rts=q at hp A0;have O0:w.heap.size<a.heap.size:=(iA.1 u.o).1;go_wp2_with fail;refine(VD r.name.text _ z0.o).mono ?_;rintro e w2 ⟨rfl,b⟩;have s:=b.whole (((Fr.refl (fun _=>False) _).alloc _).whole u.o);have C:=b.whole (aN a _);have B0:=Za ((b0.o.alloc _).trans b);have f0:=Za s;have g0:=Za C;have e3:=Zc s 3;have e4:=Zc s 4;have e5:=Zc s 5;have n0:=Zc C 0;have nf:=bF C
 have P0:¬w.heap.size=a.heap.size:=by omega
 have K0:¬a.heap.size=w.heap.size:=by omega
 go_wp2_with fail;have h0:Fr (fun k=>k=a.heap.size) w2 (w2.setCell ⟨a.heap.size,0,I⟩ (O r.name.text)):=(Fr.refl (fun k=>k=a.heap.size) _).setCell (p:=⟨a.heap.size,0,I⟩) (x5 rfl) _;have C0:=Za (h0.whole f0.o (by omega));have D0:M ((w2.setCell ⟨a.heap.size,0,I⟩ (O r.name.text)).heap[a.heap.size]?=J (A #[O r.name.text,Z U 0,Z U 0] 148)):=Ym g0.o 0 _;have i0:=Za (B0.o.monoNew h0 (fun k hk=>y8 (by omega)));generalize w2.setCell ⟨a.heap.size,0,I⟩ (O r.name.text)=w3 at*;by_cases D:1000000<Zd r.base
 ·have z:M (ZE rts r=.error (5,r.base.line)):=by show _=_;unfold ZE;rw[if_neg y.o,if_neg (by have:=HP.o;omega),if_pos D]
  refine(QH r.base _ 1000000 _ X.o D (by rfl)).mono ?_;rintro e w9 ⟨f,b⟩;unfold Zj at f;subst f;exact⟨rfl,(Ux.err z.o).2 ⟨rfl,(i0.o.trans b).below (by omega)⟩⟩
 have j0:=Za D
 refine(Rn r.base _ 1000000 _ X.o (by omega) (by rfl)).mono ?_;rintro e w4 ⟨rfl,b⟩;have t:=b.whole C0.o;have E:=b.whole D0.o;have E0:=Za (i0.o.trans b);have L0:=Za t;have k0:=Za E;have e6:=Zc t 6;have e7:=Zc t 7;have e8:=Zc t 8;have n1:=Zc E 1;have nf:=bF E;generalize F0:Zd r.base=m at*;have l0:=Za F0;go_wp2_with fail;have G0:Fr (fun k=>k=a.heap.size) w4 (w4.setCell ⟨a.heap.size,1,I⟩ (Z U m)):=(Fr.refl (fun k=>k=a.heap.size) _).setCell (p:=⟨a.heap.size,1,I⟩) (x5 rfl) _;have H0:M ((w4.setCell ⟨a.heap.size,1,I⟩ (Z U m)).heap[a.heap.size]?=J (A #[O r.name.text,Z U m,Z U 0] 148)):=Ym k0.o 1 _;have o0:=Za (E0.o.monoNew G0 (fun k hk=>y8 (by omega)));generalize w4.setCell ⟨a.heap.size,1,I⟩ (Z U m)=w5 at*;by_cases F:1000<Zd r.rate
 ·have z:M (ZE rts r=.error (5,r.rate.line)):=by show _=_;unfold ZE;rw[if_neg y.o,if_neg (by have:=HP.o;omega),l0.o,if_neg j0.o,if_pos F]
  refine(QH r.rate _ 1000 _ a0.o F (by rfl)).mono ?_;rintro e w9 ⟨f,b⟩;unfold Zj at f;subst f;exact⟨rfl,(Ux.err z.o).2 ⟨rfl,(o0.o.trans b).below (by omega)⟩⟩
 have z:M (ZE rts r=.ok ⟨r.name.text,m,Zd r.rate⟩):=by show _=_;unfold ZE;rw[if_neg y.o,if_neg (by have:=HP.o;omega),l0.o,if_neg j0.o,if_neg F]
 refine(Rn r.rate _ 1000 _ a0.o (by omega) (by rfl)).mono ?_;rintro e w6 ⟨rfl,b⟩;have G:=b.whole H0.o;have I0:=Za (o0.o.trans b);have p0:=Za G;have n2:=Zc G 2;have nf:=bF G;generalize Zd r.rate=v at*;go_wp2_with fail;have J0:Fr (fun k=>k=a.heap.size) w6 (w6.setCell ⟨a.heap.size,2,I⟩ (Z U v)):=(Fr.refl (fun k=>k=a.heap.size) _).setCell (p:=⟨a.heap.size,2,I⟩) (x5 rfl) _;have H:M ((w6.setCell ⟨a.heap.size,2,I⟩ (Z U v)).heap[a.heap.size]?=J (A #[O r.name.text,Z U m,Z U v] 148)):=Ym p0.o 2 _;have q0:=Za (I0.o.monoNew J0 (fun k hk=>y8 (by omega)));generalize w6.setCell ⟨a.heap.size,2,I⟩ (Z U v)=g at*;have L:=Za (R.o.fr q0.o);have c0:=L.o.c0;have m0:=Zc H.o 0;have m1:=Zc H.o 1;have m2:=Zc H.o 2;have Q0:=R.o.r6;have R0:B<g.heap.size:=bL g _ c0;have x:a.heap.size<g.heap.size:=bL g _ m0;refine wp_region_held_drew (S:=fun w'=>w'.cell? ⟨a.heap.size,0,I⟩=J (O r.name.text)/\w'.cell? ⟨a.heap.size,1,I⟩=J (Z U m)/\w'.cell? ⟨a.heap.size,2,I⟩=J (Z U v)) (by kernel_rfl) ?_ (fun d=>?_)
 ·exact⟨by simpa using m0,by simpa using m1,by simpa using m2⟩
 refine ZY 0 d ?_;go_frame;refine ZY 1 d ?_;go_frame;refine ZY 2 d ?_;go_frame;refine ZY 3 d ?_;go_frame;refine ZY 5 d ?_;go_frame;refine XC [4,6] ?_;refine Zb rfl (fun K i=>?p1) (Zb rfl (fun K i=>?p2) y7)
 case' p1=>
  rw[if_pos (by rfl)];go_simp;refine i.out _ _ d (fun _=>?_)
  try go_frame
  refine Vy 6 (fun K i=>?_);go_simp;refine i.out _ _ (by simp[*,W]) (fun d=>?_)
 case' p2=>
  rw[if_pos (by rfl)];go_simp;refine i.out _ _ (by simp[*,W]) (fun d=>?_)
  try go_frame
  refine Vy 4 (fun K i=>?_)
  have S0:=fun o=>(W g ⟨B,0,I⟩ o (by simp[c0])).trans c0
  go_simp;refine i.out _ _ d (fun _=>?_)
 all_goals
  try go_frame
  refine XC [7] ?_;refine Zb rfl (fun K i=>?_) y7;refine step_append_lies _ rfl (.tmp 40) (.tmp 42) 86 rfl (B+1) 148 ii _ 3 32 Tryz.underlying86 hi v0 w0 y0 rfl (by decide) (Y va rts.length vc) rts.length (Yi rts) rfl ?h1 ⟨g.heap.size,0,I⟩ 1 1 [O r.name.text,Z U m,Z U v] rfl rfl ?h2 ?h3 (by decide) ?h4 ?h5 ?h6 _ rfl ?h7
  case h1=>exact(L.o.ro.alloc _).drew
  case h2=>exact x6 (aN g _)
  case h3=>simp[q4]
  case h4=>unfold maxLen;omega
  case h5=>omega
  case h6=>simp;omega
  intro g2 M0 w8 r0 l _ _;have N:Below g.heap.size g (g.alloc (A #[O r.name.text,Z U m,Z U v] 148)).drew:=((Below.refl _ _).alloc (z7 _) _).drew;have P:=Cd (rt:=⟨r.name.text,m,v⟩) L.o N l r0;have d0:=P.1;have df:=P.2.1;have s0:=Za (P.2.2 (by have:=y.o;omega))
  have t0:J a.heap.size≠(Value.slice va rts.length vc).ownBlock:=fun e=>by have:=(R.o.ro.lt _ e.symm).2;omega
  have Q:∀j,w8.cell? ⟨a.heap.size,j,I⟩=g.cell? ⟨a.heap.size,j,I⟩:=fun j=>(l.cell_far ⟨a.heap.size,j,I⟩ (nL x N.size) t0).trans (N.cell (p:=⟨a.heap.size,j,I⟩) x)
  refine i.out _ _ ⟨(Q 0).trans m0,(Q 1).trans m1,(Q 2).trans m2⟩ (fun d=>?_);go_frame;refine ZY 8 d ?_;go_frame;refine ZY 9 d ?_;go_frame;refine Vy 10 (fun K i=>?_);go_simp;refine i.out _ _ ?_ (fun _=>?_)
  ·have hx:∀o,(⟨B,0,I⟩:Addr)≠⟨a.heap.size,o,I⟩:=fun o e=>by injection e with e1;omega
   exact⟨(cO _ _ _ _ (hx 0)).trans d.1,(cO _ _ _ _ (hx 1)).trans d.2.1,(cO _ _ _ _ (hx 2)).trans d.2.2⟩
  try go_frame
  refine wpAnyH_done (by kernel_rfl) ?_ _;go_wp2
  go_end0
  exact(Ux.ok z.o).2 ⟨rfl,⟨_,s0.o.1⟩,(q0.o.below (by omega)).trans s0.o.2⟩
end Go.Proofs.YtccikgogjfbpeaaGreatDoor
namespace Go.Proofs.YtccikgogjfbpeaaGreatDoor
open Go.RowKit
theorem BX.length {base w r c}(h:BX base w r c):c.length=14:=by
 obtain⟨_,_,_,rfl,_⟩:=h;rfl
theorem Iw {base:Nat}{w:G}:∀{rs:List Ze}{a:List D}{j:Nat}{r:Ze},Tz base w rs a->rs[j]?=J r->∃c,BX base w r c/\∀k,k<14->a[j*14+k]?=c[k]?
 |[],_,j,_,_,hj=>by simp at hj
 |x::rs,a,0,r,⟨c,rest,e,h1,h2⟩,hj=>by
  simp at hj;subst hj;refine⟨c,h1,fun k f=>?_⟩;have g:=h1.length;rw[e,q6,z6,F (by omega)]
 |x::rs,a,j+1,r,⟨c,rest,e,h1,h2⟩,hj=>by
  obtain⟨d,h,f⟩:=Iw (j:=j) h2 (by simpa using hj);refine⟨d,h,fun k b=>?_⟩;have g:=h1.length;rw[e,aR (by omega),g,show(j+1)*14+k-14=j*14+k from by omega];exact f k b
def XI (a:ByteArray):List Ze->Bool
 |[]=>false
 |r::rs=>if(r.name.toList==a.toList)=true then true else XI a rs
theorem Iy (w B W X rts a xs d)(h:Bk w B W X rts a xs):
  x0 T 319 #[y6 (J ⟨B,0,I⟩),O d] w fun e w'=>e=L (H (XI d a))/\F0 w w':=by
 have c1:=h.c1;have a0:=h.l8;by_cases hn:0<a.length
 ·obtain⟨g,cap,rfl,hb,hl⟩:=h.lo.form hn
  have l:∀k,(⟨g,0,I⟩:Addr).add k=⟨g,k,I⟩:=fun k=>by unfold Addr.add;split<;>simp_all
  have HR:M (∀j r,a[j]?=J r->∃n q s t u x y z A,w.rangeAt g (j*14) [O r.name,Z U r.rank,Z U r.digits,Z U r.lo,Z U r.hi,Y n q s,H r.am.isSome,Z U (r.am.getD (0,0)).1,Z U (r.am.getD (0,0)).2,Y t u x,H r.decline,H r.cheapest,Y y z A,Z U r.ahead]):=fun j r Q=>by
   obtain⟨c,⟨vm,vc,vp,rfl,h1,h2,h3⟩,hk⟩:=Iw h.ru Q;obtain⟨n,q,s,rfl⟩:=ZB h1;obtain⟨t,u,x,rfl⟩:=ZB h2;obtain⟨y,z,A,rfl⟩:=ZB h3;refine⟨n,q,s,t,u,x,y,z,A,fun k v E=>?_⟩;have i:k<14:=(iG.1 E).1;have:=h.lo.cells (g:=g) rfl (j*14+k) v (by rw[hk k i];exact E)
   rwa [l]at this
  have f:M ((T.info? 120).map (·.size)=J 14):=by show _=_;kernel_rfl
  go_enter Tryz.func319,Tryz.ntmps319;go_wp2_with fail
  go_loopg [6,12] a.length (fun m _ c wr=>∃j,j<=a.length/\m=a.length-j/\c=Z U j/\M (F0 w wr)/\M (XI d a=XI d (a.drop j)))
  case atStart=>exact⟨0,Nat.zero_le _,rfl,rfl,Zt,rfl⟩
  obtain⟨j,Q,rfl,rfl,F,G⟩:=hrel;by_cases i:j<a.length
  ·obtain⟨r,R⟩:∃r,a[j]?=J r:=⟨_,gE i⟩
   obtain⟨n,q,s,t,u,x,y,z,A,K⟩:=HR.o j r R
   have S:M (wr.rangeAt g (j*14) [O r.name,Z U r.rank,Z U r.digits,Z U r.lo,Z U r.hi,Y n q s,H r.am.isSome,Z U (r.am.getD (0,0)).1,Z U (r.am.getD (0,0)).2,Y t u x,H r.decline,H r.cheapest,Y y z A,Z U r.ahead]):=fun k v E=>by rw[F.o.cell (p:=⟨g,j*14+k,I⟩) hl];exact K k v E
   have N:(j:Int)<(a.length:Int):=by omega
   have b:M (a.drop j=r::a.drop (j+1)):=by
    obtain⟨C,he⟩:=iG.1 R
    show _=_
    rw[dC C,he]
   cases V:(r.name.toList==d.toList)with
   |true=>
    have D:M (XI d a=true):=by show _=_;rw[G.o,b.o];simp only[XI];rw[if_pos V]
    go_wp2_with (first|(refine wpList_load_mid rfl 120 _ rfl g (j*14) rfl _ _ S.o Tryz.underlying120 rfl f.o ?_))
    go_ret;exact⟨by rw[D.o];rfl,F.o.alloc _⟩
   |false=>
    have D:M (XI d a=XI d (a.drop (j+1))):=by show _=_;rw[G.o,b.o];simp only[XI];rw[if_neg (by simp[V])]
    go_wp2_with (first|(refine wpList_load_mid rfl 120 _ rfl g (j*14) rfl _ _ S.o Tryz.underlying120 rfl f.o ?_))
    go_roundg (a.length-(j+1))
    case measure=>omega
    exact⟨j+1,by omega,rfl,by go_num,F.o.alloc _,D⟩
  have N:¬(j:Int)<(a.length:Int):=by omega
  have D:M (XI d a=false):=by show _=_;rw[G.o,dL (by omega)];rfl
  go_wp2;go_ret;exact⟨by rw[D.o];rfl,F.o⟩
 have hz:a=[]:=List.eq_nil_of_length_eq_zero (by omega)
 subst hz;have P:=h.lo;rcases P.2 with⟨rfl,_⟩|⟨g,cap,b0,rfl,_⟩
 all_goals
  go_enter Tryz.func319,Tryz.ntmps319;go_wp2_with fail
  go_loopg [6,12] 1 (fun m _ c wr=>m=1/\c=Z U 0/\wr=w)
  case atStart=>exact⟨rfl,rfl,rfl⟩
  obtain⟨rfl,rfl,rfl⟩:=hrel;go_wp2;go_ret;exact⟨rfl,Zt⟩
end Go.Proofs.YtccikgogjfbpeaaGreatDoor
namespace Go.Proofs.YtccikgogjfbpeaaGreatDoor
open Go.RowKit
def Z8 (rts:List Zf)(b:List Ze)(r:QD):Except (Nat×Nat) Ze:=
 if b.length=8 then .error (6,r.name.line)
 else if XI r.name.text b=true then .error (4,r.name.line)
 else if 1000<Zd r.rank then .error (5,r.rank.line)
 else if 6<r.bin.1.text.size then .error (5,r.bin.1.line)
 else if r.bin.2.text.size≠r.bin.1.text.size then .error (5,r.bin.2.line)
 else if¬Zd r.bin.1<=Zd r.bin.2 then .error (5,r.bin.2.line)
 else match Zp 9999 0 r.mcc with
 | .error f=>.error f
 | .ok c=>if r.amount.any (fun a=>decide (¬Zd a.1<=Zd a.2))=true then .error (5,(r.amount.map (fun a=>a.2.line)).getD 0)
  else match Zp 999 0 r.cur with
  | .error f=>.error f
  | .ok d=>match Zw rts 0 r.act.routes with
   | .error f=>.error f
   | .ok e=>.ok ⟨r.name.text,Zd r.rank,r.bin.1.text.size,Zd r.bin.1,Zd r.bin.2,c,r.amount.map (fun a=>(Zd a.1,Zd a.2)),d,r.act.decline,r.act.cheapest,e,rts.length⟩
theorem Lz:(T.info? 120).map (fun i=>(i.zero,i.size,i.bytes))=J (J (.agg #[O ByteArray.empty,Z U 0,Z U 0,Z U 0,Z U 0,Y I 0 0,H false,Z U 0,Z U 0,Y I 0 0,H false,H false,Y I 0 0,Z U 0]),14,160):=by kernel_rfl
def TA (x:Except (Nat×Nat) Ze)(w:G)(B:Nat)(b:D)(rts:List Zf)(a:List Ze)(d:List D)(e:Ending)(w':G):Prop:=
 match x with
 | .ok r=>e=L (.tuple #[])/\(∃g c,Bk w' B b g rts (a++[r]) (d++c))/\Below B w w'
 | .error f=>e=Zj f.1 f.2/\Below B w w'
theorem TA.ok {x w w' B b rts a d e r}(h:x=.ok r):TA x w B b rts a d e w'↔e=L (.tuple #[])/\(∃f c,Bk w' B b f rts (a++[r]) (d++c))/\Below B w w':=by subst h;exact Iff.rfl
theorem TA.err {x w w' B b rts a c e f}(h:x=.error f):TA x w B b rts a c e w'↔e=Zj f.1 f.2/\Below B w w':=by subst h;exact Iff.rfl
theorem Fl {w i b B u l V rts a r A c}(h:Bk w B u l rts a r)(x:BX (B+1) w A c)(d:Below w.heap.size w i)(f:i.grownBy b l.ownBlock)(D:b.ownsRow (B+1) 120 14 V (a.length+1) (r++c)):
  b.cell? ⟨B,1,I⟩=J l/\(∀o,b.frozen? ⟨B,o,I⟩=false)/\(a.length<=7->Bk (b.setCell ⟨B,1,I⟩ V) B u V rts (a++[A]) (r++c)/\Below B w (b.setCell ⟨B,1,I⟩ V)):=by
 have s:B<w.heap.size:=bL w _ h.c0
 have g:∀j,j<=B->J j≠l.ownBlock:=fun j G e=>by have:=h.lo.lt j e.symm;omega
 have y:∀o,b.cell? ⟨B,o,I⟩=w.cell? ⟨B,o,I⟩:=fun o=>(f.cell_far ⟨B,o,I⟩ (nL s d.size) (g B (z7 _))).trans (d.cell (p:=⟨B,o,I⟩) s)
 have C:∀o,b.frozen? ⟨B,o,I⟩=w.frozen? ⟨B,o,I⟩:=fun o=>(f.frozen_far ⟨B,o,I⟩ (nL s d.size) (g B (z7 _))).trans (d.frozen (p:=⟨B,o,I⟩) s)
 have m:i.ownsRow (B+1) 120 14 l a.length r:=oF h.lo (Fr.of_below (S:=fun _=>False) d);have E:Below B w b:=(d.mono (by omega)).trans ⟨f.os,f.tape,f.output,f.size,fun k z=>f.block k (nL (by omega) d.size) (g k (by omega))⟩
 have z:∀v n t,w.ownsRow (B+1) 3 1 v n t->(b.setCell ⟨B,1,I⟩ V).ownsRow (B+1) 3 1 v n t:=fun v n t F=>by
  have q:i.ownsRow (B+1) 3 1 v n t:=oF F (Fr.of_below (S:=fun _=>False) d);exact oB (q.kept f (WL q m (by decide))) (by simp) _
 refine⟨(y 1).trans h.c1,fun o=>(C o).trans (h.fz o),fun H=>⟨⟨?_,?_,fun o=>by simp[C o,h.fz o],?_,?_,Tz.snoc (x.keep z) (Tz.keep z h.ru),h.r6,by simp;omega⟩,E.setCell (by simp) _⟩⟩
 ·rw[cO _ _ _ _ (by simp)];exact(y 0).trans h.c0
 ·exact cS _ _ _ ((y 1).trans h.c1)
 ·have q:i.ownsRow (B+1) 148 3 u rts.length (Yi rts):=oF h.ro (Fr.of_below (S:=fun _=>False) d)
  exact oB (q.kept f (WL q m (by decide))) (by simp) _
 rw[lA];exact oB D (by simp) _
structure SF (w wc:G)(N:Nat)(es cs:Array D)(rs:List (D×List Nat)):Prop where
 fr:F0 w wc
 he:wc.heap[w.heap.size]?=J (A es 295)
 hn:wc.heap[N]?=J (A cs 120)
 nl:w.heap.size<N
 ro:∀x,x∈rs->wc.ownsRow (N+1) 3 1 x.1 x.2.length (Zg x.2)
section
variable {w wc wd:G} {N:Nat} {es cs:Array D} {rs:List (D×List Nat)}
theorem SF.lt (h:SF w wc N es cs rs):N<wc.heap.size:=(iA.1 h.hn).1
theorem SF.step (h:SF w wc N es cs rs)(a:F0 wc wd):SF w wd N es cs rs:=⟨h.fr.trans a,a.whole h.he,a.whole h.hn,h.nl,fun x b=>oF (h.ro x b) a⟩
theorem SF.write (h:SF w wc N es cs rs)(j u):SF w (wc.setCell ⟨N,j,I⟩ u) N es (cs.setIfInBounds j u) rs:=
 have a:Fr (fun k=>k=N) wc (wc.setCell ⟨N,j,I⟩ u):=(Fr.refl (fun k=>k=N) _).setCell (p:=⟨N,j,I⟩) (x5 rfl) _;have c:=h.nl
 ⟨h.fr.monoNew a (fun k d=>y8 (by omega)),a.whole h.he (by omega),Ym h.hn j u,h.nl,fun x b=>oB (h.ro x b) (by simp) u⟩
theorem SF.row {v l}(h:SF w wc N es cs rs)(c:F0 wc wd)(d:wd.ownsRow wc.heap.size 3 1 v l.length (Zg l)):SF w wd N es cs ((v,l)::rs):=
 have a:=h.step c
 ⟨a.fr,a.he,a.hn,a.nl,fun x b=>by
  rcases List.mem_cons.1 b with rfl|b
  ·exact oS d h.lt
  exact a.ro x b⟩
end
theorem ZZ {w:G}{P v0 v1 v2 v3 e f g i j k a b c d t}(h:w.heap[P]?=J (A #[v0,v1,v2,v3,e,f,g,i,j,k,a,b,c,d] t)):w.cell? ⟨P,0,I⟩=J v0/\w.cell? ⟨P,1,I⟩=J v1/\w.cell? ⟨P,2,I⟩=J v2/\w.cell? ⟨P,3,I⟩=J v3/\w.cell? ⟨P,4,I⟩=J e/\w.cell? ⟨P,5,I⟩=J f/\w.cell? ⟨P,6,I⟩=J g/\w.cell? ⟨P,7,I⟩=J i/\w.cell? ⟨P,8,I⟩=J j/\w.cell? ⟨P,9,I⟩=J k/\w.cell? ⟨P,10,I⟩=J a/\w.cell? ⟨P,11,I⟩=J b/\w.cell? ⟨P,12,I⟩=J c/\w.cell? ⟨P,13,I⟩=J d:=⟨Zc h 0,Zc h 1,Zc h 2,Zc h 3,Zc h 4,Zc h 5,Zc h 6,Zc h 7,Zc h 8,Zc h 9,Zc h 10,Zc h 11,Zc h 12,Zc h 13⟩
theorem wS {α c}[d c]{a b x:α}(h:M ((if c then a else b)=x))(f:¬c):M (b=x):=by have e:=h.o;rw[if_neg f]at e;exact e
theorem wT {α c}[d c]{a b x:α}(h:M ((if c then a else b)=x))(f:c):M (a=x):=by have e:=h.o;rw[if_pos f]at e;exact e
theorem cf {P f a w E}{R:G->Prop}{Q}(h:x0 P f a w fun e w'=>e=E/\R w')(k:∀w',R w'->Q E w'):x0 P f a w Q:=
 h.mono (by rintro e w' ⟨rfl,b⟩;exact k w' b)
theorem TB {X w wc w' B b rts a c f}(d:M (.error f=X))(h:B<w.heap.size)(e:F0 w wc)(g:F0 wc w'):TA X w B b rts a c (Zj f.1 f.2) w':=
 (TA.err d.o.symm).2 ⟨rfl,(e.trans g).below (by omega)⟩
def Am (r:QD):Tk×Tk:=r.amount.getD (⟨0,⟨#[]⟩,0⟩,⟨0,⟨#[]⟩,0⟩)
def PD (r:QD)(a:Bool)(b c:Tk)(d e f:D):Array D:=#[Z U r.name.sort,O r.name.text,Z U r.name.line,Z U r.rank.sort,O r.rank.text,Z U r.rank.line,Z U r.bin.1.sort,O r.bin.1.text,Z U r.bin.1.line,Z U r.bin.2.sort,O r.bin.2.text,Z U r.bin.2.line,d,e,H a,Z U b.sort,O b.text,Z U b.line,Z U c.sort,O c.text,Z U c.line,H r.act.decline,H r.act.cheapest,f]
def TN (b:ByteArray)(rk dg lo hi:Int)(c:D)(a:Bool)(d e:Int)(f:D)(g h:Bool)(i:D)(n:Int):Array D:=#[O b,Z U rk,Z U dg,Z U lo,Z U hi,c,H a,Z U d,Z U e,f,H g,H h,i,Z U n]
theorem An (r a b c):Oa r a b c=.agg (PD r r.amount.isSome (Am r).1 (Am r).2 a b c):=by
 unfold Oa Am PD
 cases r.amount<;>rfl
theorem Iz (w B b0 vr vl rts l xs r vm vc vp)(h:Bk w B vr vl rts l xs)(a:r.name.text.size<=3000)(dr:Dg r.rank.text)(d1:Dg r.bin.1.text)(d2:Dg r.bin.2.text)(dm:∀t,t∈r.mcc->Dg t.text)(dc:∀t,t∈r.cur->Dg t.text)(da:∀n,r.amount=J n->Dg n.1.text/\Dg n.2.text)(hm:w.ownsRow b0 263 3 vm r.mcc.length (Ys r.mcc))(hc:w.ownsRow b0 263 3 vc r.cur.length (Ys r.cur))(hp:w.ownsRow b0 263 3 vp r.act.routes.length (Ys r.act.routes))(fm:r.mcc.length<=4000)(fc:r.cur.length<=4000)(fp:r.act.routes.length<=4000):
  x0 T 318 #[Oa r vm vc vp,y6 (J ⟨B,0,I⟩)] w (TA (Z8 rts l r) w B vr rts l xs):=by
 obtain⟨m1,m2,m3,rfl⟩:=ZB hm;obtain⟨c1,c2,c3,rfl⟩:=ZB hc;obtain⟨p1,p2,p3,rfl⟩:=ZB hp;obtain⟨la,lc,rfl⟩:=oL h.lo;obtain⟨ra,rc,rfl⟩:=oL h.ro;obtain⟨ii,z0,A0,B0,C0⟩:=info_parts Lz;obtain⟨X,hX⟩:∃X,Z8 rts l r=X:=⟨_,rfl⟩;rw[hX,An];unfold Z8 at hX;have c:=Za hX
 have p0:M (r.amount=if r.amount.isSome=true then J ((Am r).1,(Am r).2)else I):=by show _=_;unfold Am;cases r.amount<;>rfl
 have D0:M (r.amount.isSome=true->Dg (Am r).1.text/\Dg (Am r).2.text):=fun e=>by
  unfold Am
  cases q:r.amount with
  |none=>rw[q]at e;cases e
  |some n=>exact da n q
 generalize(Am r).1=aa at*;generalize(Am r).2=n at*;generalize O0:r.amount.isSome=m at*;have HK:=Za h;have s:B<w.heap.size:=bL w _ h.c0;have HD:=Za (y4 a (y4 dr (y4 d1 (y4 d2 (y4 dm dc)))));have HR:=Za (y4 hm (y4 hc hp));have g0:M (r.mcc.length<=4000/\r.cur.length<=4000/\r.act.routes.length<=4000):=⟨fm,fc,fp⟩;have E0:=h.c1;have h0:=(VA w (A (PD r m aa n (Y m1 m2 m3) (Y c1 c2 c3) (Y p1 p2 p3)) 295)).1;have a0:=Za (aN w (A (PD r m aa n (Y m1 m2 m3) (Y c1 c2 c3) (Y p1 p2 p3)) 295));have e0:=Zc a0.o 0;have e1:=Zc a0.o 1;have e2:=Zc a0.o 2;go_enter Tryz.func318,Tryz.ntmps318;by_cases h8:l.length=8
 ·have hq:((l.length:Int)==8)=true:=by simp;omega
  have c:=wT c h8;go_wp2_with fail;refine cf (YE r.name 6 _ _ (by rfl)) ?_
  exact fun w9 d=>show _/\_ from⟨rfl,TB c s h0.o d⟩
 have c:=wS c h8;have H8:=Za h8
 have hq:((l.length:Int)==8)=false:=by simp;omega
 go_wp2_with fail
 refine cf (Iy _ B _ _ rts l xs r.name.text (HK.o.fr h0.o)) fun j d=>?_
 have G:=Za (d.whole a0.o);have q0:=Za (h0.o.trans d);have F0:w.heap.size<j.heap.size:=(iA.1 G.o).1;have e0:=Zc G.o 0;have e1:=Zc G.o 1;have e2:=Zc G.o 2
 cases hh:XI r.name.text l with
 |true=>
  have c:=wT c hh;go_wp2_with fail;refine cf (YE r.name 4 _ _ (by rfl)) ?_
  exact fun w9 d=>show _/\_ from⟨rfl,TB c s q0.o d⟩
 |false=>
  have c:=wS c (by rw[hh];simp)
  have Q0:¬w.heap.size=j.heap.size:=by omega
  have R0:¬j.heap.size=w.heap.size:=by omega
  go_wp2_with fail
  refine cf (VD r.name.text _ HD.o.1) fun w2 d=>?_
  have S2:M (SF w w2 j.heap.size _ (TN ⟨#[]⟩ 0 0 0 0 (Y I 0 0) false 0 0 (Y I 0 0) false false (Y I 0 0) 0) []):=⟨(q0.o.alloc _).trans d,d.whole (((Fr.refl (fun _=>False) _).alloc _).whole G.o),d.whole (aN j _),F0,by simp⟩;have b:=S2.o.he;unfold PD at b;have a:=S2.o.hn;unfold TN at a;have n0:=Zc a 0;have nf:=bF a;have e3:=Zc b 3;have e4:=Zc b 4;have e5:=Zc b 5;go_wp2_with fail;have S3:=Za (S2.o.write 0 (O r.name.text));generalize w2.setCell ⟨j.heap.size,0,I⟩ (O r.name.text)=w3 at*;by_cases y:1000<Zd r.rank
  ·refine cf (QH r.rank _ 1000 _ HD.o.2.1 y (by rfl)) ?_
   exact fun w9 d=>show _/\_ from⟨rfl,TB (wT c y) s S3.o.fr d⟩
  have c:=wS c y
  refine cf (Rn r.rank _ 1000 _ HD.o.2.1 (by omega) (by rfl)) fun w4 d=>?_
  have S4:=Za (S3.o.step d);generalize Zd r.rank=rk at*;have b:=S4.o.he;unfold PD at b;have a:=S4.o.hn;unfold TN at a;have n1:=Zc a 1;have nf:=bF a;have e6:=Zc b 6;have e7:=Zc b 7;have e8:=Zc b 8;have e9:=Zc b 9;have G0:=Zc b 10;have H0:=Zc b 11;go_wp2_with fail;have S5:M (SF w _ j.heap.size _ (TN r.name.text rk 0 0 0 (Y I 0 0) false 0 0 (Y I 0 0) false false (Y I 0 0) 0) _):=S4.o.write 1 (Z U rk);generalize w4.setCell ⟨j.heap.size,1,I⟩ (Z U rk)=w5 at*;by_cases y:6<r.bin.1.text.size
  ·refine cf (Ir r.bin.1 r.bin.2 _ y) ?_
   exact fun w9 d=>show _/\_ from⟨rfl,TB (wT c y) s S5.o.fr d⟩
  have c:=wS c y;by_cases d0:r.bin.2.text.size=r.bin.1.text.size
  rotate_left
  ·refine cf (Jh r.bin.1 r.bin.2 _ (by omega) d0) ?_
   exact fun w9 d=>show _/\_ from⟨rfl,TB (wT c d0) s S5.o.fr d⟩
  have c:=wS c (fun e=>e d0)
  refine cf (Cc r.bin.1 r.bin.2 _ (by omega) d0) fun w6 d=>?_
  have S6:=Za (S5.o.step d);have b:=S6.o.he;unfold PD at b;have a:=S6.o.hn;unfold TN at a;have n2:=Zc a 2;have nf:=bF a;have e6:=Zc b 6;have e7:=Zc b 7;have e8:=Zc b 8;have e9:=Zc b 9;have G0:=Zc b 10;have H0:=Zc b 11;go_wp2_with fail;have S7:=Za (S6.o.write 2 (Z U r.bin.1.text.size));generalize w6.setCell ⟨j.heap.size,2,I⟩ (Z U r.bin.1.text.size)=w7 at*;refine(Is r.bin.1 r.bin.2 _ HD.o.2.2.1 HD.o.2.2.2.1).mono ?_;rintro e w8 ⟨hs,d⟩;by_cases y:Zd r.bin.1<=Zd r.bin.2
  rotate_left
  ·obtain rfl:=(VP.bad y).1 hs
   exact show _/\_ from⟨rfl,TB (wT c y) s S7.o.fr d⟩
  obtain rfl:=(VP.ok y).1 hs;have c:=wS c (fun e=>e y);have S8:=Za (S7.o.step d);generalize Zd r.bin.1=lo at*;generalize Zd r.bin.2=hi at*;simp only[QN];have b:=S8.o.he;unfold PD at b;have a:=S8.o.hn;unfold TN at a;have n3:=Zc a 3;have n4:=Zc a 4;have nf:=bF a;have S0:=Zc b 12;go_wp2_with fail;have S9:M (SF w _ j.heap.size _ (TN r.name.text rk r.bin.1.text.size lo hi (Y I 0 0) false 0 0 (Y I 0 0) false false (Y I 0 0) 0) _):=(S8.o.write 3 (Z U lo)).write 4 (Z U hi);generalize(w8.setCell ⟨j.heap.size,3,I⟩ (Z U lo)).setCell ⟨j.heap.size,4,I⟩ (Z U hi)=T0 at*;refine(Oe _ b0 _ r.mcc 9999 _ (oF HR.o.1 S9.o.fr) HD.o.2.2.2.2.1 g0.o.1 (by rfl)).mono ?_;intro e I0 hT
  cases E:Zp 9999 0 r.mcc with
  |error f=>
   obtain⟨rfl,d⟩:=(Wx.err E).1 hT;rw[E]at c
   exact show _/\_ from⟨rfl,TB c s S9.o.fr d⟩
  |ok z1=>
   obtain⟨⟨v,rfl,i⟩,d⟩:=(Wx.ok E).1 hT;obtain⟨Q,R,V,rfl⟩:=ZB i;rw[E]at c
   dsimp only at c
   have i0:=Za (S9.o.row d i);have b:=i0.o.he;unfold PD at b;have a:=i0.o.hn;unfold TN at a;have n5:=Zc a 5;have nf:=bF a;have V0:=Zc b 14
   go_upto_if 44 with fail
   have u:=Za (i0.o.write 5 (Y Q R V));generalize I0.setCell ⟨j.heap.size,5,I⟩ (Y Q R V)=J0 at*;obtain⟨am,K0⟩:∃am,r.amount.map (fun n=>(Zd n.1,Zd n.2))=am:=⟨_,rfl⟩;have HM:=Za K0
   go_cut [] (fun wx=>M (am.isSome=m)/\M (¬r.amount.any (fun n=>decide (¬Zd n.1<=Zd n.2))=true)/\M (SF w wx j.heap.size (PD r m aa n (Y m1 m2 m3) (Y c1 c2 c3) (Y p1 p2 p3)) (TN r.name.text rk r.bin.1.text.size lo hi (Y Q R V) m (am.getD (0,0)).1 (am.getD (0,0)).2 (Y I 0 0) false false (Y I 0 0) 0) [(Y Q R V,z1)]))
   case first=>
    cases m with
    |false=>
     have e:r.amount=I:=p0.o
     have e2:am=I:=by have:=HM.o;rw[e]at this;exact this.symm
     go_wp2_with fail;go_meet;subst e2;exact⟨rfl,by show¬_;rw[e];simp,u⟩
    |true=>
     have e:=p0.o
     have e2:am=J (Zd aa,Zd n):=by have:=HM.o;rw[e]at this;exact this.symm
     have HE:=Za e;have r0:=Za e2;have s0:=Za (D0.o rfl);have b:=u.o.he;unfold PD at b;have a:=u.o.hn;unfold TN at a;have n6:=Zc a 6;have nf:=bF a;have W0:=Zc b 15;have X0:=Zc b 16;have Y0:=Zc b 17;have Z0:=Zc b 18;have a1:=Zc b 19;have b1:=Zc b 20;go_wp2_with fail;have F:M (SF w _ j.heap.size _ (TN r.name.text rk r.bin.1.text.size lo hi (Y Q R V) true 0 0 (Y I 0 0) false false (Y I 0 0) 0) _):=u.o.write 6 (H true);generalize J0.setCell ⟨j.heap.size,6,I⟩ (H true)=t0 at*;refine(Ji aa n _ _ s0.o.1 s0.o.2 (by rfl)).mono ?_;rintro e L0 ⟨hs,d⟩;by_cases y:Zd aa<=Zd n
     rotate_left
     ·obtain rfl:=(VP.bad y).1 hs
      rw[HE.o]at c
      exact show _/\_ from⟨rfl,TB (wT c (by simpa using y)) s F.o.fr d⟩
     obtain rfl:=(VP.ok y).1 hs;have z:=Za (F.o.step d)
     have j0:M (¬r.amount.any (fun n=>decide (¬Zd n.1<=Zd n.2))=true):=by show¬_;rw[HE.o];simpa using y
     simp only[QN];have a:=z.o.hn;unfold TN at a;have n7:=Zc a 7;have n8:=Zc a 8;have nf:=bF a;go_wp2_with fail;go_meet;refine⟨?_,j0,?_⟩
     ·show _=_
      rw[r0.o];rfl
     show SF _ _ _ _ _ _
     rw[r0.o];exact(z.o.write 7 (Z U (Zd aa))).write 8 (Z U (Zd n))
   obtain⟨HS,j0,u⟩:=hcut;have c:=wS c j0.o;obtain⟨al,ah,hA⟩:∃al ah,am.getD (0,0)=(al,ah):=⟨_,_,rfl⟩;rw[hA]at u;have HA:=Za hA;have b:=u.o.he;unfold PD at b;have f1:=Zc b 13;go_wp2_with fail;refine(Oe _ b0 _ r.cur 999 _ (oF HR.o.2.1 u.o.fr) HD.o.2.2.2.2.2 g0.o.2.1 (by rfl)).mono ?_;intro e t0 hT
   cases E:Zp 999 0 r.cur with
   |error f=>
    obtain⟨rfl,d⟩:=(Wx.err E).1 hT;rw[E]at c
    exact show _/\_ from⟨rfl,TB c s u.o.fr d⟩
   |ok f0=>
    obtain⟨⟨v,rfl,i⟩,d⟩:=(Wx.ok E).1 hT;obtain⟨s1,s2,s3,rfl⟩:=ZB i;rw[E]at c
    dsimp only at c
    have F:=Za (u.o.row d i);have b:=F.o.he;unfold PD at b;have a:=F.o.hn;unfold TN at a;have n9:=Zc a 9;have g1:=Zc a 10;have i1:=Zc a 11;have nf:=bF a;have j1:=Zc b 21;have k1:=Zc b 22;have l1:=Zc b 23;go_wp2_with fail;have z:=Za (((F.o.write 9 (Y s1 s2 s3)).write 10 (H r.act.decline)).write 11 (H r.act.cheapest));generalize((t0.setCell ⟨j.heap.size,9,I⟩ (Y s1 s2 s3)).setCell ⟨j.heap.size,10,I⟩ (H r.act.decline)).setCell ⟨j.heap.size,11,I⟩ (H r.act.cheapest)=L0 at*;refine(Fj _ B b0 (B+1) _ _ r.act.routes rts (HK.o.fr z.o.fr).c0 (HK.o.fr z.o.fr).ro HK.o.r6 (oF HR.o.2.2 z.o.fr) g0.o.2.2).mono ?_;intro e M0 hT
    cases E:Zw rts 0 r.act.routes with
    |error f=>
     obtain⟨rfl,d⟩:=(Wx.err E).1 hT;rw[E]at c
     exact show _/\_ from⟨rfl,TB c s z.o.fr d⟩
    |ok ps=>
     obtain⟨⟨v,rfl,i⟩,d⟩:=(Wx.ok E).1 hT;obtain⟨t1,t2,t3,rfl⟩:=ZB i;rw[E,HM.o]at c
     dsimp only at c
     have k0:=Za (z.o.row d i);have c0:=(HK.o.fr k0.o.fr).c0;have a:=k0.o.hn;unfold TN at a;have o1:=Zc a 12;have r1:=Zc a 13;have nf:=bF a;go_wp2_with fail;have C:M (SF w _ j.heap.size _ (TN r.name.text rk r.bin.1.text.size lo hi (Y Q R V) m al ah (Y s1 s2 s3) r.act.decline r.act.cheapest (Y t1 t2 t3) rts.length) _):=(k0.o.write 12 (Y t1 t2 t3)).write 13 (Z U rts.length);generalize(M0.setCell ⟨j.heap.size,12,I⟩ (Y t1 t2 t3)).setCell ⟨j.heap.size,13,I⟩ (Z U rts.length)=x at*;have l0:=Za (HK.o.fr C.o.fr);have N0:M (BX (B+1) x ⟨r.name.text,rk,r.bin.1.text.size,lo,hi,z1,am,f0,r.act.decline,r.act.cheapest,ps,rts.length⟩ (TN r.name.text rk r.bin.1.text.size lo hi (Y Q R V) m al ah (Y s1 s2 s3) r.act.decline r.act.cheapest (Y t1 t2 t3) rts.length).toList):=⟨_,_,_,by rw[HS.o,HA.o];rfl,oS (C.o.ro (_,z1) (by simp)) (by omega),oS (C.o.ro (_,f0) (by simp)) (by omega),oS (C.o.ro (_,ps) (by simp)) (by omega)⟩;have c1:=l0.o.c1;have v1:=HK.o.l8;have x1:=bL x _ c1;have v0:j.heap.size<x.heap.size:=C.o.lt;refine wp_region_held_drew (S:=fun w'=>w'.heap[j.heap.size]?=J (A (TN r.name.text rk r.bin.1.text.size lo hi (Y Q R V) m al ah (Y s1 s2 s3) r.act.decline r.act.cheapest (Y t1 t2 t3) rts.length) 120)) (by kernel_rfl) C.o.hn (fun D=>?_);refine ZY 0 D ?_;go_frame;refine ZY 1 D ?_;go_frame;refine ZY 2 D ?_;go_frame;refine ZY 3 D ?_;go_frame;refine US 5 (v:=?v5) ?y5 D ?r5
     case y5=>
      intro w hw;have g:=ZZ hw;go_simp
      with_reducible rfl
     go_frame;refine XC [4,6] ?_;refine Zb rfl (fun K N=>?p1) (Zb rfl (fun K N=>?p2) y7)
     case' p1=>
      rw[if_pos (by rfl)];go_simp;refine N.out _ _ D (fun _=>?_)
      try go_frame
      refine Vy 6 (fun K N=>?_);go_simp;refine N.out _ _ (((Fr.refl (fun _=>False) _).alloc _).whole D) (fun D=>?_)
     case' p2=>
      rw[if_pos (by rfl)];go_simp;refine N.out _ _ (((Fr.refl (fun _=>False) _).alloc _).whole D) (fun D=>?_)
      try go_frame
      refine Vy 4 (fun K N=>?_)
      have E0:=fun o=>(W x ⟨B,1,I⟩ o (by simp[c1])).trans c1
      go_simp;refine N.out _ _ D (fun _=>?_)
     all_goals
      try go_frame
      refine XC [7] ?_;refine Zb rfl (fun K N=>?_) y7;refine step_append_lies _ rfl (.tmp 75) (.tmp 77) 87 rfl (B+1) 120 ii _ 14 160 Tryz.underlying87 z0 A0 B0 C0 rfl (by decide) (Y la l.length lc) l.length xs rfl ?h1 ⟨x.heap.size,0,I⟩ 1 1 (TN r.name.text rk r.bin.1.text.size lo hi (Y Q R V) m al ah (Y s1 s2 s3) r.act.decline r.act.cheapest (Y t1 t2 t3) rts.length).toList rfl rfl ?h2 ?h3 (by decide) ?h4 ?h5 ?h6 _ rfl ?h7
      case h1=>exact(l0.o.lo.alloc _).drew
      case h2=>exact x6 (aN x _)
      case h3=>unfold TN;simp[q4]
      case h4=>unfold maxLen;omega
      case h5=>omega
      case h6=>simp;omega
      intro g2 P0 y1 i P _ _;have m0:Below x.heap.size x (x.alloc (A (TN r.name.text rk r.bin.1.text.size lo hi (Y Q R V) m al ah (Y s1 s2 s3) r.act.decline r.act.cheapest (Y t1 t2 t3) rts.length) 120)).drew:=((Below.refl _ _).alloc (z7 _) _).drew;have o0:=Fl l0.o N0.o m0 P i;have d1:=o0.1;have df:=o0.2.1;have w0:=Za (o0.2.2 (by have:=H8.o;omega));have y0:=(P.block _ (nL v0 m0.size) (fun e=>by have:=(HK.o.lo.lt _ e.symm).2;omega)).trans ((m0.block _ v0).trans C.o.hn);refine N.out _ _ y0 (fun D=>?_);go_frame;refine ZY 8 D ?_;go_frame;refine ZY 9 D ?_;go_frame;refine Vy 10 (fun K N=>?_);go_simp;refine N.out _ _ (((Fr.refl (fun k=>k=B) _).setCell (p:=⟨B,1,I⟩) (x5 rfl) _).whole D (by omega)) (fun _=>?_)
      try go_frame
      refine wpAnyH_done (by kernel_rfl) ?_ _;go_wp2
      go_end0
      exact(TA.ok c.o.symm).2 ⟨rfl,⟨_,_,w0.o.1⟩,(C.o.fr.below (by omega)).trans w0.o.2⟩
end Go.Proofs.YtccikgogjfbpeaaGreatDoor
namespace Go.Proofs.YtccikgogjfbpeaaGreatDoor
open Go.RowKit
def VE:Vu->Prop
 | .route r=>r.name.text.size<=3000/\Dg r.base.text/\Dg r.rate.text
 | .rule r=>r.name.text.size<=3000/\Dg r.rank.text/\Dg r.bin.1.text/\Dg r.bin.2.text/\(∀t,t∈r.mcc->Dg t.text)/\(∀t,t∈r.cur->Dg t.text)/\(∀a,r.amount=J a->Dg a.1.text/\Dg a.2.text)/\r.mcc.length<=4000/\r.cur.length<=4000/\r.act.routes.length<=4000
def Vv (rts:List Zf)(a:List Ze):Vu->Except (Nat×Nat) (List Zf×List Ze)
 | .route r=>match ZE rts r with
  | .error f=>.error f
  | .ok t=>.ok (rts++[t],a)
 | .rule r=>match Z8 rts a r with
  | .error f=>.error f
  | .ok t=>.ok (rts,a++[t])
def ZS (rts:List Zf)(a:List Ze):List Vu->Except (Nat×Nat) (List Zf×List Ze)
 |[]=>.ok (rts,a)
 |x::xs=>match Vv rts a x with
  | .error f=>.error f
  | .ok p=>ZS p.1 p.2 xs
theorem YQ {rts a x b f}(h:Vv rts a x=.error f):ZS rts a (x::b)=.error f:=by simp only[ZS,h]
theorem Xn {rts a x b p}(h:Vv rts a x=.ok p):ZS rts a (x::b)=ZS p.1 p.2 b:=by simp only[ZS,h]
def VQ (x:Except (Nat×Nat) (List Zf×List Ze))(w:G)(B:Nat)(e:Ending)(w':G):Prop:=
 match x with
 | .ok p=>e=L (.tuple #[])/\(∃a b c,Bk w' B a b p.1 p.2 c)/\Below B w w'
 | .error f=>e=Zj f.1 f.2/\Below B w w'
theorem VQ.ok {x w w' B e p}(h:x=.ok p):VQ x w B e w'↔e=L (.tuple #[])/\(∃a b c,Bk w' B a b p.1 p.2 c)/\Below B w w':=by subst h;exact Iff.rfl
theorem VQ.err {x w w' B e f}(h:x=.error f):VQ x w B e w'↔e=Zj f.1 f.2/\Below B w w':=by subst h;exact Iff.rfl
theorem yJ (w B d g rts a i r)(h:Bk w B d g rts a i)(c:VE (.route r)):
  x0 T 314 #[UW r,y6 (J ⟨B,0,I⟩)] w (VQ (Vv rts a (.route r)) w B):=by
 refine(Jn w B d g rts a i r h c.1 c.2.1 c.2.2).mono ?_;intro e w' j
 cases b:ZE rts r with
 |error f=>exact(VQ.err (by simp only[Vv,b])).2 ((Ux.err b).1 j)
 |ok t=>
  obtain⟨k,⟨l,m⟩,n⟩:=(Ux.ok b).1 j;exact(VQ.ok (p:=(rts++[t],a)) (by simp only[Vv,b])).2 ⟨k,⟨_,_,_,m⟩,n⟩
theorem yK (w B d m n rts a o r i j k)(h:Bk w B m n rts a o)(s:VE (.rule r))(u:w.ownsRow d 263 3 i r.mcc.length (Ys r.mcc))(v:w.ownsRow d 263 3 j r.cur.length (Ys r.cur))(x:w.ownsRow d 263 3 k r.act.routes.length (Ys r.act.routes)):
  x0 T 318 #[Oa r i j k,y6 (J ⟨B,0,I⟩)] w (VQ (Vv rts a (.rule r)) w B):=by
 obtain⟨y,z,A,C,D,E,F,G,H,l⟩:=s;have b:=Iz w B d m n rts a o r i j k h y z A C D E F u v x G H l;refine b.mono ?_;intro e w' q
 cases g:Z8 rts a r with
 |error f=>exact(VQ.err (by simp only[Vv,g])).2 ((TA.err g).1 q)
 |ok t=>
  obtain⟨K,⟨L,c,M⟩,N⟩:=(TA.ok g).1 q;exact(VQ.ok (p:=(rts,a++[t])) (by simp only[Vv,g])).2 ⟨K,⟨_,_,_,M⟩,N⟩
def SS (x:Except (Nat×Nat) (List Zf×List Ze))(w:G)(e:Ending)(w':G):Prop:=
 match x with
 | .ok p=>e=L (y6 (J ⟨w.heap.size,0,I⟩))/\(∃a b c,Bk w' w.heap.size a b p.1 p.2 c)/\Below w.heap.size w w'
 | .error f=>e=Zj f.1 f.2/\Below w.heap.size w w'
theorem SS.ok {x w w' e p}(h:x=.ok p):SS x w e w'↔e=L (y6 (J ⟨w.heap.size,0,I⟩))/\(∃a b c,Bk w' w.heap.size a b p.1 p.2 c)/\Below w.heap.size w w':=by subst h;exact Iff.rfl
theorem SS.err {x w w' e f}(h:x=.error f):SS x w e w'↔e=Zj f.1 f.2/\Below w.heap.size w w':=by subst h;exact Iff.rfl
theorem wU (w:G):Bk (w.alloc (A #[Y I 0 0,Y I 0 0] 89)) w.heap.size (Y I 0 0) (Y I 0 0) [] [] []:=by
 have a:=aN w (A #[Y I 0 0,Y I 0 0] 89);exact⟨Zc a 0,Zc a 1,bF a,oZ _ _ _ _,oZ _ _ _ _,rfl,by simp,by simp⟩
theorem L6 {base:Nat}{w:G}:∀{a:List Vu}{b:List D}{j:Nat}{x:Vu},YV base w a b->a[j]?=J x->∃v,b[j]?=J v/\QG base w x v
 |[],_,j,_,_,hj=>by simp at hj
 |y::a,[],j,_,h,_=>by cases h
 |y::a,v::b,0,x,h,hj=>by
  simp at hj;subst hj;exact⟨v,rfl,h.1⟩
 |y::a,v::b,j+1,x,h,hj=>by
  obtain⟨u,c,d⟩:=L6 (j:=j) h.2 (by simpa using hj);exact⟨u,by simpa using c,d⟩
end Go.Proofs.YtccikgogjfbpeaaGreatDoor
namespace Go.Proofs.YtccikgogjfbpeaaGreatDoor
abbrev Fa:=Option (Nat×Nat)
def ZX (f:Fa)(a:Bool)(k b:Nat):Fa:=
 match f with
 |some x=>J x
 |none=>if a then J (k,b)else I
theorem ZM (x b k l):ZX (J x) b k l=J x:=rfl
theorem Yx (k l):ZX I true k l=J (k,l):=rfl
theorem Ya (k l):ZX I false k l=I:=rfl
def Yn (b:ByteArray)(a:Nat)(f:Fa):List ByteArray->Fa
 |[]=>f
 |x::xs=>Yn b a (ZX f (x.toList==b.toList) 4 a) xs
theorem Vi (b a x l):Yn b a (J x) l=J x:=by
 induction l with
 |nil=>rfl
 |cons y d c=>exact c
theorem RL (b a l):Yn b a I l=if l.any (fun x=>x.toList==b.toList)then J (4,a)else I:=by
 induction l with
 |nil=>rfl
 |cons y d f=>
  show Yn b a (ZX I (y.toList==b.toList) 4 a) d=_
  by_cases c:(y.toList==b.toList)=true
  ·rw[if_pos (by rw[z8,c];rfl),c,Yx,Vi]
  rw[Bool.not_eq_true]at c
  have e:(y::d).any (fun x=>x.toList==b.toList)=d.any (fun x=>x.toList==b.toList):=by rw[z8,c];rfl
  simp only[e];rw[c,Ya,f]
def Ye (a:Nat)(k:Nat)(f:Fa):List Tk->Fa
 |[]=>f
 |t::r=>Ye a (k+1) (ZX (ZX f (decide (4<k)) 6 t.line) (decide (a<Zd t)) 5 t.line) r
theorem ZQ (a k x l):Ye a k (J x) l=J x:=by
 induction l generalizing k with
 |nil=>rfl
 |cons y c b=>exact b (k+1)
def Jo {α:Type}:Except (Nat×Nat) α->Fa
 | .error f=>J f
 | .ok _=>I
theorem WO (a:Nat):∀(l:List Tk)(i:Nat),i<=4->Ye a (i+1) I l=Jo (Zp a i l)/\∀ns,Zp a i l=.ok ns->ns=l.map Zd
 |[],i,_=>⟨rfl,fun ns h=>by simp[Zp]at h;simp[h]⟩
 |t::r,i,hi=>by
  by_cases d:i=4
  ·subst d
   refine⟨?_,fun ns h=>by simp[Zp]at h⟩;simp only[Ye,Zp];rw[show decide (4<4+1)=true from rfl,Yx,ZM,ZQ];rfl
  have g:decide (4<i+1)=false:=by simp;omega
  by_cases c:a<Zd t
  ·have b:decide (a<Zd t)=true:=by simpa using c
   refine⟨?_,fun ns h=>by simp[Zp,d,c]at h⟩;simp only[Ye,Zp];rw[g,Ya,b,Yx,ZQ,if_neg d,if_pos c];rfl
  have b:decide (a<Zd t)=false:=by simpa using c
  obtain⟨j,k⟩:=WO a r (i+1) (by omega);refine⟨?_,fun ns h=>?_⟩
  ·simp only[Ye,Zp]
   rw[g,Ya,b,Ya,j,if_neg d,if_neg c]
   cases Zp a (i+1) r<;>rfl
  simp only[Zp]at h
  rw[if_neg d,if_neg c]at h
  cases e:Zp a (i+1) r with
  |error f=>rw[e]at h;cases h
  |ok m=>
   rw[e]at h;injection h with h;rw[<-h,C,k m e]
def Zz (b:ByteArray)(a:Int)(i:Nat):List Zf->Int
 |[]=>a
 |x::xs=>Zz b (if(x.name.toList==b.toList)=true then(i:Int)else a) (i+1) xs
def YW:List ByteArray->Prop
 |[]=>True
 |x::xs=>(∀y,y∈xs->(y.toList==x.toList)=false)/\YW xs
theorem NA (b a l):∀i,(∀y,y∈l.map Zf.name->(y.toList==b.toList)=false)->Zz b a i l=a:=by
 induction l with
 |nil=>intro i _;rfl
 |cons x e d=>
  intro i h;simp only[Zz];rw[if_neg (by have:=h x.name (by simp);rw[this];decide)];exact d (i+1) (fun y c=>h y (by simp at c ⊢;exact y8 c))
theorem Jp (a l)(d:YW (l.map Zf.name)):∀i,Zz a (-1) i l=Zk a i l:=by
 induction l with
 |nil=>intro i;rfl
 |cons x c f=>
  intro i;simp only[Zz,Zk];have b:(∀y,y∈c.map Zf.name->(y.toList==x.name.toList)=false)/\YW (c.map Zf.name):=d;by_cases h:(x.name.toList==a.toList)=true
  ·rw[if_pos h,if_pos h]
   refine NA a _ c _ (fun y g=>?_);have j:=b.1 y g
   have e:x.name.toList=a.toList:=by simpa using h
   rw[<-e];exact j
  rw[if_neg h,if_neg h]
  exact f b.2 (i+1)
def Xj (rts:List Zf)(k:Nat)(f:Fa):List Tk->Fa
 |[]=>f
 |t::r=>Xj rts (k+1) (ZX (ZX f (decide (4<k)) 6 t.line) (decide (Zz t.text (-1) 0 rts<0)) 4 t.line) r
theorem X8 (rts k x l):Xj rts k (J x) l=J x:=by
 induction l generalizing k with
 |nil=>rfl
 |cons y b a=>exact a (k+1)
theorem NB (rts:List Zf)(j:YW (rts.map Zf.name)):∀(l:List Tk)(i:Nat),i<=4->Xj rts (i+1) I l=Jo (Zw rts i l)/\∀ns,Zw rts i l=.ok ns->ns.map (fun n:Nat=>(n:Int))=l.map fun t=>Zz t.text (-1) 0 rts
 |[],i,_=>⟨rfl,fun ns h=>by simp[Zw]at h;simp[h]⟩
 |t::r,i,hi=>by
  have e:=Jp t.text rts j 0;by_cases c:i=4
  ·subst c
   refine⟨?_,fun ns h=>by simp[Zw]at h⟩;simp only[Xj,Zw];rw[show decide (4<4+1)=true from rfl,Yx,ZM,X8];rfl
  have d:decide (4<i+1)=false:=by simp;omega
  by_cases b:Zk t.text 0 rts<0
  ·have a:decide (Zz t.text (-1) 0 rts<0)=true:=by rw[e];simpa using b
   refine⟨?_,fun ns h=>by simp[Zw,c,b]at h⟩;simp only[Xj,Zw];rw[d,Ya,a,Yx,X8,if_neg c,if_pos b];rfl
  have a:decide (Zz t.text (-1) 0 rts<0)=false:=by rw[e];simpa using b
  obtain⟨k,m⟩:=NB rts j r (i+1) (by omega);refine⟨?_,fun ns h=>?_⟩
  ·simp only[Xj,Zw]
   rw[d,Ya,a,Ya,k,if_neg c,if_neg b]
   cases Zw rts (i+1) r<;>rfl
  simp only[Zw]at h
  rw[if_neg c,if_neg b]at h
  cases g:Zw rts (i+1) r with
  |error f=>rw[g]at h;cases h
  |ok o=>
   rw[g]at h;injection h with h;rw[<-h,C,C,m o g,e]
   congr 1
   omega
def Wp (rts:List Zf)(f:Fa)(r:Nm):Fa:=
 ZX (ZX (Yn r.name.text r.name.line (ZX f (decide (6<=rts.length)) 6 r.name.line) (rts.map Zf.name)) (decide (1000000<Zd r.base)) 5 r.base.line) (decide (1000<Zd r.rate)) 5 r.rate.line
theorem PE (a l):∀i,(0<=Zk a i l)↔(l.map Zf.name).any (fun x=>x.toList==a.toList)=true:=by
 induction l with
 |nil=>intro i;simp[Zk]
 |cons x c b=>
  intro i;simp only[Zk,C,z8]
  cases(x.name.toList==a.toList)with
  |true=>simp
  |false=>simpa using b (i+1)
theorem Tm (rts r)(g:rts.length<=6):Wp rts I r=Jo (ZE rts r)/\∀t,ZE rts r=.ok t->t=⟨r.name.text,Zd r.base,Zd r.rate⟩:=by
 unfold Wp ZE;by_cases e:rts.length=6
 ·have d:decide (6<=rts.length)=true:=by simp;omega
  rw[d,Yx,Vi,if_pos e];exact⟨rfl,fun t h=>by cases h⟩
 have d:decide (6<=rts.length)=false:=by simp;omega
 rw[d,Ya,RL,if_neg e];have f:=PE r.name.text rts 0;by_cases a:0<=Zk r.name.text 0 rts
 ·rw[if_pos (f.1 a),if_pos a]
  exact⟨rfl,fun t h=>by cases h⟩
 rw[if_neg (fun h=>a (f.2 h)),if_neg a];by_cases b:1000000<Zd r.base
 ·rw[show decide (1000000<Zd r.base)=true from by simpa using b,if_pos b]
  exact⟨rfl,fun t h=>by cases h⟩
 rw[show decide (1000000<Zd r.base)=false from by simpa using b,if_neg b];by_cases c:1000<Zd r.rate
 ·rw[show decide (1000<Zd r.rate)=true from by simpa using c,if_pos c]
  exact⟨rfl,fun t h=>by cases h⟩
 rw[show decide (1000<Zd r.rate)=false from by simpa using c,if_neg c];exact⟨rfl,fun t h=>by injection h with h;exact h.symm⟩
structure Xa where
 name:ByteArray
 rank:Nat
 width:Nat
 lo:Nat
 hi:Nat
 mcc:List Nat
 cur:List Nat
 am:Option (Nat×Nat)
 routes:List Int
 decline:Bool
 cheapest:Bool
def Vo (rts:List Zf)(r:QD):Xa:=
 ⟨r.name.text,Zd r.rank,r.bin.1.text.size,Zd r.bin.1,Zd r.bin.2,r.mcc.map Zd,r.cur.map Zd,r.amount.map (fun a=>(Zd a.1,Zd a.2)),r.act.routes.map (fun t=>Zz t.text (-1) 0 rts),r.act.decline,r.act.cheapest⟩
def Xb (f:Fa):Option (Tk×Tk)->Fa
 |none=>f
 |some a=>ZX (ZX f (decide (1000000000<Zd a.1)) 5 a.1.line) (decide (1000000000<Zd a.2)||decide (Zd a.2<Zd a.1)) 5 a.2.line
def Xt (rts:List Zf)(a:List ByteArray)(f:Fa)(r:QD):Fa:=
  Xj rts 1 (Ye 999 1 (Xb (Ye 9999 1
    (ZX (ZX (ZX (Yn r.name.text r.name.line (ZX f (decide (8<=a.length)) 6 r.name.line) a)
      (decide (1000<Zd r.rank)) 5 r.rank.line) (decide (6<r.bin.1.text.size)) 5 r.bin.1.line)
      (decide (6<r.bin.2.text.size)||decide (r.bin.2.text.size≠r.bin.1.text.size)||decide (Zd r.bin.2<Zd r.bin.1)) 5 r.bin.2.line)
    r.mcc) r.amount) r.cur) r.act.routes
theorem Of (a l):XI a l=(l.map Ze.name).any (fun x=>x.toList==a.toList):=by
 induction l with
 |nil=>rfl
 |cons x c b=>
  simp only[XI,C,z8]
  cases(x.name.toList==a.toList)with
  |true=>rfl
  |false=>simpa using b
theorem O4:∀(l:List UInt8)(n:Nat),(∀c,c∈l->c.toNat<=57)->l.foldl (fun n c=>n*10+(c.toNat-48)) n<(n+1)*10^l.length
 |[],n,_=>by simp
 |c::r,n,h=>by
  have a:=O4 r (n*10+(c.toNat-48)) (fun d b=>h d (by simp[b]));have e:=h c (by simp);simp only[List.foldl_cons,y0];refine nL a ?_;rw[Nat.pow_succ,Nat.mul_comm (10^r.length) 10,<-Nat.mul_assoc];exact Nat.mul_le_mul_right _ (by omega)
theorem Wl (t)(b:Dg t.text):Zd t<1000000000:=by
 have h:=O4 t.text.data.toList 0 (fun c f=>by
  obtain⟨k,d,e⟩:=x7 f;have a:=(b.2 k (by simpa using d)).2;unfold ZD at a;rw[gD,gE d,e]at a;simp at a
  omega)
 have g:t.text.data.toList.length<=9:=by have:=b.1;simpa using this
 have i:10^t.text.data.toList.length<=10^9:=Nat.pow_le_pow_right (by omega) g;unfold Zd Yv;omega
def Ze.ref (r:Ze):Xa:=⟨r.name,r.rank,r.digits,r.lo,r.hi,r.mcc,r.cur,r.am,r.routes.map (fun n:Nat=>(n:Int)),r.decline,r.cheapest⟩
theorem Fm (rts c r)(L:c.length<=8)(n:YW (rts.map Zf.name))(y:∀b,r.amount=J b->Dg b.1.text/\Dg b.2.text):
  Xt rts (c.map Ze.name) I r=Jo (Z8 rts c r)/\∀t,Z8 rts c r=.ok t->t.ref=Vo rts r/\t.ahead=rts.length:=by
 unfold Xt Z8
 have a:∀x:Nat×Nat,Xj rts 1 (Ye 999 1 (Xb (J x) r.amount) r.cur) r.act.routes=J x:=fun x=>by
  cases r.amount with
  |none=>simp only[Xb];rw[ZQ,X8]
  |some b=>simp only[Xb];rw[ZM,ZM,ZQ,X8]
 rw[List.length_map];by_cases s:c.length=8
 ·have n:decide (8<=c.length)=true:=by simp;omega
  rw[n,Yx,Vi,ZM,ZM,ZM,ZQ,a,if_pos s];exact⟨rfl,fun t h=>by cases h⟩
 rw[show decide (8<=c.length)=false from by simp;omega,Ya,RL,if_neg s,<-Of];by_cases j:XI r.name.text c=true
 ·rw[if_pos j,if_pos j,ZM,ZM,ZM,ZQ,a]
  exact⟨rfl,fun t h=>by cases h⟩
 rw[if_neg j,if_neg j];by_cases k:1000<Zd r.rank
 ·rw[show decide (1000<Zd r.rank)=true from by simpa using k,if_pos k,Yx,ZM,ZM,ZQ,a]
  exact⟨rfl,fun t h=>by cases h⟩
 rw[show decide (1000<Zd r.rank)=false from by simpa using k,if_neg k,Ya];by_cases l:6<r.bin.1.text.size
 ·rw[show decide (6<r.bin.1.text.size)=true from by simpa using l,if_pos l,Yx,ZM,ZQ,a]
  exact⟨rfl,fun t h=>by cases h⟩
 rw[show decide (6<r.bin.1.text.size)=false from by simpa using l,if_neg l,Ya];by_cases o:r.bin.2.text.size≠r.bin.1.text.size
 ·rw[show(decide (6<r.bin.2.text.size)||decide (r.bin.2.text.size≠r.bin.1.text.size)||decide (Zd r.bin.2<Zd r.bin.1))=true from by simp[o],if_pos o,Yx,ZQ,a]
  exact⟨rfl,fun t h=>by cases h⟩
 have z:r.bin.2.text.size=r.bin.1.text.size:=by omega
 rw[if_neg o];by_cases u:¬Zd r.bin.1<=Zd r.bin.2
 ·rw[show(decide (6<r.bin.2.text.size)||decide (r.bin.2.text.size≠r.bin.1.text.size)||decide (Zd r.bin.2<Zd r.bin.1))=true from by simp;omega,if_pos u,Yx,ZQ,a]
  exact⟨rfl,fun t h=>by cases h⟩
 rw[show(decide (6<r.bin.2.text.size)||decide (r.bin.2.text.size≠r.bin.1.text.size)||decide (Zd r.bin.2<Zd r.bin.1))=false from by simp;omega,if_neg u,Ya];obtain⟨v,A⟩:=WO 9999 r.mcc 0 (by omega);rw[z6]at v;rw[v]
 cases B:Zp 9999 0 r.mcc with
 |error f=>
  simp only[Jo];rw[a];exact⟨rfl,fun t h=>by cases h⟩
 |ok e=>
  have C:=A e B;simp only[Jo];obtain⟨c1,D⟩:=WO 999 r.cur 0 (by omega);rw[z6]at c1;obtain⟨w,E⟩:=NB rts n r.act.routes 0 (by omega);rw[z6]at w;have g:∀(m:Option (Nat×Nat)),m=r.amount.map (fun b=>(Zd b.1,Zd b.2))->Xj rts 1 (Ye 999 1 I r.cur) r.act.routes=
    Jo (match Zp 999 0 r.cur with
     | .error f=>(.error f:Except (Nat×Nat) Ze)
     | .ok d=>match Zw rts 0 r.act.routes with
      | .error f=>.error f
      | .ok i=>.ok ⟨r.name.text,Zd r.rank,r.bin.1.text.size,Zd r.bin.1,Zd r.bin.2,e,m,d,r.act.decline,r.act.cheapest,i,rts.length⟩)/\
    ∀t,(match Zp 999 0 r.cur with
     | .error f=>(.error f:Except (Nat×Nat) Ze)
     | .ok d=>match Zw rts 0 r.act.routes with
      | .error f=>.error f
      | .ok i=>.ok ⟨r.name.text,Zd r.rank,r.bin.1.text.size,Zd r.bin.1,Zd r.bin.2,e,m,d,r.act.decline,r.act.cheapest,i,rts.length⟩)=.ok t->t.ref=Vo rts r/\t.ahead=rts.length:=by
   intro m p;rw[c1]
   cases F:Zp 999 0 r.cur with
   |error f=>
    simp only[Jo];rw[X8];exact⟨rfl,fun t h=>by cases h⟩
   |ok d=>
    simp only[Jo];rw[w]
    cases G:Zw rts 0 r.act.routes with
    |error f=>exact⟨rfl,fun t h=>by cases h⟩
    |ok i=>
     refine⟨rfl,fun t h=>?_⟩;injection h with h;subst h;refine⟨?_,rfl⟩;simp only[Ze.ref,Vo];rw[C,D d F,E i G,p]
  cases q:r.amount with
  |none=>
   have h:=g I (by rw[q];rfl);simp only[Xb,Option.any,Option.map];exact h
  |some b=>
   obtain⟨H,K⟩:=y b q;have v1:=Wl b.1 H;have v2:=Wl b.2 K;simp only[Xb,Option.any,Option.map];rw[show decide (1000000000<Zd b.1)=false from by simp;omega,Ya,show decide (1000000000<Zd b.2)=false from by simp;omega,Bool.false_or];by_cases M:Zd b.1<=Zd b.2
   ·have h:=g (J (Zd b.1,Zd b.2)) (by rw[q];rfl)
    rw[show decide (Zd b.2<Zd b.1)=false from by simp;omega,Ya,if_neg (by simp;omega)];exact h
   rw[show decide (Zd b.2<Zd b.1)=true from by simp;omega,Yx,ZQ,X8,if_pos (by simp;omega)]
   exact⟨rfl,fun t h=>by cases h⟩
end Go.Proofs.YtccikgogjfbpeaaGreatDoor
namespace Go.Proofs.YtccikgogjfbpeaaGreatDoor
def Yk:List UInt8->List UInt8
 |48::c::r=>Yk (c::r)
 |l=>l
theorem VF (c r):Yk (48::c::r)=Yk (c::r):=by rw[Yk]
theorem Uh (c):Yk [c]=[c]:=by
 unfold Yk;split
 ·rename_i h;simp at h
 rfl
theorem VR (b r)(h:b≠48):Yk (b::r)=b::r:=by
 unfold Yk;split
 ·rename_i a;simp at a;exact absurd a.1 h
 rfl
theorem Qg (l)(h:l≠[]):Yk l≠[]/\(Yk l).length<=l.length:=by
 induction l with
 |nil=>exact absurd rfl h
 |cons b r d=>
  by_cases a:b=48
  ·subst a
   cases r with
   |nil=>rw[Uh];simp
   |cons c r=>
    rw[VF];have:=d (by simp);exact⟨this.1,by have:=this.2;simp at this ⊢;omega⟩
  rw[VR b r a];simp
theorem Ce (l)(h:l≠[]):q5 (l.length-(Yk l).length) 48++Yk l=l:=by
 induction l with
 |nil=>exact absurd rfl h
 |cons b r d=>
  by_cases a:b=48
  ·subst a
   cases r with
   |nil=>rw[Uh];simp
   |cons c r=>
    rw[VF];have f:=d (by simp);have g:=(Qg (c::r) (by simp)).2
    have e:(48::c::r).length-(Yk (c::r)).length=((c::r).length-(Yk (c::r)).length)+1:=by
     simp only[y0]at g ⊢;omega
    rw[e,List.replicate_succ,x9,f]
  rw[VR b r a];simp
theorem IA (m c)(e:m≠[]):Yk (m++[c])=if Yk m=[48]then[c]else Yk m++[c]:=by
 induction m with
 |nil=>exact absurd rfl e
 |cons b r f=>
  by_cases a:b=48
  ·subst a
   cases r with
   |nil=>rw[Uh,if_pos rfl];show Yk [48,c]=_;rw[VF,Uh]
   |cons d r=>
    rw[VF]
    show Yk (48::d::(r++[c]))=_
    rw[VF];exact f (by simp)
  rw[VR b r a,x9,VR b _ a]
  rw[if_neg (by simp;intro h;exact absurd h a)]
def xY (l:List UInt8):Prop:=∀c,c∈l->48<=c.toNat/\c.toNat<=57
theorem NC (c)(h:48<=c.toNat/\c.toNat<=57):UInt8.ofNat (48+(c.toNat-48))=c:=by
 rw[show 48+(c.toNat-48)=c.toNat from by omega];exact UInt8.ofNat_toNat
theorem UM {u}(h:u<10):Lib.decDigits u=[UInt8.ofNat (48+u)]:=by rw[Lib.decDigits,dif_pos h]
theorem O5 {u}(h:¬u<10):Lib.decDigits u=Lib.decDigits (u/10)++[UInt8.ofNat (48+u % 10)]:=by rw[Lib.decDigits,dif_neg h]
theorem Jq (u):Lib.decDigits u≠[]:=by
 by_cases h:u<10
 ·rw[UM h];simp
 rw[O5 h];simp
theorem IB (u):Lib.decDigits u=[48]↔u=0:=by
 constructor
 ·intro h
  by_cases b:u<10
  ·rw[UM b]at h
   injection h with h _;have:=congrArg UInt8.toNat h;simp at this;omega
  rw[O5 b]at h
  have c:=congrArg List.length h
  have d:1<=(Lib.decDigits (u/10)).length:=by
   rcases Nat.eq_zero_or_pos (Lib.decDigits (u/10)).length with a|a
   ·exact absurd (y9.1 a) (Jq _)
   exact a
  simp at c;exact absurd c (Jq _)
 intro h;subst h;rw[UM (by omega)];rfl
theorem Cf:∀n l,l.length=n->l≠[]->xY l->Yk l=Lib.decDigits (Yv l):=by
 intro n
 induction n with
 |zero=>intro l b h _;exact absurd (y9.1 b) h
 |succ n o=>
  intro l b a k;obtain⟨m,c,rfl⟩:∃m c,l=m++[c]:=⟨l.dropLast,l.getLast a,(List.dropLast_concat_getLast a).symm⟩;have f:=k c (by simp);rw[UX];by_cases g:m=[]
  ·subst g
   show Yk [c]=Lib.decDigits (Yv []*10+(c.toNat-48))
   have e:Yv []*10+(c.toNat-48)=c.toNat-48:=by simp[Yv]
   rw[e,Uh,UM (by omega),NC c f]
  have hi:=o m (by simp at b;exact b) g (fun d i=>k d (by simp[i]))
  rw[IA m c g,hi];by_cases j:Yv m=0
  ·rw[if_pos ((IB _).2 j),j,UM (by omega),q6,z6,NC c f]
  rw[if_neg (fun h=>j ((IB _).1 h)),O5 (u:=Yv m*10+(c.toNat-48)) (by omega)]
  rw[show(Yv m*10+(c.toNat-48))/10=Yv m from by omega,show(Yv m*10+(c.toNat-48))% 10=c.toNat-48 from by omega,NC c f]
theorem Ao {t}(h:Dg t):xY t.data.toList:=fun c d=>by
 obtain⟨k,b,e⟩:=x7 d;have a:=h.2 k (by simpa using b);unfold ZD at a;rw[gD,gE b,e]at a;simp at a;omega
theorem ND {t:ByteArray}(h:1<=t.size):t.data.toList≠[]:=fun e=>by
 have a:t.data.toList.length=t.size:=by simp
 rw[e]at a;simp at a;omega
theorem L7 (t)(h:Dg t.text)(a:1<=t.text.size):Yk t.text.data.toList=Lib.decDigits (Zd t):=
 Cf _ _ rfl (ND a) (Ao h)
theorem QO (t)(h:Dg t.text)(b:1<=t.text.size):q5 (t.text.size-(Lib.decDigits (Zd t)).length) 48++Lib.decDigits (Zd t)=t.text.data.toList/\(Lib.decDigits (Zd t)).length<=t.text.size:=by
 have a:t.text.data.toList≠[]:=ND b;have f:=L7 t h b;have c:=Ce _ a;have d:=(Qg _ a).2
 have e:t.text.data.toList.length=t.text.size:=by simp
 rw[f,e]at c d;exact⟨c,d⟩
def YX (rts:List Zf)(a:List Xa):List Vu->Except (Nat×Nat) (List Zf×List Xa)
 |[]=>.ok (rts,a)
 | .route r::xs=>match Wp rts I r with
  |some f=>.error f
  |none=>YX (rts++[⟨r.name.text,Zd r.base,Zd r.rate⟩]) a xs
 | .rule r::xs=>match Xt rts (a.map Xa.name) I r with
  |some f=>.error f
  |none=>YX rts (a++[Vo rts r]) xs
theorem TC {l x}(h:YW l)(c:l.any (fun y=>y.toList==x.toList)=false):YW (l++[x]):=by
 induction l with
 |nil=>exact⟨fun y b=>by simp at b,trivial⟩
 |cons a r f=>
  have d:(∀y,y∈r->(y.toList==a.toList)=false)/\YW r:=h;rw[z8,Bool.or_eq_false_iff]at c;refine⟨fun y b=>?_,f d.2 c.2⟩;rcases List.mem_append.1 b with b|b
  ·exact d.1 y b
  simp at b
  subst b;rw[Bool.eq_false_iff]at c ⊢;intro e;apply c.1;simp at e ⊢;exact e.symm
theorem VS {rts r t}(a:rts.length<=6)(b:YW (rts.map Zf.name))(h:ZE rts r=.ok t):YW ((rts++[t]).map Zf.name)/\(rts++[t]).length<=6:=by
 have e:=(Tm rts r a).2 t h;unfold ZE at h
 split at h
 ·cases h
 rename_i g
 split at h
 ·cases h
 rename_i c;have d:=PE r.name.text rts 0;subst e;rw[q0];refine⟨TC b ?_,by simp;omega⟩;rw[Bool.eq_false_iff]
 exact fun f=>c (d.2 f)
theorem Og {rts a r t}(b:a.length<=8)(h:Z8 rts a r=.ok t):(a++[t]).length<=8:=by
 unfold Z8 at h
 split at h
 ·cases h
 simp;omega
theorem Ap (a:List Ze):(a.map Ze.ref).map Xa.name=a.map Ze.name:=by
 rw[List.map_map];rfl
theorem ST:∀(c:List Vu)(rts:List Zf)(a:List Ze),rts.length<=6->a.length<=8->YW (rts.map Zf.name)->(∀x,x∈c->VE x)->
  YX rts (a.map Ze.ref) c=(match ZS rts a c with
   | .error f=>.error f
   | .ok p=>.ok (p.1,p.2.map Ze.ref))
 |[],rts,a,_,_,_,_=>rfl
 | .route r::c,rts,a,h6,h8,hd,ho=>by
  obtain⟨g,h⟩:=Tm rts r h6;simp only[YX];rw[g]
  cases b:ZE rts r with
  |error f=>rw[YQ (f:=f) (by simp only[Vv,b])];rfl
  |ok t=>
   rw[Xn (p:=(rts++[t],a)) (by simp only[Vv,b])];have e:=h t b;have d:=VS h6 hd b;have:=ST c (rts++[t]) a d.2 h8 d.1 (fun x i=>ho x (by simp[i]));rw[e]at this ⊢;exact this
 | .rule r::c,rts,a,h6,h8,hd,ho=>by
  have j:VE (.rule r):=ho _ (by simp);obtain⟨g,h⟩:=Fm rts a r h8 hd j.2.2.2.2.2.2.1;simp only[YX];rw[Ap,g]
  cases b:Z8 rts a r with
  |error f=>rw[YQ (f:=f) (by simp only[Vv,b])];rfl
  |ok t=>
   rw[Xn (p:=(rts,a++[t])) (by simp only[Vv,b])];have e:=(h t b).1;have:=ST c rts (a++[t]) h6 (Og h8 b) hd (fun x i=>ho x (by simp[i]));rw[q0,C,List.map_nil,e]at this;exact this
end Go.Proofs.YtccikgogjfbpeaaGreatDoor
namespace Go.Proofs.YtccikgogjfbpeaaGreatDoor
def Lp (t:Tk)(l:List UInt8):Bool:=t.text.toList==l
def SG (ts:List Tk)(k:Nat):Bool:=
 (decide (0<k)&&Lp (Zo ts (k-1)) [98,105,110])||(decide (2<k)&&Lp (Zo ts (k-1)) [46,46]&&Lp (Zo ts (k-3)) [98,105,110])
def Xc (ts:List Tk)(k:Nat):List UInt8:=
 if decide ((Zo ts k).sort=1)&&!SG ts k then Yk (Zo ts k).text.data.toList else(Zo ts k).text.data.toList
def Uy (s:List UInt8):Bool:=s==[59]||s==[44]||s==[58]||s==[46,46]
def ZT:Bool->Bool->List (List UInt8)->List UInt8
 |_,_,[]=>[]
 |first,glued,s::r=>(if !first&&!glued&&!Uy s then[32]else[])++(s++(if s==[59]then 10::ZT true (s==[46,46]) r else ZT false (s==[46,46]) r))
def Yo (ts:List Tk):Nat->Nat->List (List UInt8)
 |_,0=>[]
 |k,n+1=>Xc ts k::Yo ts (k+1) n
def VT (ts:List Tk)(n:Nat):List UInt8:=ZT true false (Yo ts 0 n)
end Go.Proofs.YtccikgogjfbpeaaGreatDoor
namespace Go.Proofs.YtccikgogjfbpeaaGreatDoor
structure wV (body:List Tk)(i:Nat)(l:List Tk):Prop where
 it:∀j t,l[j]?=J t->body[i+1+2*j]?=J t
 cm:∀j,0<j->j<l.length->∃t,body[i+2*j]?=J t/\(t.text.toList==[44])=true
 en:∃t,body[i+2*l.length]?=J t/\(t.text.toList==[44])=false
 ps:0<l.length
def sA (t:Tk)(l:List UInt8):Prop:=(t.text.toList==l)=true
def wW (body:List Tk)(i:Nat)(kw:List UInt8)(l:List Tk):Prop:=
 ∃t,body[i]?=J t/\(((t.text.toList==kw)=true/\wV body i l)\/((t.text.toList==kw)=false/\l=[]))
def ug (body:List Tk)(i:Nat)(kw:List UInt8)(o:Option (Tk×Tk)):Prop:=
 ∃t,body[i]?=J t/\match o with
  |some a=>(t.text.toList==kw)=true/\body[i+1]?=J a.1/\body[i+3]?=J a.2
  |none=>(t.text.toList==kw)=false
def Su (o:Option (Tk×Tk)):Nat:=match o with|some _=>4|none=>0
def xZ (body:List Tk)(c:Nat)(a:D6)(j:Nat):Prop:=
  ∃ t,body[c+1]?=J t/\
    ((a=⟨true,false,[]⟩/\(t.text.toList==[100,101,99,108,105,110,101])=true/\j=c+2)\/
     (a.decline=false/\(t.text.toList==[100,101,99,108,105,110,101])=false/\(t.text.toList==[99,104,101,97,112,101,115,116])=a.cheapest/\
       ∃b,(c+1=if a.cheapest then b else b+1)/\wV body b a.routes/\j=b+2*a.routes.length))
structure Jr (body:List Tk)(i:Nat)(r:QD)(j:Nat):Prop where
 nm:body[i+1]?=J r.name
 rk:body[i+2]?=J r.rank
 b1:body[i+5]?=J r.bin.1
 b2:body[i+7]?=J r.bin.2
 mc:wW body (i+8) [109,99,99] r.mcc
 am:ug body (i+8+2*r.mcc.length) [97,109,111,117,110,116] r.amount
 cu:wW body (i+8+2*r.mcc.length+Su r.amount) [99,117,114] r.cur
 ac:xZ body (i+8+2*r.mcc.length+Su r.amount+2*r.cur.length) r.act j
 dg:Dg r.rank.text/\Dg r.bin.1.text/\Dg r.bin.2.text/\(∀t,t∈r.mcc->Dg t.text)/\(∀t,t∈r.cur->Dg t.text)/\(∀ab,r.amount=J ab->Dg ab.1.text/\Dg ab.2.text)
theorem NE {ts k n}(h:k<n):Yo ts k (n-k)=Xc ts k::Yo ts (k+1) (n-(k+1)):=by
 rw[show n-k=(n-(k+1))+1 from by omega];rfl
theorem Vp {ts k t}(h:ts[k]?=J t):Zo ts k=t:=by
 unfold Zo;rw[gD,h];rfl
end Go.Proofs.YtccikgogjfbpeaaGreatDoor
namespace Go.Proofs.YtccikgogjfbpeaaGreatDoor
section
variable {body:List Tk} {en:Tk}
theorem O6 (a:en.sort=3){i}(h:(Zo (body++[en]) i).sort≠3):body[i]?=J (Zo (body++[en]) i):=by
 unfold Zo at h ⊢;rw[gD]at h ⊢;by_cases hi:i<body.length
 ·rw[F hi,gE hi]
  rfl
 exfalso
 apply h;rw[aR (by omega)];by_cases b:i-body.length=0
 ·rw[b];exact a
 rw[List.getElem?_eq_none (by simp;omega)];rfl
theorem ZU (c:en.sort=3){i a t k}(d:a≠3)(h:Z9 (body++[en]) i a=.ok (t,k)):body[i]?=J t/\t.sort=a/\k=i+1:=by
 obtain⟨rfl,b,e⟩:=Yt h;exact⟨O6 c (by rw[b];exact d),b,e⟩
theorem Ui (a:en.sort=3){i m}(h:Zn (Zo (body++[en]) i) m=true):∃t,body[i]?=J t/\(t.text.toList==m.data.toList)=true/\t.sort=2:=by
 simp only[Zn,Bool.and_eq_true,decide_eq_true_eq]at h;exact⟨_,O6 a (by rw[h.1];decide),by rw[<-ByteArray.toList_eq m];exact h.2,h.1⟩
theorem YF (a:en.sort=3){i m u k}(h:ZF (body++[en]) i m=.ok (u,k)):(∃t,body[i]?=J t/\(t.text.toList==m.data.toList)=true/\t.sort=2)/\k=i+1:=by
 refine⟨?_,Yu h⟩;unfold ZF at h
 split at h
 ·rename_i b;exact Ui a b
 cases h
theorem U1 (b:en.sort=3)(c:∀t,t∈body->VC t){i m}(d:m∈X7)(e:(Zo (body++[en]) i).sort≠3)(h:¬Zn (Zo (body++[en]) i) m=true):∃t,body[i]?=J t/\(t.text.toList==m.data.toList)=false:=by
 have a:=O6 b e;refine⟨_,a,?_⟩;have f:=c _ (mG a) m d;rw[<-ByteArray.toList_eq m,<-f]
 simpa using h
theorem Wq (a:∀t,t∈body->t.sort≠3){i t}(h:body[i]?=J t):(Zo (body++[en]) i).sort≠3:=by
 have hi:=(iG.1 h).1
 have e:Zo (body++[en]) i=t:=by
  unfold Zo;rw[gD,F hi,h];rfl
 rw[e];exact a t (mG h)
theorem EZ (g:en.sort=3){want}(n:want≠3):∀m i c l k,(body++[en]).length-i=m->XW (body++[en]) i want c=.ok (l,k)->
  ∃r,l=c++r/\(∀j t,r[j]?=J t->body[i+1+2*j]?=J t)/\(∀j,j<r.length->∃t,body[i+2*j]?=J t/\(t.text.toList==[44])=true)/\k=i+2*r.length/\¬Zn (Zo (body++[en]) k) Y2=true:=by
 intro m
 induction m using Nat.strongRecOn with
 |ind m o=>
  intro i c l k A b;rw[XW]at b
  split at b
  ·rename_i d
   have p:=Up d
   split at b
   ·cases b
   rename_i t e q
   obtain⟨f,h,B⟩:=ZU g n q;obtain⟨r,s,v,w,C,x⟩:=o ((body++[en]).length-e) (by omega) e _ l k rfl b;obtain⟨y,c1,z,_⟩:=Ui g d;refine⟨t::r,by rw[s,x8];rfl,fun j u a=>?_,fun j a=>?_,by simp only[y0];omega,x⟩
   ·cases j with
    |zero=>simp at a;subst a;exact f
    |succ j=>
     have:=v j u (by simpa using a);rw[show i+1+2*(j+1)=e+1+2*j from by omega];exact this
   cases j with
   |zero=>exact⟨y,c1,z⟩
   |succ j=>
    obtain⟨u,u1,u2⟩:=w j (by simpa using a);rw[show i+2*(j+1)=e+2*j from by omega];exact⟨u,u1,u2⟩
  rename_i d
  injection b with b;injection b with f h;subst f h;exact⟨[],by simp,fun j t a=>by simp at a,fun j a=>by simp at a,by simp,d⟩
theorem Fo:Y2∈X7:=by simp[X7]
theorem Js (b:en.sort=3)(m:∀t,t∈body->VC t){i a}(f:a≠3){l k}(h:Xl (body++[en]) (i+1) a=.ok (l,k))(n:(Zo (body++[en]) k).sort≠3):wV body i l/\k=i+2*l.length:=by
 unfold Xl at h
 split at h
 ·cases h
 rename_i t c o
 obtain⟨p,z,A⟩:=ZU b f o;obtain⟨r,q,s,v,B,w⟩:=EZ b f _ c [t] l k rfl h;have x:l=t::r:=q;subst x
 have g:k=i+2*(t::r).length:=by simp only[y0];omega
 refine⟨⟨fun j u d=>?_,fun j y e=>?_,?_,by simp⟩,g⟩
 ·cases j with
  |zero=>simp at d;subst d;exact p
  |succ j=>
   have:=s j u (by simpa using d);rw[show i+1+2*(j+1)=c+1+2*j from by omega];exact this
 ·cases j with
  |zero=>omega
  |succ j=>
   obtain⟨u,u1,u2⟩:=v j (by simpa using e);rw[show i+2*(j+1)=c+2*j from by omega];exact⟨u,u1,u2⟩
 rw[<-g]
 exact U1 b m Fo n w
theorem NF (e:en.sort=3)(m:∀t,t∈body->VC t)(n:∀t,t∈body->t.sort≠3){i kw}(f:kw∈X7){l k}(h:Xh (body++[en]) i kw=.ok (l,k))(g:(Zo (body++[en]) k).sort≠3):wW body i kw.data.toList l/\k=i+2*l.length/\(Zo (body++[en]) i).sort≠3:=by
 unfold Xh at h
 split at h
 ·rename_i j
  obtain⟨t,c,d,_⟩:=Ui e j;obtain⟨a,b⟩:=Js e m (by decide) h g;exact⟨⟨t,c,x5 ⟨d,a⟩⟩,b,Wq n c⟩
 rename_i j
 injection h with h;injection h with c d;subst c d;obtain⟨t,c,d⟩:=U1 e m f g j;exact⟨⟨t,c,y8 ⟨d,rfl⟩⟩,by simp,g⟩
theorem Fp (f:en.sort=3)(q:∀t,t∈body->VC t)(r:∀t,t∈body->t.sort≠3){i o k}(h:Wv (body++[en]) i Z7=.ok (o,k))(p:(Zo (body++[en]) k).sort≠3):ug body i [97,109,111,117,110,116] o/\k=i+Su o/\(Zo (body++[en]) i).sort≠3:=by
 unfold Wv at h
 split at h
 ·rename_i l
  obtain⟨t,d,g,_⟩:=Ui f l;obtain⟨z,j,c,e⟩:=bI h;injection e with e;injection e with s u;subst s u;rw[WK]at c;obtain⟨a,A,g1,c⟩:=bI c;obtain⟨_,v,g2,c⟩:=bI c;obtain⟨b,B,g3,c⟩:=bI c;injection c with c;injection c with n w;obtain⟨x,C,D⟩:=ZU f (by decide) g1;have E:=(YF f g2).2;obtain⟨y,F,G⟩:=ZU f (by decide) g3;subst n;refine⟨⟨t,d,g,x,?_⟩,by simp only[Su];omega,Wq r d⟩;rw[show i+3=v from by omega];exact y
 rename_i l
 injection h with h;injection h with d g;subst d g;obtain⟨t,d,g⟩:=U1 f q (m:=Z7) (by simp[X7]) p l;exact⟨⟨t,d,g⟩,rfl,p⟩
theorem Cg (b:en.sort=3)(n:∀t,t∈body->VC t)(v:∀t,t∈body->t.sort≠3){o a k}(h:Xi (body++[en]) (o+1)=.ok (a,k))(w:(Zo (body++[en]) k).sort≠3):xZ body o a k:=by
 unfold Xi at h
 split at h
 ·rename_i s
  obtain⟨t,f,u,_⟩:=Ui b s;injection h with h;injection h with p q;subst p q;exact⟨t,f,x5 ⟨rfl,u,rfl⟩⟩
 rename_i s
 split at h
 ·rename_i i
  obtain⟨t,f,u,_⟩:=Ui b i;obtain⟨l,j,g,e⟩:=bI h;injection e with e;injection e with p q;subst p q;obtain⟨c,d⟩:=Js b n (by decide) g w;obtain⟨x,u1,u2⟩:=U1 b n (m:=YM) (by simp[X7]) (Wq v f) s;rw[f]at u1;injection u1 with u1;subst u1;exact⟨t,f,y8 ⟨rfl,u2,u,o+1,rfl,c,d⟩⟩
 rename_i i
 obtain⟨l,j,g,e⟩:=bI h;injection e with e;injection e with p q;subst p q
 have r:(Zo (body++[en]) (o+1)).sort≠3:=by
  unfold Xl at g
  split at g
  ·cases g
  rename_i t z y
  exact Wq v (ZU b (by decide) y).1
 obtain⟨c,d⟩:=Js b n (by decide) g w;obtain⟨t,f,u2⟩:=U1 b n (m:=YM) (by simp[X7]) r s;obtain⟨x,u3,u4⟩:=U1 b n (m:=Yj) (by simp[X7]) r i;rw[f]at u3;injection u3 with u3;subst u3;exact⟨t,f,y8 ⟨rfl,u2,u4,o,rfl,c,d⟩⟩
theorem yL (a:en.sort=3)(f:∀t,t∈body->VC t)(d:∀t,t∈body->t.sort≠3){i r k}(h:Wk (body++[en]) (i+1)=.ok (r,k))(m:(Zo (body++[en]) k).sort≠3)(c:VE (.rule r)):Jr body i r k:=by
 unfold Wk at h;obtain⟨S,n,g1,h⟩:=bI h;obtain⟨rk,T,g2,h⟩:=bI h;obtain⟨_,U,g3,h⟩:=bI h;obtain⟨_,o,p,h⟩:=bI h;obtain⟨V,q,b,h⟩:=bI h;obtain⟨g,W,s,h⟩:=bI h;obtain⟨j,u,v,h⟩:=bI h;obtain⟨w,x,y,h⟩:=bI h;obtain⟨_,X,z,h⟩:=bI h;obtain⟨Y,A,e,h⟩:=bI h;injection h with h;injection h with B C;subst B C;obtain⟨D,Z,a3⟩:=ZU a (by decide) g1;obtain⟨E,b2,b3⟩:=ZU a (by decide) g2;obtain⟨_,c3⟩:=YF a g3;obtain⟨_,c4⟩:=YF a p;rw[WK]at b;obtain⟨p1,q1,F,b⟩:=bI b;obtain⟨_,G,H,b⟩:=bI b;obtain⟨p2,q3,I,b⟩:=bI b;injection b with b;injection b with J f2;subst J;obtain⟨K,x2,x3⟩:=ZU a (by decide) F;have x4:=(YF a H).2;obtain⟨L,y2,y3⟩:=ZU a (by decide) I;obtain⟨⟨ta,M,_,_⟩,N⟩:=YF a z;obtain⟨u1,u2,u3⟩:=NF a f d (kw:=Vz) (by simp[X7]) y (Wq d M);obtain⟨v1,v2,v3⟩:=Fp a f d v u3;obtain⟨O,w2,w3⟩:=NF a f d (kw:=Vc) (by simp[X7]) s v3
 have P:q=i+8:=by omega
 subst P;rw[N]at e;have l:=Cg a f d e m;rw[w2]at v1
 have Q:u=i+8+2*g.length+Su j:=by omega
 rw[Q]at u1
 have R:x=i+8+2*g.length+Su j+2*w.length:=by omega
 rw[R]at l;refine⟨D,?_,?_,?_,O,v1,u1,l,c.2.1,c.2.2.1,c.2.2.2.1,c.2.2.2.2.1,c.2.2.2.2.2.1,c.2.2.2.2.2.2.1⟩
 ·rw[show i+2=n from by omega];exact E
 ·rw[show i+5=o from by omega];exact K
 rw[show i+7=G from by omega];exact L
end
end Go.Proofs.YtccikgogjfbpeaaGreatDoor
namespace Go.Proofs.YtccikgogjfbpeaaGreatDoor
abbrev Bs:=List UInt8
def Vf (t:Tk):Bs:=Lib.decDigits (Zd t)
def Yz (t:Tk):Bs:=t.text.data.toList
def Tn (a:Tk->Bs)(l:List Tk):List Bs:=l.flatMap fun t=>[[44],a t]
def QP (a:Tk->Bs):List Tk->List Bs
 |[]=>[]
 |t::r=>a t::Tn a r
def YR (kw:Bs)(l:List Tk):List Bs:=if l=[]then[]else kw::QP Vf l
def Aq:Option (Tk×Tk)->List Bs
 |none=>[]
 |some a=>[[97,109,111,117,110,116],Vf a.1,[46,46],Vf a.2]
def OK (a:D6):List Bs:=if a.decline then[[100,101,99,108,105,110,101]]else(if a.cheapest then[[99,104,101,97,112,101,115,116]]else[])++QP Yz a.routes
def NG:Vu->List Bs
 | .route r=>[[114,111,117,116,101],Yz r.name,Vf r.base,Vf r.rate,[59]]
 | .rule r=>[[114,117,108,101],Yz r.name,Vf r.rank,[58],[98,105,110],Yz r.bin.1,[46,46],Yz r.bin.2]++YR [109,99,99] r.mcc++Aq r.amount++YR [99,117,114] r.cur++[[45,62]]++OK r.act++[[59]]
def Vq (body:List Tk)(i:Nat)(a:List Bs):Prop:=Yo body i a.length=a
theorem RM (ts:List Tk):∀(a k b:Nat),Yo ts k (a+b)=Yo ts k a++Yo ts (k+a) b
 |0,k,b=>by rw[z6];rfl
 |a+1,k,b=>by
  rw[show a+1+b=(a+b)+1 from by omega]
  show Xc ts k::Yo ts (k+1) (a+b)=Xc ts k::Yo ts (k+1) a++_
  rw[RM ts a (k+1) b,show k+1+a=k+(a+1)from by omega];rfl
theorem Vq.nil (body i):Vq body i []:=rfl
theorem Vq.append {body i a b}(c:Vq body i a)(d:Vq body (i+a.length) b):Vq body i (a++b):=by
 unfold Vq at*;rw[lA,RM,c,d]
theorem Vq.one {body i s}(h:Xc body i=s):Vq body i [s]:=by
 unfold Vq
 show Xc body i::Yo body (i+1) 0=[s]
 rw[h];rfl
theorem Vq.cons {body i s r}(h:Xc body i=s)(a:Vq body (i+1) r):Vq body i (s::r):=Vq.append (Vq.one h) a
theorem VG {t a b}(h:(t.text.toList==a)=true)(c:(a==b)=false):Lp t b=false:=by
 unfold Lp
 have e:t.text.toList=a:=by simpa using h
 rw[e];exact c
theorem NH {t a}(h:(t.text.toList==a)=true):Lp t a=true:=h
section
variable {body:List Tk}
theorem PF {t}(a:VC t)(b:t.sort≠2){m}(c:m∈X7):Lp t m.data.toList=false:=by
 unfold Lp;have h:=a m c;rw[ByteArray.toList_eq m]at h;rw[<-h];simp[Zn,b]
theorem UN {i a}(h:body[i]?=J a)(b:Lp a [98,105,110]=false)(c:Lp a [46,46]=false):SG body (i+1)=false:=by
 unfold SG;rw[show i+1-1=i from by omega,Vp h,b,c];simp
theorem Ch {i a b}(h:body[i+2]?=J a)(c:body[i]?=J b)(d:Lp a [98,105,110]=false)(e:Lp b [98,105,110]=false):SG body (i+3)=false:=by
 unfold SG;rw[show i+3-1=i+2 from by omega,show i+3-3=i from by omega,Vp h,Vp c,d,e];simp
theorem Ar {i a}(h:body[i]?=J a)(b:Lp a [98,105,110]=true):SG body (i+1)=true:=by
 unfold SG;rw[show i+1-1=i from by omega,Vp h,b];simp
theorem Ci {i a b}(h:body[i+2]?=J a)(c:body[i]?=J b)(d:Lp a [46,46]=true)(e:Lp b [98,105,110]=true):SG body (i+3)=true:=by
 unfold SG;rw[show i+3-1=i+2 from by omega,show i+3-3=i from by omega,Vp h,Vp c,d,e];simp
theorem VH {i t}(h:body[i]?=J t)(a:t.sort≠1):Xc body i=Yz t:=by
 unfold Xc;rw[Vp h,show decide (t.sort=1)=false from by simpa using a];rfl
theorem XM {i t a}(h:body[i]?=J t)(c:t.sort=2)(b:(t.text.toList==a)=true):Xc body i=a:=by
 rw[VH h (by omega)]
 have e:t.text.toList=a:=by simpa using b
 rw[ByteArray.toList_eq]at e;exact e
theorem Cj {i t}(h:body[i]?=J t)(a:t.sort=1)(b:Dg t.text)(c:1<=t.text.size)(d:SG body i=false):Xc body i=Vf t:=by
 unfold Xc;rw[Vp h,d,show decide (t.sort=1)=true from by simpa using a];exact L7 t b c
theorem L8 {i t}(h:body[i]?=J t)(a:SG body i=true):Xc body i=Yz t:=by
 unfold Xc;rw[Vp h,a];simp[Yz]
end
/-! ### Blanks -/
def TO (s:Bs):Prop:=Uy s=false
theorem E0 {s}(h:TO s):(s==[59])=false/\(s==[46,46])=false:=by
 unfold TO Uy at h;simp only[Bool.or_eq_false_iff]at h;exact⟨h.1.1.1,h.2⟩
theorem Z4 {s}(h:TO s)(r):ZT false false (s::r)=32::(s++ZT false false r)/\ZT true false (s::r)=s++ZT false false r/\ZT false true (s::r)=s++ZT false false r:=by
 have a:=(E0 h).1;have b:=(E0 h).2;have c:Uy s=false:=h
 refine⟨?_,?_,?_⟩<;>simp[ZT,a,b,c]
theorem Fq (f g r):ZT f g ([44]::r)=44::ZT false false r:=by simp[ZT,Uy]
theorem Fs (f g r):ZT f g ([58]::r)=58::ZT false false r:=by simp[ZT,Uy]
theorem L9 (f g r):ZT f g ([46,46]::r)=46::46::ZT false true r:=by simp[ZT,Uy]
theorem Ka (f g r):ZT f g ([59]::r)=59::10::ZT true false r:=by simp[ZT,Uy]
end Go.Proofs.YtccikgogjfbpeaaGreatDoor
