import Derived.Test.YtccikgogjfbpeaaGreatDoorQh
import Derived.Shelf.LaysM
import Derived.Shelf.Strconv.Clone
set_option maxRecDepth 30000
set_option maxHeartbeats 8000000
open Go.Value renaming int->I,string->Y,bool->G,slice->M,pointer->L,oneCell'->W,slice->X
open Go.IntKind renaming i64->J
open Option renaming none->P,some->O
open Go renaming Value->Z,World->U,Calls->R
open Go.World renaming cell?_alloc_some->E,news_of_block->T
open Go.Proofs.Tryz renaming prog->H
open Go.RowKit renaming Hid->D
open Go.Ending renaming returned->N
namespace Go.Proofs
open Go.Shelf
def Qh:Go.Shelf.Ren:=⟨fun|316=>153|n=>n,fun|9=>9|3=>3|4=>4|37=>50|0=>0|127=>201|5=>5|n=>n,fun|n=>n⟩
theorem MP:LaysM.n316 H Qh:={
 mixed:=by kernel_rfl
 f316:=Tryz.func153.trans (congrArg O (by kernel_rfl))
 t0:=Tryz.underlying0
 a0:=Tryz.isAgg0
 z0:=Tryz.sizeOf0
 v0:=Tryz.zeroValue0
 t3:=Tryz.underlying3
 a3:=Tryz.isAgg3
 z3:=Tryz.sizeOf3
 v3:=Tryz.zeroValue3
 t4:=Tryz.underlying4
 a4:=Tryz.isAgg4
 z4:=Tryz.sizeOf4
 v4:=Tryz.zeroValue4
 t9:=Tryz.underlying9
 a9:=Tryz.isAgg9
 z9:=Tryz.sizeOf9
 v9:=Tryz.zeroValue9
 t37:=Tryz.underlying50
 a37:=Tryz.isAgg50
 z37:=Tryz.sizeOf50
 v37:=Tryz.zeroValue50
 t127:=Tryz.underlying201
 a127:=Tryz.isAgg201
 z127:=Tryz.sizeOf201
 v127:=Tryz.zeroValue201
 t5:=Tryz.underlying5
 a5:=Tryz.isAgg5
 z5:=Tryz.sizeOf5
 v5:=Tryz.zeroValue5
 i0:=by kernel_rfl
 i3:=by kernel_rfl
 i4:=by kernel_rfl
 i5:=by kernel_rfl
 i9:=by kernel_rfl
 i37:=by kernel_rfl
 i127:=by kernel_rfl}
namespace YtccikgogjfbpeaaGreatDoor
open Go.RowKit
theorem Ju (s:ByteArray)(w:U)(a:s.size<=3000):R H 153 #[Y s] w fun e w'=>e=N (Y s)/\F0 w w':=
 (Any.stringslite_Clone MP s w (by omega)).mono fun _ _ h=>⟨h.1,Fr.of_below h.2⟩
theorem VS (s:ByteArray)(w:U)(a:s.size<=3000):R H 96 #[Y s] w fun e w'=>e=N (Y s)/\F0 w w':=by
 have c:=Za (Ju s w a);clear a;go_enter Tryz.func96,Tryz.ntmps96;go_wp2_with fail;refine c.o.mono ?_;rintro e f ⟨rfl,b⟩;have d:=Za b;clear b;go_wp2;go_ret;exact⟨rfl,d.o⟩
structure Zc where
 name:ByteArray
 rank:Nat
 digits:Nat
 lo:Nat
 hi:Nat
 mcc:List Nat
 am:Option (Nat×Nat)
 cur:List Nat
 decline:Bool
 cheapest:Bool
 routes:List Nat
 ahead:Nat
def FY (base:Nat)(w:U)(r:Zc)(d:List Z):Prop:=
 ∃a b c,d=[Y r.name,I J r.rank,I J r.digits,I J r.lo,I J r.hi,a,G r.am.isSome,I J (r.am.getD (0,0)).1,I J (r.am.getD (0,0)).2,b,G r.decline,G r.cheapest,c,I J r.ahead]/\
  w.ownsRow base 3 1 a r.mcc.length (Zg r.mcc)/\w.ownsRow base 3 1 b r.cur.length (Zg r.cur)/\w.ownsRow base 3 1 c r.routes.length (Zg r.routes)
def U1 (base:Nat)(w:U):List Zc->List Z->Prop
 |[],xs=>xs=[]
 |r::rs,xs=>∃c a,xs=c++a/\FY base w r c/\U1 base w rs a
theorem FY.keep {base:Nat}{w w':U}{r:Zc}{b:List Z}(h:FY base w r b)(a:∀v n c,w.ownsRow base 3 1 v n c->w'.ownsRow base 3 1 v n c):FY base w' r b:=by
 obtain⟨d,f,g,e,i,j,k⟩:=h;exact⟨d,f,g,e,a _ _ _ i,a _ _ _ j,a _ _ _ k⟩
theorem U1.keep {base:Nat}{w w':U}(b:∀v n a,w.ownsRow base 3 1 v n a->w'.ownsRow base 3 1 v n a):∀{rs:List Zc}{a:List Z},U1 base w rs a->U1 base w' rs a
 |[],_,h=>h
 |_::_,_,⟨c,rest,e,h1,h2⟩=>⟨c,rest,e,h1.keep b,U1.keep b h2⟩
theorem U1.snoc {base:Nat}{w:U}{r:Zc}{c:List Z}(a:FY base w r c):∀{rs:List Zc}{b:List Z},U1 base w rs b->U1 base w (rs++[r]) (b++c)
 |[],_,h=>by
  have f:_=[]:=h;subst f;exact⟨c,[],by simp,a,rfl⟩
 |_::_,_,⟨d,rest,e,h1,h2⟩=>⟨d,rest++c,by rw[e,List.append_assoc],h1,U1.snoc a h2⟩
structure Bk (w:U)(B:Nat)(vr vl:Z)(rts:List Zd)(rls:List Zc)(xs:List Z):Prop where
 c0:w.cell? ⟨B,0,P⟩=O vr
 c1:w.cell? ⟨B,1,P⟩=O vl
 fz:∀o,w.frozen? ⟨B,o,P⟩=false
 ro:w.ownsRow (B+1) 148 3 vr rts.length (YU rts)
 lo:w.ownsRow (B+1) 120 14 vl rls.length xs
 ru:U1 (B+1) w rls xs
 r6:rts.length<=6
 l8:rls.length<=8
theorem Bk.fr {w w':U}{B:Nat}{j l:Z}{b:List Zd}{c:List Zc}{m:List Z}{S:Nat->Prop}(h:Bk w B j l b c m)(a:Fr S w w')(f:∀k,S k->k<B):Bk w' B j l b c m:=by
 have g:B<w.heap.size:=bL w _ h.c0
 have i:¬S B:=fun e=>by have:=f B e;omega
 exact⟨(a.cell (p:=⟨B,0,P⟩) g i).trans h.c0,(a.cell (p:=⟨B,1,P⟩) g i).trans h.c1,fun o=>(a.frozen (p:=⟨B,o,P⟩) g i).trans (h.fz o),
  oF h.ro a (fun k d=>by have:=f k d;omega),oF h.lo a (fun k d=>by have:=f k d;omega),U1.keep (fun v n r q=>oF q a (fun k d=>by have:=f k d;omega)) h.ru,h.r6,h.l8⟩
def ZJ (a:List Zd)(r:Vp):Except (Nat×Nat) Zd:=
 if a.length=6 then .error (6,r.name.line)
 else if 0<=Zk r.name.text 0 a then .error (4,r.name.line)
 else if 1000000<Ze r.base then .error (5,r.base.line)
 else if 1000<Ze r.rate then .error (5,r.rate.line)
 else .ok ⟨r.name.text,Ze r.base,Ze r.rate⟩
def Uf (x:Except (Nat×Nat) Zd)(w:U)(B:Nat)(c:Z)(a:List Zd)(b:List Zc)(d:List Z)(e:Ending)(w':U):Prop:=
 match x with
 | .ok r=>e=N (.tuple #[])/\(∃g,Bk w' B g c (a++[r]) b d)/\Below B w w'
 | .error f=>e=Zj f.1 f.2/\Below B w w'
theorem Uf.ok {x:Except (Nat×Nat) Zd}{w w':U}{B:Nat}{c:Z}{a:List Zd}{b:List Zc}{d:List Z}{e:Ending}{r:Zd}(h:x=.ok r):Uf x w B c a b d e w'↔e=N (.tuple #[])/\(∃f,Bk w' B f c (a++[r]) b d)/\Below B w w':=by subst h;exact Iff.rfl
theorem Uf.err {x:Except (Nat×Nat) Zd}{w w':U}{B:Nat}{c:Z}{a:List Zd}{b:List Zc}{d:List Z}{e:Ending}{f:Nat×Nat}(h:x=.error f):Uf x w B c a b d e w'↔e=Zj f.1 f.2/\Below B w w':=by subst h;exact Iff.rfl
theorem oL {w:U}{base:Nat}{e:TypeId}{b:Nat}{v:Z}{n:Nat}{d:List Z}(h:w.ownsRow base e b v n d):∃a c,v=M a n c:=by
 rcases h.2 with⟨rfl,f⟩|⟨g,cap,i,rfl,_⟩
 ·exact⟨P,0,by rw[f]⟩
 ·exact⟨_,_,rfl⟩
theorem PW:(H.info? 148).map (fun i=>(i.zero,i.size,i.bytes))=O (O (.agg #[Y ByteArray.empty,I J 0,I J 0]),3,32):=by kernel_rfl
end YtccikgogjfbpeaaGreatDoor
end Go.Proofs
namespace Go.Proofs.YtccikgogjfbpeaaGreatDoor
open Go.RowKit
theorem Gy {w i b:U}{B:Nat}{l s V:Z}{a:List Zd}{f:List Zc}{t:List Z}{rt:Zd}(h:Bk w B l s a f t)(c:Below w.heap.size w i)(d:i.grownBy b l.ownBlock)(y:b.ownsRow (B+1) 148 3 V (a.length+1) (YU a++Sk rt)):
  b.cell? ⟨B,0,P⟩=O l/\(∀o,b.frozen? ⟨B,o,P⟩=false)/\(a.length<=5->Bk (b.setCell ⟨B,0,P⟩ V) B V s (a++[rt]) f t/\Below B w (b.setCell ⟨B,0,P⟩ V)):=by
 have r:B<w.heap.size:=bL w _ h.c0
 have g:∀j,j<=B->O j≠l.ownBlock:=fun j D e=>by have:=h.ro.lt j e.symm;omega
 have u:∀o,b.cell? ⟨B,o,P⟩=w.cell? ⟨B,o,P⟩:=fun o=>(d.cell_far ⟨B,o,P⟩ (nL r c.size) (g B (Nat.le_refl _))).trans (c.cell (p:=⟨B,o,P⟩) r)
 have x:∀o,b.frozen? ⟨B,o,P⟩=w.frozen? ⟨B,o,P⟩:=fun o=>(d.frozen_far ⟨B,o,P⟩ (nL r c.size) (g B (Nat.le_refl _))).trans (c.frozen (p:=⟨B,o,P⟩) r)
 have m:i.ownsRow (B+1) 148 3 l a.length (YU a):=oF h.ro (Fr.of_below (S:=fun _=>False) c) (by simp);have z:Below B w b:=(c.mono (by omega)).trans ⟨d.os,d.tape,d.output,d.size,fun k E=>d.block k (nL (by omega) c.size) (g k (by omega))⟩;refine⟨(u 0).trans h.c0,fun o=>(x o).trans (h.fz o),fun F=>⟨⟨?_,?_,fun o=>by simp[x o,h.fz o],?_,?_,?_,by simp;omega,h.l8⟩,z.setCell (by simp) _⟩⟩
 ·exact cS _ _ _ ((u 0).trans h.c0)
 ·rw[cO _ _ _ _ (by simp)];exact(u 1).trans h.c1
 ·rw[PU,lA];exact oB y (by simp) _
 ·have q:i.ownsRow (B+1) 120 14 s f.length t:=oF h.lo (Fr.of_below (S:=fun _=>False) c) (by simp)
  exact oB (q.kept d (WW q m (by decide))) (by simp) _
 ·refine U1.keep (fun v n A C=>?_) h.ru
  have q:i.ownsRow (B+1) 3 1 v n A:=oF C (Fr.of_below (S:=fun _=>False) c) (by simp);exact oB (q.kept d (WW q m (by decide))) (by simp) _
theorem MQ (w:U)(B:Nat)(vr vl:Z)(a:List Zd)(p0:List Zc)(xs:List Z)(r:Vp)(h:Bk w B vr vl a p0 xs)(hn:r.name.text.size<=3000)(hb:Dg r.base.text)(hr:Dg r.rate.text):
  R H 314 #[Uz r,L (O ⟨B,0,P⟩)] w (Uf (ZJ a r) w B vl a p0 xs):=by
 have HK:=Za h;have R0:B<w.heap.size:=bL w _ h.c0;obtain⟨va,vc,rfl⟩:=oL h.ro;obtain⟨ii,hi,K0,L0,M0⟩:=info_parts PW;have N0:=Za hn;have q0:=Za hb;have r0:=Za hr;have c0:=h.c0;have u:D (F0 w (w.alloc (.cells #[I J r.name.sort,Y r.name.text,I J r.name.line,I J r.base.sort,Y r.base.text,I J r.base.line,I J r.rate.sort,Y r.rate.text,I J r.rate.line] 290))):=(Fr.refl _ _).alloc _;clear h hn hb hr;unfold Uz;by_cases h6:a.length=6
 ·have hq:((a.length:Int)==6)=true:=by simp;omega
  have H6:D (ZJ a r=.error (6,r.name.line)):=by show _=_;unfold ZJ;rw[if_pos h6]
  clear h6;go_enter Tryz.func314,Tryz.ntmps314;go_wp2_with fail;refine(YC r.name 6 _ _ (by rfl)).mono ?_;rintro e w9 ⟨l,c⟩;unfold Zj at l;subst l;exact⟨rfl,(Uf.err H6.o).2 ⟨rfl,(u.o.trans c).below (by omega) (by simp)⟩⟩
 ·have hq:((a.length:Int)==6)=false:=by simp;omega
  have H6:=Za h6;clear h6;go_enter Tryz.func314,Tryz.ntmps314;go_wp2_with fail;refine(PV _ B (B+1) _ a r.name.text (HK.o.fr u.o (by simp)).c0 (HK.o.fr u.o (by simp)).ro HK.o.r6).mono ?_;rintro e b ⟨rfl,c⟩;have d:=c.whole (aN w _) (by simp);have s0:=Za (u.o.trans c);have e0:=bC d 0 _ rfl;have e1:=bC d 1 _ rfl;have e2:=bC d 2 _ rfl;have e3:=bC d 3 _ rfl;have e4:=bC d 4 _ rfl;have e5:=bC d 5 _ rfl;have e6:=bC d 6 _ rfl;have e7:=bC d 7 _ rfl;have e8:=bC d 8 _ rfl;have N:=Za d;clear d c c0;by_cases hp:0<=Zk r.name.text 0 a
  ·have HQ:D (ZJ a r=.error (4,r.name.line)):=by show _=_;unfold ZJ;rw[if_neg H6.o,if_pos hp]
   generalize Zk r.name.text 0 a=q at*;go_wp2_with fail;refine(YC r.name 4 _ _ (by rfl)).mono ?_;rintro e w9 ⟨l,c⟩;unfold Zj at l;subst l;exact⟨rfl,(Uf.err HQ.o).2 ⟨rfl,(s0.o.trans c).below (by omega) (by simp)⟩⟩
  ·have HP:=Za hp
   have t0:Zk r.name.text 0 a<0:=by omega
   generalize hg:Zk r.name.text 0 a=q at hp t0;clear hg;have S0:w.heap.size<b.heap.size:=(iA.1 N.o).1;go_wp2_with fail;refine(VS r.name.text _ N0.o).mono ?_;rintro e w2 ⟨rfl,c⟩;have m:=c.whole (((Fr.refl (fun _=>False) _).alloc _).whole N.o (by simp)) (by simp);have v:=c.whole (aN b _) (by simp);have v0:=Za ((s0.o.alloc _).trans c);clear c e0 e1 e2 e3 e4 e5 e6 e7 e8 hp t0;have Q:=Za m;have V:=Za v;have e3:=bC m 3 _ rfl;have e4:=bC m 4 _ rfl;have e5:=bC m 5 _ rfl;have n0:=bC v 0 _ rfl;have nf:=bF v
   have T0:¬w.heap.size=b.heap.size:=by omega
   have P0:¬b.heap.size=w.heap.size:=by omega
   clear m v;go_wp2_with fail;clear e3 e4 e5 n0 nf;have i0:Fr (fun k=>k=b.heap.size) w2 (w2.setCell ⟨b.heap.size,0,P⟩ (Y r.name.text)):=(Fr.refl (fun k=>k=b.heap.size) _).setCell (p:=⟨b.heap.size,0,P⟩) (Or.inl rfl) _;have w0:=Za (i0.whole Q.o (by omega));have x0:D ((w2.setCell ⟨b.heap.size,0,P⟩ (Y r.name.text)).heap[b.heap.size]?=O (.cells #[Y r.name.text,I J 0,I J 0] 148)):=Yl V.o 0 _;have j0:=Za (v0.o.monoNew i0 (fun k hk=>Or.inr (by omega)));clear i0 Q V v0;generalize w2.setCell ⟨b.heap.size,0,P⟩ (Y r.name.text)=w3 at*;by_cases x:1000000<Ze r.base
   ·have HQ:D (ZJ a r=.error (5,r.base.line)):=by show _=_;unfold ZJ;rw[if_neg H6.o,if_neg (by have:=HP.o;omega),if_pos x]
    refine(RF r.base _ 1000000 _ q0.o x (by rfl)).mono ?_;rintro e w9 ⟨l,c⟩;unfold Zj at l;subst l;exact⟨rfl,(Uf.err HQ.o).2 ⟨rfl,(j0.o.trans c).below (by omega) (by simp)⟩⟩
   ·have y0:=Za x
    refine(Sj r.base _ 1000000 _ q0.o (by omega) (by rfl)).mono ?_;rintro e w4 ⟨rfl,c⟩;have n:=c.whole w0.o (by simp);have y:=c.whole x0.o (by simp);have z0:=Za (j0.o.trans c);clear c x w0 x0 j0;have A0:=Za n;have a0:=Za y;have e6:=bC n 6 _ rfl;have e7:=bC n 7 _ rfl;have e8:=bC n 8 _ rfl;have n1:=bC y 1 _ rfl;have nf:=bF y;clear n y;generalize B0:Ze r.base=t at*;have C0:=Za B0;clear B0;go_wp2_with fail;clear e6 e7 e8 n1 nf;have D0:Fr (fun k=>k=b.heap.size) w4 (w4.setCell ⟨b.heap.size,1,P⟩ (I J t)):=(Fr.refl (fun k=>k=b.heap.size) _).setCell (p:=⟨b.heap.size,1,P⟩) (Or.inl rfl) _;have E0:D ((w4.setCell ⟨b.heap.size,1,P⟩ (I J t)).heap[b.heap.size]?=O (.cells #[Y r.name.text,I J t,I J 0] 148)):=Yl a0.o 1 _;have k0:=Za (z0.o.monoNew D0 (fun k hk=>Or.inr (by omega)));clear D0 A0 a0 z0;generalize w4.setCell ⟨b.heap.size,1,P⟩ (I J t)=w5 at*;by_cases z:1000<Ze r.rate
    ·have HQ:D (ZJ a r=.error (5,r.rate.line)):=by show _=_;unfold ZJ;rw[if_neg H6.o,if_neg (by have:=HP.o;omega),C0.o,if_neg y0.o,if_pos z]
     refine(RF r.rate _ 1000 _ r0.o z (by rfl)).mono ?_;rintro e w9 ⟨l,c⟩;unfold Zj at l;subst l;exact⟨rfl,(Uf.err HQ.o).2 ⟨rfl,(k0.o.trans c).below (by omega) (by simp)⟩⟩
    ·have HQ:D (ZJ a r=.ok ⟨r.name.text,t,Ze r.rate⟩):=by show _=_;unfold ZJ;rw[if_neg H6.o,if_neg (by have:=HP.o;omega),C0.o,if_neg y0.o,if_neg z]
     refine(Sj r.rate _ 1000 _ r0.o (by omega) (by rfl)).mono ?_;rintro e w6 ⟨rfl,c⟩;have A:=c.whole E0.o (by simp);have G0:=Za (k0.o.trans c);clear c z E0 k0;have b0:=Za A;have n2:=bC A 2 _ rfl;have nf:=bF A;clear A;generalize Ze r.rate=rv at*;go_wp2_with fail;clear n2 nf;have H0:Fr (fun k=>k=b.heap.size) w6 (w6.setCell ⟨b.heap.size,2,P⟩ (I J rv)):=(Fr.refl (fun k=>k=b.heap.size) _).setCell (p:=⟨b.heap.size,2,P⟩) (Or.inl rfl) _;have l0:D ((w6.setCell ⟨b.heap.size,2,P⟩ (I J rv)).heap[b.heap.size]?=O (.cells #[Y r.name.text,I J t,I J rv] 148)):=Yl b0.o 2 _;have I0:=Za (G0.o.monoNew H0 (fun k hk=>Or.inr (by omega)));clear H0 b0 G0;generalize w6.setCell ⟨b.heap.size,2,P⟩ (I J rv)=s at*;have o0:=Za (HK.o.fr I0.o (by simp));have c0:=o0.o.c0;have m0:=bC l0.o 0 _ rfl;have m1:=bC l0.o 1 _ rfl;have m2:=bC l0.o 2 _ rfl;have V0:=HK.o.r6;have W0:B<s.heap.size:=bL s _ c0;have f0:b.heap.size<s.heap.size:=bL s _ m0;refine wp_region_held_drew (S:=fun w'=>w'.cell? ⟨b.heap.size,0,P⟩=O (Y r.name.text)/\w'.cell? ⟨b.heap.size,1,P⟩=O (I J t)/\w'.cell? ⟨b.heap.size,2,P⟩=O (I J rv)) (by kernel_rfl) ?_ (fun g=>?_)
     ·exact⟨by simpa using m0,by simpa using m1,by simpa using m2⟩
     refine Zf 0 g ?_;go_frame;refine Zf 1 g ?_;go_frame;refine Zf 2 g ?_;go_frame;refine Zf 3 g ?_;go_frame;refine Zf 5 g ?_;go_frame;refine wpAnyH_ready (rs:=[4,6]) (by kernel_rfl) (by simp) ?_;refine Zb rfl (fun K f=>?p1) (Zb rfl (fun K f=>?p2) AllReadyH.nil)
     case' p1=>
      rw[if_pos (by rfl)];go_simp;refine f.out _ _ g (fun _=>?_);clear f K
      try go_frame
      refine SX 6 (fun K f=>?_);go_simp;refine f.out _ _ (by simp[*,E]) (fun g=>?_)
     case' p2=>
      rw[if_pos (by rfl)];go_simp;refine f.out _ _ (by simp[*,E]) (fun g=>?_);clear f K
      try go_frame
      refine SX 4 (fun K f=>?_)
      have O0:=fun o=>(E s ⟨B,0,P⟩ o (by simp[c0])).trans c0
      go_simp;refine f.out _ _ g (fun _=>?_);clear O0
     all_goals
      clear f K
      try go_frame
      refine wpAnyH_ready (rs:=[7]) (by kernel_rfl) (by simp) ?_;refine Zb rfl (fun K f=>?_) AllReadyH.nil;refine step_append_lies _ rfl (.tmp 40) (.tmp 42) 86 rfl (B+1) 148 ii _ 3 32 Tryz.underlying86 hi K0 L0 M0 rfl (by decide) (M va a.length vc) a.length (YU a) rfl ?h1 ⟨s.heap.size,0,P⟩ 1 1 [Y r.name.text,I J t,I J rv] rfl rfl ?h2 ?h3 (by decide) ?h4 ?h5 ?h6 _ rfl ?h7
      case h1=>exact(o0.o.ro.alloc _).drew
      case h2=>exact T (aN s _)
      case h3=>simp[W]
      case h4=>unfold maxLen;omega
      case h5=>omega
      case h6=>simp;omega
      case h7=>
       intro g2 Q0 w8 g0 i _ _;have C:Below s.heap.size s (s.alloc (.cells #[Y r.name.text,I J t,I J rv] 148)).drew:=((Below.refl _ _).alloc (Nat.le_refl _) _).drew;have F:=Gy (rt:=⟨r.name.text,t,rv⟩) o0.o C i g0;have d0:=F.1;have df:=F.2.1;have J0:=Za (F.2.2 (by have:=H6.o;omega))
       have h0:O b.heap.size≠(X va a.length vc).ownBlock:=fun e=>by have:=(HK.o.ro.lt _ e.symm).2;omega
       have G:∀j,w8.cell? ⟨b.heap.size,j,P⟩=s.cell? ⟨b.heap.size,j,P⟩:=fun j=>(i.cell_far ⟨b.heap.size,j,P⟩ (nL f0 C.size) h0).trans (C.cell (p:=⟨b.heap.size,j,P⟩) f0)
       clear F i g0 C h0;refine f.out _ _ ⟨(G 0).trans m0,(G 1).trans m1,(G 2).trans m2⟩ (fun g=>?_);clear f K G;go_frame;refine Zf 8 g ?_;go_frame;refine Zf 9 g ?_;go_frame;refine SX 10 (fun K f=>?_);go_simp;refine f.out _ _ ?_ (fun _=>?_)
       ·have hx:∀o,(⟨B,0,P⟩:Addr)≠⟨b.heap.size,o,P⟩:=fun o e=>by injection e with e1;omega
        exact⟨(cO _ _ _ _ (hx 0)).trans g.1,(cO _ _ _ _ (hx 1)).trans g.2.1,(cO _ _ _ _ (hx 2)).trans g.2.2⟩
       clear f K
       try go_frame
       refine wpAnyH_done (by kernel_rfl) ?_ _;go_wp2
       go_end0
       exact(Uf.ok HQ.o).2 ⟨rfl,⟨_,J0.o.1⟩,(I0.o.below (by omega) (by simp)).trans J0.o.2⟩
end Go.Proofs.YtccikgogjfbpeaaGreatDoor
namespace Go.Proofs.YtccikgogjfbpeaaGreatDoor
open Go.RowKit
theorem FY.length {base:Nat}{w:U}{r:Zc}{c:List Z}(h:FY base w r c):c.length=14:=by
 obtain⟨_,_,_,rfl,_⟩:=h;rfl
theorem LM {base:Nat}{w:U}:∀{rs:List Zc}{a:List Z}{j:Nat}{r:Zc},U1 base w rs a->rs[j]?=O r->∃c,FY base w r c/\∀k,k<14->a[j*14+k]?=c[k]?
 |[],_,j,_,_,hj=>by simp at hj
 |x::rs,a,0,r,⟨c,rest,e,h1,h2⟩,hj=>by
  simp at hj;subst hj;refine⟨c,h1,fun k f=>?_⟩;have g:=h1.length;rw[e,Nat.zero_mul,Nat.zero_add,List.getElem?_append_left (by omega)]
 |x::rs,a,j+1,r,⟨c,rest,e,h1,h2⟩,hj=>by
  obtain⟨d,h,f⟩:=LM (j:=j) h2 (by simpa using hj);refine⟨d,h,fun k b=>?_⟩;have g:=h1.length;rw[e,aR (by omega),g,show(j+1)*14+k-14=j*14+k from by omega];exact f k b
def XT (a:ByteArray):List Zc->Bool
 |[]=>false
 |r::rs=>if(r.name.toList==a.toList)=true then true else XT a rs
theorem LO (w:U)(B:Nat)(vr vl:Z)(T:List Zd)(a:List Zc)(xs:List Z)(d:ByteArray)(h:Bk w B vr vl T a xs):
  R H 319 #[L (O ⟨B,0,P⟩),Y d] w fun e w'=>e=N (G (XT d a))/\F0 w w':=by
 have c1:=h.c1;have a0:=h.l8;by_cases hn:0<a.length
 ·obtain⟨g,cap,rfl,hb,hl⟩:=h.lo.form hn
  have f:∀k,(⟨g,0,P⟩:Addr).add k=⟨g,k,P⟩:=fun k=>by unfold Addr.add;split<;>simp_all
  have HR:D (∀j r,a[j]?=O r->∃n q s t u x y z A,w.rangeAt g (j*14) [Y r.name,I J r.rank,I J r.digits,I J r.lo,I J r.hi,M n q s,G r.am.isSome,I J (r.am.getD (0,0)).1,I J (r.am.getD (0,0)).2,M t u x,G r.decline,G r.cheapest,M y z A,I J r.ahead]):=fun j r hj=>by
   obtain⟨c,⟨vm,vc,vp,rfl,h1,h2,h3⟩,hk⟩:=LM h.ru hj;obtain⟨n,q,s,rfl⟩:=ZD h1;obtain⟨t,u,x,rfl⟩:=ZD h2;obtain⟨y,z,A,rfl⟩:=ZD h3;refine⟨n,q,s,t,u,x,y,z,A,fun k v Q=>?_⟩;have l:k<14:=(iG.1 Q).1;have:=h.lo.cells (g:=g) rfl (j*14+k) v (by rw[hk k l];exact Q)
   rwa [f]at this
  clear h hn f
  have i:D ((H.info? 120).map (·.size)=O 14):=by show _=_;kernel_rfl
  go_enter Tryz.func319,Tryz.ntmps319;go_wp2_with fail
  go_loopg [6,12] a.length (fun m _ c wr=>∃j,j<=a.length/\m=a.length-j/\c=I J j/\D (F0 w wr)/\D (XT d a=XT d (a.drop j)))
  case atStart=>exact⟨0,Nat.zero_le _,rfl,rfl,Fr.refl _ _,rfl⟩
  case round=>
   obtain⟨j,hj,rfl,rfl,S,V⟩:=hrel;by_cases l:j<a.length
   ·obtain⟨r,W⟩:∃r,a[j]?=O r:=⟨_,gE l⟩
    obtain⟨n,q,s,t,u,x,y,z,A,C⟩:=HR.o j r W
    have HG:D (wr.rangeAt g (j*14) [Y r.name,I J r.rank,I J r.digits,I J r.lo,I J r.hi,M n q s,G r.am.isSome,I J (r.am.getD (0,0)).1,I J (r.am.getD (0,0)).2,M t u x,G r.decline,G r.cheapest,M y z A,I J r.ahead]):=fun k v Q=>by rw[S.o.cell (p:=⟨g,j*14+k,P⟩) hl (by simp)];exact C k v Q
    have X:(j:Int)<(a.length:Int):=by omega
    have b:D (a.drop j=r::a.drop (j+1)):=by
     obtain⟨E,he⟩:=iG.1 W
     show _=_
     rw[dC E,he]
    clear W c1 C
    cases hq:(r.name.toList==d.toList)with
    |true=>
     have F:D (XT d a=true):=by show _=_;rw[V.o,b.o];simp only[XT];rw[if_pos hq]
     go_wp2_with (first|(refine wpList_load_mid rfl 120 _ rfl g (j*14) rfl _ _ HG.o Tryz.underlying120 rfl i.o ?_))
     go_ret;exact⟨by rw[F.o];rfl,S.o.alloc _⟩
    |false=>
     have F:D (XT d a=XT d (a.drop (j+1))):=by show _=_;rw[V.o,b.o];simp only[XT];rw[if_neg (by simp[hq])]
     go_wp2_with (first|(refine wpList_load_mid rfl 120 _ rfl g (j*14) rfl _ _ HG.o Tryz.underlying120 rfl i.o ?_))
     go_roundg (a.length-(j+1))
     case measure=>omega
     case rel=>exact⟨j+1,by omega,rfl,by go_num,S.o.alloc _,F⟩
   ·have X:¬(j:Int)<(a.length:Int):=by omega
    have F:D (XT d a=false):=by show _=_;rw[V.o,dL (by omega)];rfl
    clear c1;go_wp2;go_ret;exact⟨by rw[F.o];rfl,S.o⟩
 ·have hz:a=[]:=List.eq_nil_of_length_eq_zero (by omega)
  subst hz;have K:=h.lo;rcases K.2 with⟨rfl,_⟩|⟨g,cap,b0,rfl,_⟩
  all_goals
   clear h K;go_enter Tryz.func319,Tryz.ntmps319;go_wp2_with fail
   go_loopg [6,12] 1 (fun m _ c wr=>m=1/\c=I J 0/\wr=w)
   case atStart=>exact⟨rfl,rfl,rfl⟩
   case round=>
    obtain⟨rfl,rfl,rfl⟩:=hrel;clear c1;go_wp2;go_ret;exact⟨rfl,Fr.refl _ _⟩
end Go.Proofs.YtccikgogjfbpeaaGreatDoor
