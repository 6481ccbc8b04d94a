import Derived.Test.YtccikgogjfbpeaaGreatDoorQi
open Go.Value renaming slice->I,int->Y,bool->H,string->D,oneCell'->A
open Option renaming none->J,some->O
open Go.IntKind renaming i64->Z
open Go renaming Value->U,World->M,Calls->W
open Go.RowKit renaming Hid->G
open And renaming intro->T
open Go.Obj renaming cells->L
namespace Go.Proofs.YtccikgogjfbpeaaGreatDoor
set_option maxRecDepth 30000
set_option maxHeartbeats 8000000
open Go.RowKit
def Ym (b:List Zd)(c:List Zc)(r:XX):Except (Nat×Nat) Zc:=
 if c.length=8 then .error (6,r.name.line)
 else if XT r.name.text c=true then .error (4,r.name.line)
 else if 1000<Ze r.rank then .error (5,r.rank.line)
 else if 6<r.bin.1.text.size then .error (5,r.bin.1.line)
 else if r.bin.2.text.size≠r.bin.1.text.size then .error (5,r.bin.2.line)
 else if¬Ze r.bin.1<=Ze r.bin.2 then .error (5,r.bin.2.line)
 else match Zr 9999 0 r.mcc with
 | .error f=>.error f
 | .ok d=>if r.amount.any (fun a=>decide (¬Ze a.1<=Ze a.2))=true then .error (5,(r.amount.map (fun a=>a.2.line)).getD 0)
  else match Zr 999 0 r.cur with
  | .error f=>.error f
  | .ok e=>match ZC b 0 r.act.routes with
   | .error f=>.error f
   | .ok g=>.ok ⟨r.name.text,Ze r.rank,r.bin.1.text.size,Ze r.bin.1,Ze r.bin.2,d,r.amount.map (fun a=>(Ze a.1,Ze a.2)),e,r.act.decline,r.act.cheapest,g,b.length⟩
theorem Nv:(Tryz.prog.info? 120).map (fun i=>(i.zero,i.size,i.bytes))=O (O (.agg #[D ByteArray.empty,Y Z 0,Y Z 0,Y Z 0,Y Z 0,I J 0 0,H false,Y Z 0,Y Z 0,I J 0 0,H false,H false,I J 0 0,Y Z 0]),14,160):=by kernel_rfl
def U2 (x:Except (Nat×Nat) Zc)(w:M)(B:Nat)(d:U)(a:List Zd)(b:List Zc)(g:List U)(e:Ending)(w':M):Prop:=
 match x with
 | .ok r=>e=.returned (.tuple #[])/\(∃h c,Bk w' B d h a (b++[r]) (g++c))/\Below B w w'
 | .error f=>e=Zj f.1 f.2/\Below B w w'
theorem U2.ok {x:Except (Nat×Nat) Zc}{w w':M}{B:Nat}{d:U}{a:List Zd}{b:List Zc}{f:List U}{e:Ending}{r:Zc}(h:x=.ok r):U2 x w B d a b f e w'↔e=.returned (.tuple #[])/\(∃g c,Bk w' B d g a (b++[r]) (f++c))/\Below B w w':=by subst h;exact Iff.rfl
theorem U2.err {x:Except (Nat×Nat) Zc}{w w':M}{B:Nat}{c:U}{a:List Zd}{b:List Zc}{d:List U}{e:Ending}{f:Nat×Nat}(h:x=.error f):U2 x w B c a b d e w'↔e=Zj f.1 f.2/\Below B w w':=by subst h;exact Iff.rfl
theorem Jv {w l b:M}{B:Nat}{x m V:U}{d:List Zd}{a:List Zc}{s:List U}{C:Zc}{c:List U}(h:Bk w B x m d a s)(y:FY (B+1) w C c)(f:Below w.heap.size w l)(g:l.grownBy b m.ownBlock)(E:b.ownsRow (B+1) 120 14 V (a.length+1) (s++c)):
  b.cell? ⟨B,1,J⟩=O m/\(∀o,b.frozen? ⟨B,o,J⟩=false)/\(a.length<=7->Bk (b.setCell ⟨B,1,J⟩ V) B x V d (a++[C]) (s++c)/\Below B w (b.setCell ⟨B,1,J⟩ V)):=by
 have t:B<w.heap.size:=bL w _ h.c0
 have i:∀j,j<=B->O j≠m.ownBlock:=fun j H e=>by have:=h.lo.lt j e.symm;omega
 have z:∀o,b.cell? ⟨B,o,J⟩=w.cell? ⟨B,o,J⟩:=fun o=>(g.cell_far ⟨B,o,J⟩ (nL t f.size) (i B (Nat.le_refl _))).trans (f.cell (p:=⟨B,o,J⟩) t)
 have D:∀o,b.frozen? ⟨B,o,J⟩=w.frozen? ⟨B,o,J⟩:=fun o=>(g.frozen_far ⟨B,o,J⟩ (nL t f.size) (i B (Nat.le_refl _))).trans (f.frozen (p:=⟨B,o,J⟩) t)
 have q:l.ownsRow (B+1) 120 14 m a.length s:=oF h.lo (Fr.of_below (S:=fun _=>False) f) (by simp);have F:Below B w b:=(f.mono (by omega)).trans ⟨g.os,g.tape,g.output,g.size,fun k A=>g.block k (nL (by omega) f.size) (i k (by omega))⟩
 have A:∀v n u,w.ownsRow (B+1) 3 1 v n u->(b.setCell ⟨B,1,J⟩ V).ownsRow (B+1) 3 1 v n u:=fun v n u G=>by
  have r:l.ownsRow (B+1) 3 1 v n u:=oF G (Fr.of_below (S:=fun _=>False) f) (by simp);exact oB (r.kept g (WW r q (by decide))) (by simp) _
 refine⟨(z 1).trans h.c1,fun o=>(D o).trans (h.fz o),fun I=>⟨⟨?_,?_,fun o=>by simp[D o,h.fz o],?_,?_,U1.snoc (y.keep A) (U1.keep A h.ru),h.r6,by simp;omega⟩,F.setCell (by simp) _⟩⟩
 ·rw[cO _ _ _ _ (by simp)];exact(z 0).trans h.c0
 ·exact cS _ _ _ ((z 1).trans h.c1)
 ·have r:l.ownsRow (B+1) 148 3 x d.length (YU d):=oF h.ro (Fr.of_below (S:=fun _=>False) f) (by simp)
  exact oB (r.kept g (WW r q (by decide))) (by simp) _
 ·rw[lA];exact oB E (by simp) _
structure UK (w wc:M)(N:Nat)(es cs:Array U)(rs:List (U×List Nat)):Prop where
 fr:F0 w wc
 he:wc.heap[w.heap.size]?=O (L es 295)
 hn:wc.heap[N]?=O (L cs 120)
 nl:w.heap.size<N
 ro:∀x,x∈rs->wc.ownsRow (N+1) 3 1 x.1 x.2.length (Zg x.2)
section
variable {w wc wd:M} {N:Nat} {es cs:Array U} {rs:List (U×List Nat)}
theorem UK.lt (h:UK w wc N es cs rs):N<wc.heap.size:=(iA.1 h.hn).1
theorem UK.step (h:UK w wc N es cs rs)(a:F0 wc wd):UK w wd N es cs rs:=⟨h.fr.trans a,a.whole h.he (by simp),a.whole h.hn (by simp),h.nl,fun x b=>oF (h.ro x b) a (by simp)⟩
theorem UK.write (h:UK w wc N es cs rs)(j:Nat)(u:U):UK w (wc.setCell ⟨N,j,J⟩ u) N es (cs.setIfInBounds j u) rs:=
 have a:Fr (fun k=>k=N) wc (wc.setCell ⟨N,j,J⟩ u):=(Fr.refl (fun k=>k=N) _).setCell (p:=⟨N,j,J⟩) (Or.inl rfl) _;have c:=h.nl
 ⟨h.fr.monoNew a (fun k d=>Or.inr (by omega)),a.whole h.he (by omega),Yl h.hn j u,h.nl,fun x b=>oB (h.ro x b) (by simp) u⟩
theorem UK.row {v:U}{l:List Nat}(h:UK w wc N es cs rs)(c:F0 wc wd)(d:wd.ownsRow wc.heap.size 3 1 v l.length (Zg l)):UK w wd N es cs ((v,l)::rs):=
 have a:=h.step c
 ⟨a.fr,a.he,a.hn,a.nl,fun x b=>by
  rcases List.mem_cons.1 b with rfl|b
  ·exact oS d h.lt
  ·exact a.ro x b⟩
end
theorem ZX {w:M}{P:Nat}{v0 v1 v2 v3 e f g i j k a b c d:U}{t:TypeId}(h:w.heap[P]?=O (L #[v0,v1,v2,v3,e,f,g,i,j,k,a,b,c,d] t)):w.cell? ⟨P,0,J⟩=O v0/\w.cell? ⟨P,1,J⟩=O v1/\w.cell? ⟨P,2,J⟩=O v2/\w.cell? ⟨P,3,J⟩=O v3/\w.cell? ⟨P,4,J⟩=O e/\w.cell? ⟨P,5,J⟩=O f/\w.cell? ⟨P,6,J⟩=O g/\w.cell? ⟨P,7,J⟩=O i/\w.cell? ⟨P,8,J⟩=O j/\w.cell? ⟨P,9,J⟩=O k/\w.cell? ⟨P,10,J⟩=O a/\w.cell? ⟨P,11,J⟩=O b/\w.cell? ⟨P,12,J⟩=O c/\w.cell? ⟨P,13,J⟩=O d:=⟨bC h 0 _ rfl,bC h 1 _ rfl,bC h 2 _ rfl,bC h 3 _ rfl,bC h 4 _ rfl,bC h 5 _ rfl,bC h 6 _ rfl,bC h 7 _ rfl,bC h 8 _ rfl,bC h 9 _ rfl,bC h 10 _ rfl,bC h 11 _ rfl,bC h 12 _ rfl,bC h 13 _ rfl⟩
theorem CW {α:Type}{c:Prop}[Decidable c]{a b x:α}(h:G ((if c then a else b)=x))(d:¬c):G (b=x):=by have e:=h.o;rw[if_neg d]at e;exact e
theorem CX {α:Type}{c:Prop}[Decidable c]{a b x:α}(h:G ((if c then a else b)=x))(d:c):G (a=x):=by have e:=h.o;rw[if_pos d]at e;exact e
theorem cf {P:Program}{f:FuncId}{a:Array U}{w:M}{E:Ending}{R:M->Prop}{Q:Ending->M->Prop}(h:W P f a w fun e w'=>e=E/\R w')(k:∀w',R w'->Q E w'):W P f a w Q:=
 h.mono (by rintro e w' ⟨rfl,b⟩;exact k w' b)
theorem U3 {X:Except (Nat×Nat) Zc}{w wc w':M}{B:Nat}{c:U}{a:List Zd}{b:List Zc}{d:List U}{f:Nat×Nat}(e:G (.error f=X))(i:B<w.heap.size)(g:F0 w wc)(h:F0 wc w'):U2 X w B c a b d (Zj f.1 f.2) w':=
 (U2.err e.o.symm).2 ⟨rfl,(g.trans h).below (by omega) (by simp)⟩
def Em (r:XX):Tk×Tk:=r.amount.getD (⟨0,⟨#[]⟩,0⟩,⟨0,⟨#[]⟩,0⟩)
def Qi (r:XX)(a:Bool)(b c:Tk)(d e f:U):Array U:=#[Y Z r.name.sort,D r.name.text,Y Z r.name.line,Y Z r.rank.sort,D r.rank.text,Y Z r.rank.line,Y Z r.bin.1.sort,D r.bin.1.text,Y Z r.bin.1.line,Y Z r.bin.2.sort,D r.bin.2.text,Y Z r.bin.2.line,d,e,H a,Y Z b.sort,D b.text,Y Z b.line,Y Z c.sort,D c.text,Y Z c.line,H r.act.decline,H r.act.cheapest,f]
def Un (b:ByteArray)(rk c lo d:Int)(e:U)(a:Bool)(f g:Int)(h:U)(i j:Bool)(k:U)(n:Int):Array U:=#[D b,Y Z rk,Y Z c,Y Z lo,Y Z d,e,H a,Y Z f,Y Z g,h,H i,H j,k,Y Z n]
theorem En (r:XX)(a b c:U):QL r a b c=.agg (Qi r r.amount.isSome (Em r).1 (Em r).2 a b c):=by
 unfold QL Em Qi
 cases r.amount<;>rfl
theorem LP (w:M)(B b0:Nat)(vr vl:U)(j:List Zd)(s:List Zc)(xs:List U)(r:XX)(vm vc vp:U)(h:Bk w B vr vl j s xs)
  (a:r.name.text.size<=3000)(dr:Dg r.rank.text)(d1:Dg r.bin.1.text)(d2:Dg r.bin.2.text)(dm:∀t,t∈r.mcc->Dg t.text)(dc:∀t,t∈r.cur->Dg t.text)(da:∀u,r.amount=O u->Dg u.1.text/\Dg u.2.text)
  (hm:w.ownsRow b0 263 3 vm r.mcc.length (Yb r.mcc))(hc:w.ownsRow b0 263 3 vc r.cur.length (Yb r.cur))(hp:w.ownsRow b0 263 3 vp r.act.routes.length (Yb r.act.routes))
  (fm:r.mcc.length<=4000)(fc:r.cur.length<=4000)(fp:r.act.routes.length<=4000):
  W Tryz.prog 318 #[QL r vm vc vp,.pointer (O ⟨B,0,J⟩)] w (U2 (Ym j s r) w B vr j s xs):=by
 obtain⟨m1,m2,m3,rfl⟩:=ZD hm;obtain⟨c1,c2,c3,rfl⟩:=ZD hc;obtain⟨p1,p2,p3,rfl⟩:=ZD hp;obtain⟨la,lc,rfl⟩:=oL h.lo;obtain⟨ra,rc,rfl⟩:=oL h.ro;obtain⟨ii,H0,I0,J0,K0⟩:=info_parts Nv;obtain⟨X,hX⟩:∃X,Ym j s r=X:=⟨_,rfl⟩;rw[hX,En];unfold Ym at hX;have i:=Za hX
 have w0:G (r.amount=if r.amount.isSome=true then O ((Em r).1,(Em r).2)else J):=by show _=_;unfold Em;cases r.amount<;>rfl
 have x0:G (r.amount.isSome=true->Dg (Em r).1.text/\Dg (Em r).2.text):=fun e=>by
  unfold Em
  cases q:r.amount with
  |none=>rw[q]at e;cases e
  |some u=>exact da u q
 generalize(Em r).1=aa at*;generalize(Em r).2=u at*;generalize y0:r.amount.isSome=m at*;have HK:=Za h;have x:B<w.heap.size:=bL w _ h.c0;have HD:=Za (T a (T dr (T d1 (T d2 (T dm dc)))));have HR:=Za (T hm (T hc hp));have o0:G (r.mcc.length<=4000/\r.cur.length<=4000/\r.act.routes.length<=4000):=⟨fm,fc,fp⟩;have p0:=h.c1;have q0:G (F0 w (w.alloc (L (Qi r m aa u (I m1 m2 m3) (I c1 c2 c3) (I p1 p2 p3)) 295))):=(Fr.refl _ _).alloc _;have g0:=Za (aN w (L (Qi r m aa u (I m1 m2 m3) (I c1 c2 c3) (I p1 p2 p3)) 295));clear h a dr d1 d2 dm dc da hm hc hp fm fc fp hX y0;have e0:=bC g0.o 0 _ rfl;have e1:=bC g0.o 1 _ rfl;have e2:=bC g0.o 2 _ rfl;go_enter Tryz.func318,Tryz.ntmps318;by_cases h8:s.length=8
 ·have hq:((s.length:Int)==8)=true:=by simp;omega
  have i:=CX i h8;clear h8;go_wp2_with fail;refine cf (YC r.name 6 _ _ (by rfl)) ?_
  exact fun w9 c=>show _/\_ from⟨rfl,U3 i x q0.o c⟩
 have i:=CW i h8;have H8:=Za h8
 have hq:((s.length:Int)==8)=false:=by simp;omega
 clear h8;go_wp2_with fail
 refine cf (LO _ B _ _ j s xs r.name.text (HK.o.fr q0.o (by simp))) fun l c=>?_
 have a0:=Za (c.whole g0.o (by simp));have z0:=Za (q0.o.trans c);have L0:w.heap.size<l.heap.size:=(iA.1 a0.o).1;clear e0 e1 e2;have e0:=bC a0.o 0 _ rfl;have e1:=bC a0.o 1 _ rfl;have e2:=bC a0.o 2 _ rfl;clear c p0
 cases hh:XT r.name.text s with
 |true=>
  have i:=CX i hh;clear hh;go_wp2_with fail;refine cf (YC r.name 4 _ _ (by rfl)) ?_
  exact fun w9 c=>show _/\_ from⟨rfl,U3 i x z0.o c⟩
 |false=>
  have i:=CW i (by rw[hh];simp);clear hh
  have r1:¬w.heap.size=l.heap.size:=by omega
  have v1:¬l.heap.size=w.heap.size:=by omega
  go_wp2_with fail
  refine cf (VS r.name.text _ HD.o.1) fun w2 c=>?_
  have S2:G (UK w w2 l.heap.size _ (Un ⟨#[]⟩ 0 0 0 0 (I J 0 0) false 0 0 (I J 0 0) false false (I J 0 0) 0) []):=⟨(z0.o.alloc _).trans c,c.whole (((Fr.refl (fun _=>False) _).alloc _).whole a0.o (by simp)) (by simp),c.whole (aN l _) (by simp),L0,by simp⟩;clear c e0 e1 e2 a0;have b:=S2.o.he;unfold Qi at b;have a:=S2.o.hn;unfold Un at a;have n0:=bC a 0 _ rfl;have E:=bF a;have e3:=bC b 3 _ rfl;have e4:=bC b 4 _ rfl;have e5:=bC b 5 _ rfl;clear a b;go_wp2_with fail;clear E n0 e3 e4 e5;have S3:G (UK w _ l.heap.size _ (Un r.name.text 0 0 0 0 (I J 0 0) false 0 0 (I J 0 0) false false (I J 0 0) 0) _):=S2.o.write 0 (D r.name.text);clear S2;generalize w2.setCell ⟨l.heap.size,0,J⟩ (D r.name.text)=w3 at*;by_cases y:1000<Ze r.rank
  ·refine cf (RF r.rank _ 1000 _ HD.o.2.1 y (by rfl)) ?_
   exact fun w9 c=>show _/\_ from⟨rfl,U3 (CX i y) x S3.o.fr c⟩
  have i:=CW i y
  refine cf (Sj r.rank _ 1000 _ HD.o.2.1 (by omega) (by rfl)) fun w4 c=>?_
  have S4:=Za (S3.o.step c);clear c y S3;generalize Ze r.rank=rk at*;have b:=S4.o.he;unfold Qi at b;have a:=S4.o.hn;unfold Un at a;have n1:=bC a 1 _ rfl;have E:=bF a;have e6:=bC b 6 _ rfl;have e7:=bC b 7 _ rfl;have e8:=bC b 8 _ rfl;have e9:=bC b 9 _ rfl;have r0:=bC b 10 _ rfl;have s0:=bC b 11 _ rfl;clear a b;go_wp2_with fail;clear E n1 e6 e7 e8 e9 r0 s0;have S5:G (UK w _ l.heap.size _ (Un r.name.text rk 0 0 0 (I J 0 0) false 0 0 (I J 0 0) false false (I J 0 0) 0) _):=S4.o.write 1 (Y Z rk);clear S4;generalize w4.setCell ⟨l.heap.size,1,J⟩ (Y Z rk)=w5 at*;by_cases y:6<r.bin.1.text.size
  ·refine cf (LH r.bin.1 r.bin.2 _ y) ?_
   exact fun w9 c=>show _/\_ from⟨rfl,U3 (CX i y) x S5.o.fr c⟩
  have i:=CW i y;by_cases d0:r.bin.2.text.size=r.bin.1.text.size
  rotate_left
  ·refine cf (MK r.bin.1 r.bin.2 _ (by omega) d0) ?_
   exact fun w9 c=>show _/\_ from⟨rfl,U3 (CX i d0) x S5.o.fr c⟩
  have i:=CW i (fun e=>e d0)
  refine cf (Gx r.bin.1 r.bin.2 _ (by omega) d0) fun w6 c=>?_
  have S6:=Za (S5.o.step c);clear c y d0 S5;have b:=S6.o.he;unfold Qi at b;have a:=S6.o.hn;unfold Un at a;have n2:=bC a 2 _ rfl;have E:=bF a;have e6:=bC b 6 _ rfl;have e7:=bC b 7 _ rfl;have e8:=bC b 8 _ rfl;have e9:=bC b 9 _ rfl;have r0:=bC b 10 _ rfl;have s0:=bC b 11 _ rfl;clear a b;go_wp2_with fail;clear E n2 e6 e7 e8 e9 r0 s0;have S7:G (UK w _ l.heap.size _ (Un r.name.text rk r.bin.1.text.size 0 0 (I J 0 0) false 0 0 (I J 0 0) false false (I J 0 0) 0) _):=S6.o.write 2 (Y Z r.bin.1.text.size);clear S6;generalize w6.setCell ⟨l.heap.size,2,J⟩ (Y Z r.bin.1.text.size)=w7 at*;refine(LI r.bin.1 r.bin.2 _ HD.o.2.2.1 HD.o.2.2.2.1).mono ?_;rintro e w8 ⟨hs,c⟩;by_cases y:Ze r.bin.1<=Ze r.bin.2
  rotate_left
  ·obtain rfl:=(Vu.bad y).1 hs
   exact show _/\_ from⟨rfl,U3 (CX i y) x S7.o.fr c⟩
  obtain rfl:=(Vu.ok y).1 hs;have i:=CW i (fun e=>e y);have S8:=Za (S7.o.step c);clear c y hs S7;generalize Ze r.bin.1=lo at*;generalize Ze r.bin.2=hi at*;simp only[RG];have b:=S8.o.he;unfold Qi at b;have a:=S8.o.hn;unfold Un at a;have n3:=bC a 3 _ rfl;have n4:=bC a 4 _ rfl;have E:=bF a;have M0:=bC b 12 _ rfl;clear a b;go_wp2_with fail;clear E n3 n4 M0;have S9:G (UK w _ l.heap.size _ (Un r.name.text rk r.bin.1.text.size lo hi (I J 0 0) false 0 0 (I J 0 0) false false (I J 0 0) 0) _):=(S8.o.write 3 (Y Z lo)).write 4 (Y Z hi);clear S8;generalize(w8.setCell ⟨l.heap.size,3,J⟩ (Y Z lo)).setCell ⟨l.heap.size,4,J⟩ (Y Z hi)=x1 at*;refine(QP _ b0 _ r.mcc 9999 _ (oF HR.o.1 S9.o.fr (by simp)) HD.o.2.2.2.2.1 o0.o.1 (by rfl)).mono ?_;intro e N0 hT
  cases F:Zr 9999 0 r.mcc with
  |error f=>
   obtain⟨rfl,c⟩:=(Wh.err F).1 hT;rw[F]at i
   exact show _/\_ from⟨rfl,U3 i x S9.o.fr c⟩
  |ok f0=>
   obtain⟨⟨v,rfl,d⟩,c⟩:=(Wh.ok F).1 hT;obtain⟨q1,q2,q3,rfl⟩:=ZD d;rw[F]at i
   dsimp only at i
   have h0:=Za (S9.o.row c d);clear c hT F d S9;have b:=h0.o.he;unfold Qi at b;have a:=h0.o.hn;unfold Un at a;have n5:=bC a 5 _ rfl;have E:=bF a;have O0:=bC b 14 _ rfl;clear a b
   go_upto_if 44 with fail
   clear E n5 O0;have n:G (UK w _ l.heap.size _ (Un r.name.text rk r.bin.1.text.size lo hi (I q1 q2 q3) false 0 0 (I J 0 0) false false (I J 0 0) 0) _):=h0.o.write 5 (I q1 q2 q3);clear h0;generalize N0.setCell ⟨l.heap.size,5,J⟩ (I q1 q2 q3)=P0 at*;obtain⟨am,A0⟩:∃am,r.amount.map (fun u=>(Ze u.1,Ze u.2))=am:=⟨_,rfl⟩;have HM:=Za A0;clear A0
   go_cut [] (fun wx=>G (am.isSome=m)/\G (¬r.amount.any (fun u=>decide (¬Ze u.1<=Ze u.2))=true)/\G (UK w wx l.heap.size (Qi r m aa u (I m1 m2 m3) (I c1 c2 c3) (I p1 p2 p3)) (Un r.name.text rk r.bin.1.text.size lo hi (I q1 q2 q3) m (am.getD (0,0)).1 (am.getD (0,0)).2 (I J 0 0) false false (I J 0 0) 0) [(I q1 q2 q3,f0)]))
   case first=>
    cases m with
    |false=>
     have e:r.amount=J:=w0.o
     have e2:am=J:=by have:=HM.o;rw[e]at this;exact this.symm
     go_wp2_with fail;go_meet;subst e2;exact⟨rfl,by show¬_;rw[e];simp,n⟩
    |true=>
     have e:r.amount=O (aa,u):=w0.o
     have e2:am=O (Ze aa,Ze u):=by have:=HM.o;rw[e]at this;exact this.symm
     have HE:=Za e;have B0:=Za e2;have C0:=Za (x0.o rfl);clear x0;clear e e2;have b:=n.o.he;unfold Qi at b;have a:=n.o.hn;unfold Un at a;have n6:=bC a 6 _ rfl;have E:=bF a;have Q0:=bC b 15 _ rfl;have R0:=bC b 16 _ rfl;have S0:=bC b 17 _ rfl;have T0:=bC b 18 _ rfl;have V0:=bC b 19 _ rfl;have W0:=bC b 20 _ rfl;clear a b;go_wp2_with fail;clear E n6 Q0 R0 S0 T0 V0 W0;have N:G (UK w _ l.heap.size _ (Un r.name.text rk r.bin.1.text.size lo hi (I q1 q2 q3) true 0 0 (I J 0 0) false false (I J 0 0) 0) _):=n.o.write 6 (H true);generalize P0.setCell ⟨l.heap.size,6,J⟩ (H true)=D0 at*;refine(ML aa u _ _ C0.o.1 C0.o.2 (by rfl)).mono ?_;rintro e X0 ⟨hs,c⟩;by_cases y:Ze aa<=Ze u
     rotate_left
     ·obtain rfl:=(Vu.bad y).1 hs
      rw[HE.o]at i
      exact show _/\_ from⟨rfl,U3 (CX i (by simpa using y)) x N.o.fr c⟩
     obtain rfl:=(Vu.ok y).1 hs;have C:=Za (N.o.step c)
     have t0:G (¬r.amount.any (fun u=>decide (¬Ze u.1<=Ze u.2))=true):=by show¬_;rw[HE.o];simpa using y
     clear c y hs N n;simp only[RG];have a:=C.o.hn;unfold Un at a;have n7:=bC a 7 _ rfl;have n8:=bC a 8 _ rfl;have E:=bF a;clear a;go_wp2_with fail;clear E n7 n8;go_meet;refine⟨?_,t0,?_⟩
     ·show _=_
      rw[B0.o];rfl
     ·show UK _ _ _ _ _ _
      rw[B0.o];exact(C.o.write 7 (Y Z (Ze aa))).write 8 (Y Z (Ze u))
   case rest=>
    obtain⟨HS,t0,n⟩:=hcut;have i:=CW i t0.o;obtain⟨al,ah,hA⟩:∃al ah,am.getD (0,0)=(al,ah):=⟨_,_,rfl⟩;rw[hA]at n;have HA:=Za hA;clear hA;have b:=n.o.he;unfold Qi at b;have Y0:=bC b 13 _ rfl;clear b;go_wp2_with fail;clear Y0;refine(QP _ b0 _ r.cur 999 _ (oF HR.o.2.1 n.o.fr (by simp)) HD.o.2.2.2.2.2 o0.o.2.1 (by rfl)).mono ?_;intro e D0 hT
    cases F:Zr 999 0 r.cur with
    |error f=>
     obtain⟨rfl,c⟩:=(Wh.err F).1 hT;rw[F]at i
     exact show _/\_ from⟨rfl,U3 i x n.o.fr c⟩
    |ok l0=>
     obtain⟨⟨v,rfl,d⟩,c⟩:=(Wh.ok F).1 hT;obtain⟨s1,s2,s3,rfl⟩:=ZD d;rw[F]at i
     dsimp only at i
     have N:=Za (n.o.row c d);clear c hT F d n;have b:=N.o.he;unfold Qi at b;have a:=N.o.hn;unfold Un at a;have n9:=bC a 9 _ rfl;have Z0:=bC a 10 _ rfl;have a1:=bC a 11 _ rfl;have E:=bF a;have b1:=bC b 21 _ rfl;have f1:=bC b 22 _ rfl;have g1:=bC b 23 _ rfl;clear a b;go_wp2_with fail;clear E n9 Z0 a1 b1 f1 g1;have C:G (UK w _ l.heap.size _ (Un r.name.text rk r.bin.1.text.size lo hi (I q1 q2 q3) m al ah (I s1 s2 s3) r.act.decline r.act.cheapest (I J 0 0) 0) _):=((N.o.write 9 (I s1 s2 s3)).write 10 (H r.act.decline)).write 11 (H r.act.cheapest);clear N;generalize((D0.setCell ⟨l.heap.size,9,J⟩ (I s1 s2 s3)).setCell ⟨l.heap.size,10,J⟩ (H r.act.decline)).setCell ⟨l.heap.size,11,J⟩ (H r.act.cheapest)=X0 at*;refine(Jt _ B b0 (B+1) _ _ r.act.routes j (HK.o.fr C.o.fr (by simp)).c0 (HK.o.fr C.o.fr (by simp)).ro HK.o.r6 (oF HR.o.2.2 C.o.fr (by simp)) o0.o.2.2).mono ?_;intro e i1 hT
     cases F:ZC j 0 r.act.routes with
     |error f=>
      obtain⟨rfl,c⟩:=(Wh.err F).1 hT;rw[F]at i
      exact show _/\_ from⟨rfl,U3 i x C.o.fr c⟩
     |ok ps=>
      obtain⟨⟨v,rfl,d⟩,c⟩:=(Wh.ok F).1 hT;obtain⟨t1,t2,t3,rfl⟩:=ZD d;rw[F,HM.o]at i
      dsimp only at i
      have i0:=Za (C.o.row c d);clear c hT F d C;have c0:=(HK.o.fr i0.o.fr (by simp)).c0;have a:=i0.o.hn;unfold Un at a;have j1:=bC a 12 _ rfl;have k1:=bC a 13 _ rfl;have E:=bF a;clear a;go_wp2_with fail;clear E j1 k1 c0;have P:G (UK w _ l.heap.size _ (Un r.name.text rk r.bin.1.text.size lo hi (I q1 q2 q3) m al ah (I s1 s2 s3) r.act.decline r.act.cheapest (I t1 t2 t3) j.length) _):=(i0.o.write 12 (I t1 t2 t3)).write 13 (Y Z j.length);clear i0;generalize(i1.setCell ⟨l.heap.size,12,J⟩ (I t1 t2 t3)).setCell ⟨l.heap.size,13,J⟩ (Y Z j.length)=z at*;have v0:=Za (HK.o.fr P.o.fr (by simp));have l1:G (FY (B+1) z ⟨r.name.text,rk,r.bin.1.text.size,lo,hi,f0,am,l0,r.act.decline,r.act.cheapest,ps,j.length⟩ (Un r.name.text rk r.bin.1.text.size lo hi (I q1 q2 q3) m al ah (I s1 s2 s3) r.act.decline r.act.cheapest (I t1 t2 t3) j.length).toList):=⟨_,_,_,by rw[HS.o,HA.o];rfl,oS (P.o.ro (_,f0) (by simp)) (by omega),oS (P.o.ro (_,l0) (by simp)) (by omega),oS (P.o.ro (_,ps) (by simp)) (by omega)⟩;have c1:=v0.o.c1;have y1:=HK.o.l8;have z1:B<z.heap.size:=bL z _ c1;have E0:l.heap.size<z.heap.size:=P.o.lt;refine wp_region_held_drew (S:=fun w'=>w'.heap[l.heap.size]?=O (L (Un r.name.text rk r.bin.1.text.size lo hi (I q1 q2 q3) m al ah (I s1 s2 s3) r.act.decline r.act.cheapest (I t1 t2 t3) j.length) 120)) (by kernel_rfl) P.o.hn (fun R=>?_);refine Zf 0 R ?_;go_frame;refine Zf 1 R ?_;go_frame;refine Zf 2 R ?_;go_frame;refine Zf 3 R ?_;go_frame;refine Uq 5 (v:=?v5) ?y5 R ?r5
      case y5=>
       intro w hw;have g:=ZX hw;clear hw;go_simp
       with_reducible rfl
      go_frame;refine wpAnyH_ready (rs:=[4,6]) (by kernel_rfl) (by simp) ?_;refine Zb rfl (fun K Q=>?p1) (Zb rfl (fun K Q=>?p2) AllReadyH.nil)
      case' p1=>
       rw[if_pos (by rfl)];go_simp;refine Q.out _ _ R (fun _=>?_);clear Q K
       try go_frame
       refine SX 6 (fun K Q=>?_);go_simp;refine Q.out _ _ (((Fr.refl (fun _=>False) _).alloc _).whole R (by simp)) (fun R=>?_)
      case' p2=>
       rw[if_pos (by rfl)];go_simp;refine Q.out _ _ (((Fr.refl (fun _=>False) _).alloc _).whole R (by simp)) (fun R=>?_);clear Q K
       try go_frame
       refine SX 4 (fun K Q=>?_)
       have p0:=fun o=>(World.cell?_alloc_some z ⟨B,1,J⟩ o (by simp[c1])).trans c1
       go_simp;refine Q.out _ _ R (fun _=>?_);clear p0
      all_goals
       clear Q K
       try go_frame
       refine wpAnyH_ready (rs:=[7]) (by kernel_rfl) (by simp) ?_;refine Zb rfl (fun K Q=>?_) AllReadyH.nil;refine step_append_lies _ rfl (.tmp 75) (.tmp 77) 87 rfl (B+1) 120 ii _ 14 160 Tryz.underlying87 H0 I0 J0 K0 rfl (by decide) (I la s.length lc) s.length xs rfl ?h1 ⟨z.heap.size,0,J⟩ 1 1 (Un r.name.text rk r.bin.1.text.size lo hi (I q1 q2 q3) m al ah (I s1 s2 s3) r.act.decline r.act.cheapest (I t1 t2 t3) j.length).toList rfl rfl ?h2 ?h3 (by decide) ?h4 ?h5 ?h6 _ rfl ?h7
       case h1=>exact(v0.o.lo.alloc _).drew
       case h2=>exact World.news_of_block (aN z _)
       case h3=>unfold Un;simp[A]
       case h4=>unfold maxLen;omega
       case h5=>omega
       case h6=>simp;omega
       case h7=>
        intro g2 o1 A1 d V _ _;have j0:Below z.heap.size z (z.alloc (L (Un r.name.text rk r.bin.1.text.size lo hi (I q1 q2 q3) m al ah (I s1 s2 s3) r.act.decline r.act.cheapest (I t1 t2 t3) j.length) 120)).drew:=((Below.refl _ _).alloc (Nat.le_refl _) _).drew;have k0:=Jv v0.o l1.o j0 V d;have d1:=k0.1;have df:=k0.2.1;have G0:=Za (k0.2.2 (by have:=H8.o;omega));have m0:=(V.block _ (nL E0 j0.size) (fun e=>by have:=(HK.o.lo.lt _ e.symm).2;omega)).trans ((j0.block _ E0).trans P.o.hn);clear k0 V d j0;refine Q.out _ _ m0 (fun R=>?_);clear Q K m0;go_frame;refine Zf 8 R ?_;go_frame;refine Zf 9 R ?_;go_frame;refine SX 10 (fun K Q=>?_);go_simp;refine Q.out _ _ (((Fr.refl (fun k=>k=B) _).setCell (p:=⟨B,1,J⟩) (Or.inl rfl) _).whole R (by omega)) (fun _=>?_);clear Q K
        try go_frame
        refine wpAnyH_done (by kernel_rfl) ?_ _;go_wp2
        go_end0
        exact(U2.ok i.o.symm).2 ⟨rfl,⟨_,_,G0.o.1⟩,(P.o.fr.below (by omega) (by simp)).trans G0.o.2⟩
