import Derived.Test.YtccikgogjfbpeaaGreatDoorAe
import Derived.Lib.ItoaNum
import Derived.Defers
import Derived.Recover
open Option renaming none->I,some->J
open Go.Value renaming slice->Y,int->Z,pointer->O,bool->G,string->W,agg->y9
open Go.IntKind renaming i64->U
open Go.Proofs.Tryz renaming prog->H
open Go renaming World->D,Value->L,Calls->y6
open Go.Ending renaming returned->M
open Go.RowKit renaming Hid->T
open Go.Obj renaming cells->A
open List renaming length_cons->C,map_cons->F,any_cons->z4,eq_nil_of_length_eq_zero->z8,range'_succ->z9,length_eq_zero_iff->y3,getElem?_cons_succ->y4,mem_append->y7,range_eq_range'->x0,getElem_of_mem->x1,range'->x4,cons_append->x5,map_append->x6,replicate->x8,range->q5
open Nat renaming le_refl->z3,zero_add->z6,le_trans->z7,add_comm->x3,strongRecOn->x7,zero_mul->x9,zero_le->q4
open And renaming intro->z5
open Or renaming inl->y8,inr->x2
namespace Go.Proofs.YtccikgogjfbpeaaGreatDoor
set_option maxRecDepth 30000
set_option maxHeartbeats 8000000
open Go.RowKit
theorem BT.length {base w r c}(h:BT base w r c):c.length=14:=by
 obtain⟨_,_,_,rfl,_⟩:=h;rfl
theorem Ip {base:Nat}{w:D}:∀{rs:List Ze}{a:List L}{j:Nat}{r:Ze},Tw base w rs a->rs[j]?=J r->∃c,BT base w r c/\∀k,k<14->a[j*14+k]?=c[k]?
 |[],_,j,_,_,hj=>by simp at hj
 |x::rs,a,0,r,⟨c,rest,e,h1,h2⟩,hj=>by
  simp at hj;subst hj;refine⟨c,h1,fun k f=>?_⟩;have g:=h1.length;rw[e,x9,z6,List.getElem?_append_left (by omega)]
 |x::rs,a,j+1,r,⟨c,rest,e,h1,h2⟩,hj=>by
  obtain⟨d,h,f⟩:=Ip (j:=j) h2 (by simpa using hj);refine⟨d,h,fun k b=>?_⟩;have g:=h1.length;rw[e,aR (by omega),g,show(j+1)*14+k-14=j*14+k from by omega];exact f k b
def XG (a:ByteArray):List Ze->Bool
 |[]=>false
 |r::rs=>if(r.name.toList==a.toList)=true then true else XG a rs
theorem Iq (w B X vl rts a xs d)(h:Bk w B X vl rts a xs):
  y6 H 319 #[O (J ⟨B,0,I⟩),W d] w fun e w'=>e=M (G (XG d a))/\F0 w w':=by
 have c1:=h.c1;have a0:=h.l8;by_cases hn:0<a.length
 ·obtain⟨g,cap,rfl,hb,hl⟩:=h.lo.form hn
  have l:∀k,(⟨g,0,I⟩:Addr).add k=⟨g,k,I⟩:=fun k=>by unfold Addr.add;split<;>simp_all
  have HR:T (∀j r,a[j]?=J r->∃n q s t u x y z A,w.rangeAt g (j*14) [W r.name,Z U r.rank,Z U r.digits,Z U r.lo,Z U r.hi,Y n q s,G r.am.isSome,Z U (r.am.getD (0,0)).1,Z U (r.am.getD (0,0)).2,Y t u x,G r.decline,G r.cheapest,Y y z A,Z U r.ahead]):=fun j r Q=>by
   obtain⟨c,⟨vm,vc,vp,rfl,h1,h2,h3⟩,hk⟩:=Ip h.ru Q;obtain⟨n,q,s,rfl⟩:=ZB h1;obtain⟨t,u,x,rfl⟩:=ZB h2;obtain⟨y,z,A,rfl⟩:=ZB h3;refine⟨n,q,s,t,u,x,y,z,A,fun k v E=>?_⟩;have i:k<14:=(iG.1 E).1;have:=h.lo.cells (g:=g) rfl (j*14+k) v (by rw[hk k i];exact E)
   rwa [l]at this
  have f:T ((H.info? 120).map (·.size)=J 14):=by show _=_;kernel_rfl
  go_enter Tryz.func319,Tryz.ntmps319;go_wp2_with fail
  go_loopg [6,12] a.length (fun m _ c wr=>∃j,j<=a.length/\m=a.length-j/\c=Z U j/\T (F0 w wr)/\T (XG d a=XG d (a.drop j)))
  case atStart=>exact⟨0,q4 _,rfl,rfl,Zt,rfl⟩
  obtain⟨j,Q,rfl,rfl,F,K⟩:=hrel;by_cases i:j<a.length
  ·obtain⟨r,R⟩:∃r,a[j]?=J r:=⟨_,gE i⟩
   obtain⟨n,q,s,t,u,x,y,z,A,L⟩:=HR.o j r R
   have S:T (wr.rangeAt g (j*14) [W r.name,Z U r.rank,Z U r.digits,Z U r.lo,Z U r.hi,Y n q s,G r.am.isSome,Z U (r.am.getD (0,0)).1,Z U (r.am.getD (0,0)).2,Y t u x,G r.decline,G r.cheapest,Y y z A,Z U r.ahead]):=fun k v E=>by rw[F.o.cell (p:=⟨g,j*14+k,I⟩) hl];exact L k v E
   have N:(j:Int)<(a.length:Int):=by omega
   have b:T (a.drop j=r::a.drop (j+1)):=by
    obtain⟨C,he⟩:=iG.1 R
    show _=_
    rw[dC C,he]
   cases V:(r.name.toList==d.toList)with
   |true=>
    have D:T (XG d a=true):=by show _=_;rw[K.o,b.o];simp only[XG];rw[if_pos V]
    go_wp2_with (first|(refine wpList_load_mid rfl 120 _ rfl g (j*14) rfl _ _ S.o Tryz.underlying120 rfl f.o ?_))
    go_ret;exact⟨by rw[D.o];rfl,F.o.alloc _⟩
   |false=>
    have D:T (XG d a=XG d (a.drop (j+1))):=by show _=_;rw[K.o,b.o];simp only[XG];rw[if_neg (by simp[V])]
    go_wp2_with (first|(refine wpList_load_mid rfl 120 _ rfl g (j*14) rfl _ _ S.o Tryz.underlying120 rfl f.o ?_))
    go_roundg (a.length-(j+1))
    case measure=>omega
    exact⟨j+1,by omega,rfl,by go_num,F.o.alloc _,D⟩
  have N:¬(j:Int)<(a.length:Int):=by omega
  have D:T (XG d a=false):=by show _=_;rw[K.o,dL (by omega)];rfl
  go_wp2;go_ret;exact⟨by rw[D.o];rfl,F.o⟩
 have hz:a=[]:=z8 (by omega)
 subst hz;have P:=h.lo;rcases P.2 with⟨rfl,_⟩|⟨g,cap,b0,rfl,_⟩
 all_goals
  go_enter Tryz.func319,Tryz.ntmps319;go_wp2_with fail
  go_loopg [6,12] 1 (fun m _ c wr=>m=1/\c=Z U 0/\wr=w)
  case atStart=>exact⟨rfl,rfl,rfl⟩
  obtain⟨rfl,rfl,rfl⟩:=hrel;go_wp2;go_ret;exact⟨rfl,Zt⟩
def Z7 (rts:List Zf)(b:List Ze)(r:Qz):Except (Nat×Nat) Ze:=
 if b.length=8 then .error (6,r.name.line)
 else if XG r.name.text b=true then .error (4,r.name.line)
 else if 1000<Zd r.rank then .error (5,r.rank.line)
 else if 6<r.bin.1.text.size then .error (5,r.bin.1.line)
 else if r.bin.2.text.size≠r.bin.1.text.size then .error (5,r.bin.2.line)
 else if¬Zd r.bin.1<=Zd r.bin.2 then .error (5,r.bin.2.line)
 else match Zp 9999 0 r.mcc with
 | .error f=>.error f
 | .ok c=>if r.amount.any (fun a=>decide (¬Zd a.1<=Zd a.2))=true then .error (5,(r.amount.map (fun a=>a.2.line)).getD 0)
  else match Zp 999 0 r.cur with
  | .error f=>.error f
  | .ok d=>match Zw rts 0 r.act.routes with
   | .error f=>.error f
   | .ok e=>.ok ⟨r.name.text,Zd r.rank,r.bin.1.text.size,Zd r.bin.1,Zd r.bin.2,c,r.amount.map (fun a=>(Zd a.1,Zd a.2)),d,r.act.decline,r.act.cheapest,e,rts.length⟩
theorem Lu:(H.info? 120).map (fun i=>(i.zero,i.size,i.bytes))=J (J (y9 #[W ByteArray.empty,Z U 0,Z U 0,Z U 0,Z U 0,Y I 0 0,G false,Z U 0,Z U 0,Y I 0 0,G false,G false,Y I 0 0,Z U 0]),14,160):=by kernel_rfl
def Tx (x:Except (Nat×Nat) Ze)(w:D)(B:Nat)(b:L)(rts:List Zf)(a:List Ze)(d:List L)(e:Ending)(w':D):Prop:=
 match x with
 | .ok r=>e=M (.tuple #[])/\(∃g c,Bk w' B b g rts (a++[r]) (d++c))/\Below B w w'
 | .error f=>e=Zj f.1 f.2/\Below B w w'
theorem Tx.ok {x w w' B b rts a d e r}(h:x=.ok r):Tx x w B b rts a d e w'↔e=M (.tuple #[])/\(∃f c,Bk w' B b f rts (a++[r]) (d++c))/\Below B w w':=by subst h;exact Iff.rfl
theorem Tx.err {x w w' B b rts a c e f}(h:x=.error f):Tx x w B b rts a c e w'↔e=Zj f.1 f.2/\Below B w w':=by subst h;exact Iff.rfl
theorem Fg {w i b B u l V rts a r A c}(h:Bk w B u l rts a r)(x:BT (B+1) w A c)(d:Below w.heap.size w i)(f:i.grownBy b l.ownBlock)(D:b.ownsRow (B+1) 120 14 V (a.length+1) (r++c)):
  b.cell? ⟨B,1,I⟩=J l/\(∀o,b.frozen? ⟨B,o,I⟩=false)/\(a.length<=7->Bk (b.setCell ⟨B,1,I⟩ V) B u V rts (a++[A]) (r++c)/\Below B w (b.setCell ⟨B,1,I⟩ V)):=by
 have s:B<w.heap.size:=bL w _ h.c0
 have g:∀j,j<=B->J j≠l.ownBlock:=fun j G e=>by have:=h.lo.lt j e.symm;omega
 have y:∀o,b.cell? ⟨B,o,I⟩=w.cell? ⟨B,o,I⟩:=fun o=>(f.cell_far ⟨B,o,I⟩ (nL s d.size) (g B (z3 _))).trans (d.cell (p:=⟨B,o,I⟩) s)
 have C:∀o,b.frozen? ⟨B,o,I⟩=w.frozen? ⟨B,o,I⟩:=fun o=>(f.frozen_far ⟨B,o,I⟩ (nL s d.size) (g B (z3 _))).trans (d.frozen (p:=⟨B,o,I⟩) s)
 have m:i.ownsRow (B+1) 120 14 l a.length r:=oF h.lo (Fr.of_below (S:=fun _=>False) d);have E:Below B w b:=(d.mono (by omega)).trans ⟨f.os,f.tape,f.output,f.size,fun k z=>f.block k (nL (by omega) d.size) (g k (by omega))⟩
 have z:∀v n t,w.ownsRow (B+1) 3 1 v n t->(b.setCell ⟨B,1,I⟩ V).ownsRow (B+1) 3 1 v n t:=fun v n t F=>by
  have q:i.ownsRow (B+1) 3 1 v n t:=oF F (Fr.of_below (S:=fun _=>False) d);exact oB (q.kept f (WI q m (by decide))) (by simp) _
 refine⟨(y 1).trans h.c1,fun o=>(C o).trans (h.fz o),fun H=>⟨⟨?_,?_,fun o=>by simp[C o,h.fz o],?_,?_,Tw.snoc (x.keep z) (Tw.keep z h.ru),h.r6,by simp;omega⟩,E.setCell (by simp) _⟩⟩
 ·rw[cO _ _ _ _ (by simp)];exact(y 0).trans h.c0
 ·exact cS _ _ _ ((y 1).trans h.c1)
 ·have q:i.ownsRow (B+1) 148 3 u rts.length (Yh rts):=oF h.ro (Fr.of_below (S:=fun _=>False) d)
  exact oB (q.kept f (WI q m (by decide))) (by simp) _
 rw[lA];exact oB D (by simp) _
structure SC (w wc:D)(N:Nat)(es cs:Array L)(rs:List (L×List Nat)):Prop where
 fr:F0 w wc
 he:wc.heap[w.heap.size]?=J (A es 295)
 hn:wc.heap[N]?=J (A cs 120)
 nl:w.heap.size<N
 ro:∀x,x∈rs->wc.ownsRow (N+1) 3 1 x.1 x.2.length (Zg x.2)
section
variable {w wc wd:D} {N:Nat} {es cs:Array L} {rs:List (L×List Nat)}
theorem SC.lt (h:SC w wc N es cs rs):N<wc.heap.size:=(iA.1 h.hn).1
theorem SC.step (h:SC w wc N es cs rs)(a:F0 wc wd):SC w wd N es cs rs:=⟨h.fr.trans a,a.whole h.he,a.whole h.hn,h.nl,fun x b=>oF (h.ro x b) a⟩
theorem SC.write (h:SC w wc N es cs rs)(j u):SC w (wc.setCell ⟨N,j,I⟩ u) N es (cs.setIfInBounds j u) rs:=
 have a:Fr (fun k=>k=N) wc (wc.setCell ⟨N,j,I⟩ u):=(Fr.refl (fun k=>k=N) _).setCell (p:=⟨N,j,I⟩) (y8 rfl) _;have c:=h.nl
 ⟨h.fr.monoNew a (fun k d=>x2 (by omega)),a.whole h.he (by omega),Yl h.hn j u,h.nl,fun x b=>oB (h.ro x b) (by simp) u⟩
theorem SC.row {v l}(h:SC w wc N es cs rs)(c:F0 wc wd)(d:wd.ownsRow wc.heap.size 3 1 v l.length (Zg l)):SC w wd N es cs ((v,l)::rs):=
 have a:=h.step c
 ⟨a.fr,a.he,a.hn,a.nl,fun x b=>by
  rcases List.mem_cons.1 b with rfl|b
  ·exact oS d h.lt
  exact a.ro x b⟩
end
theorem ZY {w:D}{P v0 v1 v2 v3 e f g i j k a b c d t}(h:w.heap[P]?=J (A #[v0,v1,v2,v3,e,f,g,i,j,k,a,b,c,d] t)):w.cell? ⟨P,0,I⟩=J v0/\w.cell? ⟨P,1,I⟩=J v1/\w.cell? ⟨P,2,I⟩=J v2/\w.cell? ⟨P,3,I⟩=J v3/\w.cell? ⟨P,4,I⟩=J e/\w.cell? ⟨P,5,I⟩=J f/\w.cell? ⟨P,6,I⟩=J g/\w.cell? ⟨P,7,I⟩=J i/\w.cell? ⟨P,8,I⟩=J j/\w.cell? ⟨P,9,I⟩=J k/\w.cell? ⟨P,10,I⟩=J a/\w.cell? ⟨P,11,I⟩=J b/\w.cell? ⟨P,12,I⟩=J c/\w.cell? ⟨P,13,I⟩=J d:=⟨Zc h 0,Zc h 1,Zc h 2,Zc h 3,Zc h 4,Zc h 5,Zc h 6,Zc h 7,Zc h 8,Zc h 9,Zc h 10,Zc h 11,Zc h 12,Zc h 13⟩
theorem wQ {α c}[Decidable c]{a b x:α}(h:T ((if c then a else b)=x))(d:¬c):T (b=x):=by have e:=h.o;rw[if_neg d]at e;exact e
theorem wR {α c}[Decidable c]{a b x:α}(h:T ((if c then a else b)=x))(d:c):T (a=x):=by have e:=h.o;rw[if_pos d]at e;exact e
theorem cf {P f a w E}{R:D->Prop}{Q}(h:y6 P f a w fun e w'=>e=E/\R w')(k:∀w',R w'->Q E w'):y6 P f a w Q:=
 h.mono (by rintro e w' ⟨rfl,b⟩;exact k w' b)
theorem Ty {X w wc w' B b rts a c f}(d:T (.error f=X))(h:B<w.heap.size)(e:F0 w wc)(g:F0 wc w'):Tx X w B b rts a c (Zj f.1 f.2) w':=
 (Tx.err d.o.symm).2 ⟨rfl,(e.trans g).below (by omega)⟩
def Ai (r:Qz):Tk×Tk:=r.amount.getD (⟨0,⟨#[]⟩,0⟩,⟨0,⟨#[]⟩,0⟩)
def Pw (r:Qz)(a:Bool)(b c:Tk)(d e f:L):Array L:=#[Z U r.name.sort,W r.name.text,Z U r.name.line,Z U r.rank.sort,W r.rank.text,Z U r.rank.line,Z U r.bin.1.sort,W r.bin.1.text,Z U r.bin.1.line,Z U r.bin.2.sort,W r.bin.2.text,Z U r.bin.2.line,d,e,G a,Z U b.sort,W b.text,Z U b.line,Z U c.sort,W c.text,Z U c.line,G r.act.decline,G r.act.cheapest,f]
def TJ (b:ByteArray)(rk dg lo hi:Int)(c:L)(a:Bool)(d e:Int)(f:L)(g h:Bool)(i:L)(n:Int):Array L:=#[W b,Z U rk,Z U dg,Z U lo,Z U hi,c,G a,Z U d,Z U e,f,G g,G h,i,Z U n]
theorem Aj (r a b c):P7 r a b c=y9 (Pw r r.amount.isSome (Ai r).1 (Ai r).2 a b c):=by
 unfold P7 Ai Pw
 cases r.amount<;>rfl
theorem Ir (w B b0 vr vl rts l xs r vm vc vp)(h:Bk w B vr vl rts l xs)(a:r.name.text.size<=3000)(dr:Dg r.rank.text)(d1:Dg r.bin.1.text)(d2:Dg r.bin.2.text)(dm:∀t,t∈r.mcc->Dg t.text)(dc:∀t,t∈r.cur->Dg t.text)(da:∀n,r.amount=J n->Dg n.1.text/\Dg n.2.text)(hm:w.ownsRow b0 263 3 vm r.mcc.length (Yr r.mcc))(hc:w.ownsRow b0 263 3 vc r.cur.length (Yr r.cur))(hp:w.ownsRow b0 263 3 vp r.act.routes.length (Yr r.act.routes))(fm:r.mcc.length<=4000)(fc:r.cur.length<=4000)(fp:r.act.routes.length<=4000):
  y6 H 318 #[P7 r vm vc vp,O (J ⟨B,0,I⟩)] w (Tx (Z7 rts l r) w B vr rts l xs):=by
 obtain⟨m1,m2,m3,rfl⟩:=ZB hm;obtain⟨c1,c2,c3,rfl⟩:=ZB hc;obtain⟨p1,p2,p3,rfl⟩:=ZB hp;obtain⟨la,lc,rfl⟩:=oL h.lo;obtain⟨ra,rc,rfl⟩:=oL h.ro;obtain⟨ii,y0,z0,A0,B0⟩:=info_parts Lu;obtain⟨X,hX⟩:∃X,Z7 rts l r=X:=⟨_,rfl⟩;rw[hX,Aj];unfold Z7 at hX;have c:=Za hX
 have p0:T (r.amount=if r.amount.isSome=true then J ((Ai r).1,(Ai r).2)else I):=by show _=_;unfold Ai;cases r.amount<;>rfl
 have C0:T (r.amount.isSome=true->Dg (Ai r).1.text/\Dg (Ai r).2.text):=fun e=>by
  unfold Ai
  cases q:r.amount with
  |none=>rw[q]at e;cases e
  |some n=>exact da n q
 generalize(Ai r).1=aa at*;generalize(Ai r).2=n at*;generalize N0:r.amount.isSome=m at*;have HK:=Za h;have s:B<w.heap.size:=bL w _ h.c0;have HD:=Za (z5 a (z5 dr (z5 d1 (z5 d2 (z5 dm dc)))));have HR:=Za (z5 hm (z5 hc hp));have g0:T (r.mcc.length<=4000/\r.cur.length<=4000/\r.act.routes.length<=4000):=⟨fm,fc,fp⟩;have D0:=h.c1;have h0:=(Vx w (A (Pw r m aa n (Y m1 m2 m3) (Y c1 c2 c3) (Y p1 p2 p3)) 295)).1;have a0:=Za (aN w (A (Pw r m aa n (Y m1 m2 m3) (Y c1 c2 c3) (Y p1 p2 p3)) 295));have e0:=Zc a0.o 0;have e1:=Zc a0.o 1;have e2:=Zc a0.o 2;go_enter Tryz.func318,Tryz.ntmps318;by_cases h8:l.length=8
 ·have hq:((l.length:Int)==8)=true:=by simp;omega
  have c:=wR c h8;go_wp2_with fail;refine cf (YD r.name 6 _ _ (by rfl)) ?_
  exact fun w9 d=>show _/\_ from⟨rfl,Ty c s h0.o d⟩
 have c:=wQ c h8;have H8:=Za h8
 have hq:((l.length:Int)==8)=false:=by simp;omega
 go_wp2_with fail
 refine cf (Iq _ B _ _ rts l xs r.name.text (HK.o.fr h0.o)) fun j d=>?_
 have L:=Za (d.whole a0.o);have q0:=Za (h0.o.trans d);have E0:w.heap.size<j.heap.size:=(iA.1 L.o).1;have e0:=Zc L.o 0;have e1:=Zc L.o 1;have e2:=Zc L.o 2
 cases hh:XG r.name.text l with
 |true=>
  have c:=wR c hh;go_wp2_with fail;refine cf (YD r.name 4 _ _ (by rfl)) ?_
  exact fun w9 d=>show _/\_ from⟨rfl,Ty c s q0.o d⟩
 |false=>
  have c:=wQ c (by rw[hh];simp)
  have P0:¬w.heap.size=j.heap.size:=by omega
  have Q0:¬j.heap.size=w.heap.size:=by omega
  go_wp2_with fail
  refine cf (Vz r.name.text _ HD.o.1) fun w2 d=>?_
  have S2:T (SC w w2 j.heap.size _ (TJ ⟨#[]⟩ 0 0 0 0 (Y I 0 0) false 0 0 (Y I 0 0) false false (Y I 0 0) 0) []):=⟨(q0.o.alloc _).trans d,d.whole (((Fr.refl (fun _=>False) _).alloc _).whole L.o),d.whole (aN j _),E0,by simp⟩;have b:=S2.o.he;unfold Pw at b;have a:=S2.o.hn;unfold TJ at a;have n0:=Zc a 0;have nf:=bF a;have e3:=Zc b 3;have e4:=Zc b 4;have e5:=Zc b 5;go_wp2_with fail;have S3:=Za (S2.o.write 0 (W r.name.text));generalize w2.setCell ⟨j.heap.size,0,I⟩ (W r.name.text)=w3 at*;by_cases y:1000<Zd r.rank
  ·refine cf (QD r.rank _ 1000 _ HD.o.2.1 y (by rfl)) ?_
   exact fun w9 d=>show _/\_ from⟨rfl,Ty (wR c y) s S3.o.fr d⟩
  have c:=wQ c y
  refine cf (Rj r.rank _ 1000 _ HD.o.2.1 (by omega) (by rfl)) fun w4 d=>?_
  have S4:=Za (S3.o.step d);generalize Zd r.rank=rk at*;have b:=S4.o.he;unfold Pw at b;have a:=S4.o.hn;unfold TJ at a;have n1:=Zc a 1;have nf:=bF a;have e6:=Zc b 6;have e7:=Zc b 7;have e8:=Zc b 8;have e9:=Zc b 9;have F0:=Zc b 10;have G0:=Zc b 11;go_wp2_with fail;have S5:T (SC w _ j.heap.size _ (TJ r.name.text rk 0 0 0 (Y I 0 0) false 0 0 (Y I 0 0) false false (Y I 0 0) 0) _):=S4.o.write 1 (Z U rk);generalize w4.setCell ⟨j.heap.size,1,I⟩ (Z U rk)=w5 at*;by_cases y:6<r.bin.1.text.size
  ·refine cf (Ii r.bin.1 r.bin.2 _ y) ?_
   exact fun w9 d=>show _/\_ from⟨rfl,Ty (wR c y) s S5.o.fr d⟩
  have c:=wQ c y;by_cases d0:r.bin.2.text.size=r.bin.1.text.size
  rotate_left
  ·refine cf (Jc r.bin.1 r.bin.2 _ (by omega) d0) ?_
   exact fun w9 d=>show _/\_ from⟨rfl,Ty (wR c d0) s S5.o.fr d⟩
  have c:=wQ c (fun e=>e d0)
  refine cf (D7 r.bin.1 r.bin.2 _ (by omega) d0) fun w6 d=>?_
  have S6:=Za (S5.o.step d);have b:=S6.o.he;unfold Pw at b;have a:=S6.o.hn;unfold TJ at a;have n2:=Zc a 2;have nf:=bF a;have e6:=Zc b 6;have e7:=Zc b 7;have e8:=Zc b 8;have e9:=Zc b 9;have F0:=Zc b 10;have G0:=Zc b 11;go_wp2_with fail;have S7:=Za (S6.o.write 2 (Z U r.bin.1.text.size));generalize w6.setCell ⟨j.heap.size,2,I⟩ (Z U r.bin.1.text.size)=w7 at*;refine(Ij r.bin.1 r.bin.2 _ HD.o.2.2.1 HD.o.2.2.2.1).mono ?_;rintro e w8 ⟨hs,d⟩;by_cases y:Zd r.bin.1<=Zd r.bin.2
  rotate_left
  ·obtain rfl:=(VL.bad y).1 hs
   exact show _/\_ from⟨rfl,Ty (wR c y) s S7.o.fr d⟩
  obtain rfl:=(VL.ok y).1 hs;have c:=wQ c (fun e=>e y);have S8:=Za (S7.o.step d);generalize Zd r.bin.1=lo at*;generalize Zd r.bin.2=hi at*;simp only[QE];have b:=S8.o.he;unfold Pw at b;have a:=S8.o.hn;unfold TJ at a;have n3:=Zc a 3;have n4:=Zc a 4;have nf:=bF a;have R0:=Zc b 12;go_wp2_with fail;have S9:T (SC w _ j.heap.size _ (TJ r.name.text rk r.bin.1.text.size lo hi (Y I 0 0) false 0 0 (Y I 0 0) false false (Y I 0 0) 0) _):=(S8.o.write 3 (Z U lo)).write 4 (Z U hi);generalize(w8.setCell ⟨j.heap.size,3,I⟩ (Z U lo)).setCell ⟨j.heap.size,4,I⟩ (Z U hi)=S0 at*;refine(Ob _ b0 _ r.mcc 9999 _ (oF HR.o.1 S9.o.fr) HD.o.2.2.2.2.1 g0.o.1 (by rfl)).mono ?_;intro e H0 hT
  cases E:Zp 9999 0 r.mcc with
  |error f=>
   obtain⟨rfl,d⟩:=(Wu.err E).1 hT;rw[E]at c
   exact show _/\_ from⟨rfl,Ty c s S9.o.fr d⟩
  |ok y1=>
   obtain⟨⟨v,rfl,i⟩,d⟩:=(Wu.ok E).1 hT;obtain⟨Q,R,V,rfl⟩:=ZB i;rw[E]at c
   dsimp only at c
   have i0:=Za (S9.o.row d i);have b:=i0.o.he;unfold Pw at b;have a:=i0.o.hn;unfold TJ at a;have n5:=Zc a 5;have nf:=bF a;have T0:=Zc b 14
   go_upto_if 44 with fail
   have u:=Za (i0.o.write 5 (Y Q R V));generalize H0.setCell ⟨j.heap.size,5,I⟩ (Y Q R V)=I0 at*;obtain⟨am,J0⟩:∃am,r.amount.map (fun n=>(Zd n.1,Zd n.2))=am:=⟨_,rfl⟩;have HM:=Za J0
   go_cut [] (fun wx=>T (am.isSome=m)/\T (¬r.amount.any (fun n=>decide (¬Zd n.1<=Zd n.2))=true)/\T (SC w wx j.heap.size (Pw r m aa n (Y m1 m2 m3) (Y c1 c2 c3) (Y p1 p2 p3)) (TJ r.name.text rk r.bin.1.text.size lo hi (Y Q R V) m (am.getD (0,0)).1 (am.getD (0,0)).2 (Y I 0 0) false false (Y I 0 0) 0) [(Y Q R V,y1)]))
   case first=>
    cases m with
    |false=>
     have e:r.amount=I:=p0.o
     have e2:am=I:=by have:=HM.o;rw[e]at this;exact this.symm
     go_wp2_with fail;go_meet;subst e2;exact⟨rfl,by show¬_;rw[e];simp,u⟩
    |true=>
     have e:=p0.o
     have e2:am=J (Zd aa,Zd n):=by have:=HM.o;rw[e]at this;exact this.symm
     have HE:=Za e;have r0:=Za e2;have s0:=Za (C0.o rfl);have b:=u.o.he;unfold Pw at b;have a:=u.o.hn;unfold TJ at a;have n6:=Zc a 6;have nf:=bF a;have V0:=Zc b 15;have W0:=Zc b 16;have X0:=Zc b 17;have Y0:=Zc b 18;have Z0:=Zc b 19;have a1:=Zc b 20;go_wp2_with fail;have F:T (SC w _ j.heap.size _ (TJ r.name.text rk r.bin.1.text.size lo hi (Y Q R V) true 0 0 (Y I 0 0) false false (Y I 0 0) 0) _):=u.o.write 6 (G true);generalize I0.setCell ⟨j.heap.size,6,I⟩ (G true)=t0 at*;refine(Jd aa n _ _ s0.o.1 s0.o.2 (by rfl)).mono ?_;rintro e K0 ⟨hs,d⟩;by_cases y:Zd aa<=Zd n
     rotate_left
     ·obtain rfl:=(VL.bad y).1 hs
      rw[HE.o]at c
      exact show _/\_ from⟨rfl,Ty (wR c (by simpa using y)) s F.o.fr d⟩
     obtain rfl:=(VL.ok y).1 hs;have z:=Za (F.o.step d)
     have j0:T (¬r.amount.any (fun n=>decide (¬Zd n.1<=Zd n.2))=true):=by show¬_;rw[HE.o];simpa using y
     simp only[QE];have a:=z.o.hn;unfold TJ at a;have n7:=Zc a 7;have n8:=Zc a 8;have nf:=bF a;go_wp2_with fail;go_meet;refine⟨?_,j0,?_⟩
     ·show _=_
      rw[r0.o];rfl
     show SC _ _ _ _ _ _
     rw[r0.o];exact(z.o.write 7 (Z U (Zd aa))).write 8 (Z U (Zd n))
   obtain⟨HS,j0,u⟩:=hcut;have c:=wQ c j0.o;obtain⟨al,ah,hA⟩:∃al ah,am.getD (0,0)=(al,ah):=⟨_,_,rfl⟩;rw[hA]at u;have HA:=Za hA;have b:=u.o.he;unfold Pw at b;have b1:=Zc b 13;go_wp2_with fail;refine(Ob _ b0 _ r.cur 999 _ (oF HR.o.2.1 u.o.fr) HD.o.2.2.2.2.2 g0.o.2.1 (by rfl)).mono ?_;intro e t0 hT
   cases E:Zp 999 0 r.cur with
   |error f=>
    obtain⟨rfl,d⟩:=(Wu.err E).1 hT;rw[E]at c
    exact show _/\_ from⟨rfl,Ty c s u.o.fr d⟩
   |ok f0=>
    obtain⟨⟨v,rfl,i⟩,d⟩:=(Wu.ok E).1 hT;obtain⟨s1,s2,s3,rfl⟩:=ZB i;rw[E]at c
    dsimp only at c
    have F:=Za (u.o.row d i);have b:=F.o.he;unfold Pw at b;have a:=F.o.hn;unfold TJ at a;have n9:=Zc a 9;have f1:=Zc a 10;have g1:=Zc a 11;have nf:=bF a;have i1:=Zc b 21;have j1:=Zc b 22;have k1:=Zc b 23;go_wp2_with fail;have z:=Za (((F.o.write 9 (Y s1 s2 s3)).write 10 (G r.act.decline)).write 11 (G r.act.cheapest));generalize((t0.setCell ⟨j.heap.size,9,I⟩ (Y s1 s2 s3)).setCell ⟨j.heap.size,10,I⟩ (G r.act.decline)).setCell ⟨j.heap.size,11,I⟩ (G r.act.cheapest)=K0 at*;refine(Fe _ B b0 (B+1) _ _ r.act.routes rts (HK.o.fr z.o.fr).c0 (HK.o.fr z.o.fr).ro HK.o.r6 (oF HR.o.2.2 z.o.fr) g0.o.2.2).mono ?_;intro e L0 hT
    cases E:Zw rts 0 r.act.routes with
    |error f=>
     obtain⟨rfl,d⟩:=(Wu.err E).1 hT;rw[E]at c
     exact show _/\_ from⟨rfl,Ty c s z.o.fr d⟩
    |ok ps=>
     obtain⟨⟨v,rfl,i⟩,d⟩:=(Wu.ok E).1 hT;obtain⟨t1,t2,t3,rfl⟩:=ZB i;rw[E,HM.o]at c
     dsimp only at c
     have k0:=Za (z.o.row d i);have c0:=(HK.o.fr k0.o.fr).c0;have a:=k0.o.hn;unfold TJ at a;have l1:=Zc a 12;have o1:=Zc a 13;have nf:=bF a;go_wp2_with fail;have C:T (SC w _ j.heap.size _ (TJ r.name.text rk r.bin.1.text.size lo hi (Y Q R V) m al ah (Y s1 s2 s3) r.act.decline r.act.cheapest (Y t1 t2 t3) rts.length) _):=(k0.o.write 12 (Y t1 t2 t3)).write 13 (Z U rts.length);generalize(L0.setCell ⟨j.heap.size,12,I⟩ (Y t1 t2 t3)).setCell ⟨j.heap.size,13,I⟩ (Z U rts.length)=x at*;have l0:=Za (HK.o.fr C.o.fr);have M0:T (BT (B+1) x ⟨r.name.text,rk,r.bin.1.text.size,lo,hi,y1,am,f0,r.act.decline,r.act.cheapest,ps,rts.length⟩ (TJ r.name.text rk r.bin.1.text.size lo hi (Y Q R V) m al ah (Y s1 s2 s3) r.act.decline r.act.cheapest (Y t1 t2 t3) rts.length).toList):=⟨_,_,_,by rw[HS.o,HA.o];rfl,oS (C.o.ro (_,y1) (by simp)) (by omega),oS (C.o.ro (_,f0) (by simp)) (by omega),oS (C.o.ro (_,ps) (by simp)) (by omega)⟩;have c1:=l0.o.c1;have r1:=HK.o.l8;have v1:=bL x _ c1;have v0:j.heap.size<x.heap.size:=C.o.lt;refine wp_region_held_drew (S:=fun w'=>w'.heap[j.heap.size]?=J (A (TJ r.name.text rk r.bin.1.text.size lo hi (Y Q R V) m al ah (Y s1 s2 s3) r.act.decline r.act.cheapest (Y t1 t2 t3) rts.length) 120)) (by kernel_rfl) C.o.hn (fun D=>?_);refine ZX 0 D ?_;go_frame;refine ZX 1 D ?_;go_frame;refine ZX 2 D ?_;go_frame;refine ZX 3 D ?_;go_frame;refine UP 5 (v:=?v5) ?y5 D ?r5
     case y5=>
      intro w hw;have g:=ZY hw;go_simp
      with_reducible rfl
     go_frame;refine Xz [4,6] ?_;refine Zb rfl (fun K N=>?p1) (Zb rfl (fun K N=>?p2) AllReadyH.nil)
     case' p1=>
      rw[if_pos (by rfl)];go_simp;refine N.out _ _ D (fun _=>?_)
      try go_frame
      refine Vv 6 (fun K N=>?_);go_simp;refine N.out _ _ (((Fr.refl (fun _=>False) _).alloc _).whole D) (fun D=>?_)
     case' p2=>
      rw[if_pos (by rfl)];go_simp;refine N.out _ _ (((Fr.refl (fun _=>False) _).alloc _).whole D) (fun D=>?_)
      try go_frame
      refine Vv 4 (fun K N=>?_)
      have D0:=fun o=>(World.cell?_alloc_some x ⟨B,1,I⟩ o (by simp[c1])).trans c1
      go_simp;refine N.out _ _ D (fun _=>?_)
     all_goals
      try go_frame
      refine Xz [7] ?_;refine Zb rfl (fun K N=>?_) AllReadyH.nil;refine step_append_lies _ rfl (.tmp 75) (.tmp 77) 87 rfl (B+1) 120 ii _ 14 160 Tryz.underlying87 y0 z0 A0 B0 rfl (by decide) (Y la l.length lc) l.length xs rfl ?h1 ⟨x.heap.size,0,I⟩ 1 1 (TJ r.name.text rk r.bin.1.text.size lo hi (Y Q R V) m al ah (Y s1 s2 s3) r.act.decline r.act.cheapest (Y t1 t2 t3) rts.length).toList rfl rfl ?h2 ?h3 (by decide) ?h4 ?h5 ?h6 _ rfl ?_
      case h1=>exact(l0.o.lo.alloc _).drew
      case h2=>exact World.news_of_block (aN x _)
      case h3=>unfold TJ;simp[Value.oneCell']
      case h4=>unfold maxLen;omega
      case h5=>omega
      case h6=>simp;omega
      intro g2 O0 x1 i P _ _;have m0:Below x.heap.size x (x.alloc (A (TJ r.name.text rk r.bin.1.text.size lo hi (Y Q R V) m al ah (Y s1 s2 s3) r.act.decline r.act.cheapest (Y t1 t2 t3) rts.length) 120)).drew:=((Below.refl _ _).alloc (z3 _) _).drew;have o0:=Fg l0.o M0.o m0 P i;have d1:=o0.1;have df:=o0.2.1;have w0:=Za (o0.2.2 (by have:=H8.o;omega));have x0:=(P.block _ (nL v0 m0.size) (fun e=>by have:=(HK.o.lo.lt _ e.symm).2;omega)).trans ((m0.block _ v0).trans C.o.hn);refine N.out _ _ x0 (fun D=>?_);go_frame;refine ZX 8 D ?_;go_frame;refine ZX 9 D ?_;go_frame;refine Vv 10 (fun K N=>?_);go_simp;refine N.out _ _ (((Fr.refl (fun k=>k=B) _).setCell (p:=⟨B,1,I⟩) (y8 rfl) _).whole D (by omega)) (fun _=>?_)
      try go_frame
      refine wpAnyH_done (by kernel_rfl) ?_ _;go_wp2
      go_end0
      exact(Tx.ok c.o.symm).2 ⟨rfl,⟨_,_,w0.o.1⟩,(C.o.fr.below (by omega)).trans w0.o.2⟩
def VA:Vr->Prop
 | .route r=>r.name.text.size<=3000/\Dg r.base.text/\Dg r.rate.text
 | .rule r=>r.name.text.size<=3000/\Dg r.rank.text/\Dg r.bin.1.text/\Dg r.bin.2.text/\(∀t,t∈r.mcc->Dg t.text)/\(∀t,t∈r.cur->Dg t.text)/\(∀a,r.amount=J a->Dg a.1.text/\Dg a.2.text)/\r.mcc.length<=4000/\r.cur.length<=4000/\r.act.routes.length<=4000
def Vs (rts:List Zf)(a:List Ze):Vr->Except (Nat×Nat) (List Zf×List Ze)
 | .route r=>match ZD rts r with
  | .error f=>.error f
  | .ok t=>.ok (rts++[t],a)
 | .rule r=>match Z7 rts a r with
  | .error f=>.error f
  | .ok t=>.ok (rts,a++[t])
def ZR (rts:List Zf)(a:List Ze):List Vr->Except (Nat×Nat) (List Zf×List Ze)
 |[]=>.ok (rts,a)
 |x::xs=>match Vs rts a x with
  | .error f=>.error f
  | .ok p=>ZR p.1 p.2 xs
theorem YR {rts a x b f}(h:Vs rts a x=.error f):ZR rts a (x::b)=.error f:=by simp only[ZR,h]
theorem Xm {rts a x b p}(h:Vs rts a x=.ok p):ZR rts a (x::b)=ZR p.1 p.2 b:=by simp only[ZR,h]
def VN (x:Except (Nat×Nat) (List Zf×List Ze))(w:D)(B:Nat)(e:Ending)(w':D):Prop:=
 match x with
 | .ok p=>e=M (.tuple #[])/\(∃a b c,Bk w' B a b p.1 p.2 c)/\Below B w w'
 | .error f=>e=Zj f.1 f.2/\Below B w w'
theorem VN.ok {x w w' B e p}(h:x=.ok p):VN x w B e w'↔e=M (.tuple #[])/\(∃a b c,Bk w' B a b p.1 p.2 c)/\Below B w w':=by subst h;exact Iff.rfl
theorem VN.err {x w w' B e f}(h:x=.error f):VN x w B e w'↔e=Zj f.1 f.2/\Below B w w':=by subst h;exact Iff.rfl
theorem yG (w B d g rts a i r)(h:Bk w B d g rts a i)(c:VA (.route r)):
  y6 H 314 #[UT r,O (J ⟨B,0,I⟩)] w (VN (Vs rts a (.route r)) w B):=by
 refine(Ji w B d g rts a i r h c.1 c.2.1 c.2.2).mono ?_;intro e w' j
 cases b:ZD rts r with
 |error f=>exact(VN.err (by simp only[Vs,b])).2 ((Uu.err b).1 j)
 |ok t=>
  obtain⟨k,⟨l,m⟩,n⟩:=(Uu.ok b).1 j;exact(VN.ok (p:=(rts++[t],a)) (by simp only[Vs,b])).2 ⟨k,⟨_,_,_,m⟩,n⟩
theorem yH (w B d m n rts a o r i j k)(h:Bk w B m n rts a o)(s:VA (.rule r))(u:w.ownsRow d 263 3 i r.mcc.length (Yr r.mcc))(v:w.ownsRow d 263 3 j r.cur.length (Yr r.cur))(x:w.ownsRow d 263 3 k r.act.routes.length (Yr r.act.routes)):
  y6 H 318 #[P7 r i j k,O (J ⟨B,0,I⟩)] w (VN (Vs rts a (.rule r)) w B):=by
 obtain⟨y,z,A,C,D,E,F,G,K,l⟩:=s;have b:=Ir w B d m n rts a o r i j k h y z A C D E F u v x G K l;refine b.mono ?_;intro e w' q
 cases g:Z7 rts a r with
 |error f=>exact(VN.err (by simp only[Vs,g])).2 ((Tx.err g).1 q)
 |ok t=>
  obtain⟨L,⟨M,c,N⟩,P⟩:=(Tx.ok g).1 q;exact(VN.ok (p:=(rts,a++[t])) (by simp only[Vs,g])).2 ⟨L,⟨_,_,_,N⟩,P⟩
def SO (x:Except (Nat×Nat) (List Zf×List Ze))(w:D)(e:Ending)(w':D):Prop:=
 match x with
 | .ok p=>e=M (O (J ⟨w.heap.size,0,I⟩))/\(∃a b c,Bk w' w.heap.size a b p.1 p.2 c)/\Below w.heap.size w w'
 | .error f=>e=Zj f.1 f.2/\Below w.heap.size w w'
theorem SO.ok {x w w' e p}(h:x=.ok p):SO x w e w'↔e=M (O (J ⟨w.heap.size,0,I⟩))/\(∃a b c,Bk w' w.heap.size a b p.1 p.2 c)/\Below w.heap.size w w':=by subst h;exact Iff.rfl
theorem SO.err {x w w' e f}(h:x=.error f):SO x w e w'↔e=Zj f.1 f.2/\Below w.heap.size w w':=by subst h;exact Iff.rfl
theorem wS (w:D):Bk (w.alloc (A #[Y I 0 0,Y I 0 0] 89)) w.heap.size (Y I 0 0) (Y I 0 0) [] [] []:=by
 have a:=aN w (A #[Y I 0 0,Y I 0 0] 89);exact⟨Zc a 0,Zc a 1,bF a,oZ _ _ _ _,oZ _ _ _ _,rfl,by simp,by simp⟩
theorem L6 {base:Nat}{w:D}:∀{a:List Vr}{b:List L}{j:Nat}{x:Vr},YU base w a b->a[j]?=J x->∃v,b[j]?=J v/\QC base w x v
 |[],_,j,_,_,hj=>by simp at hj
 |y::a,[],j,_,h,_=>by cases h
 |y::a,v::b,0,x,h,hj=>by
  simp at hj;subst hj;exact⟨v,rfl,h.1⟩
 |y::a,v::b,j+1,x,h,hj=>by
  obtain⟨u,c,d⟩:=L6 (j:=j) h.2 (by simpa using hj);exact⟨u,by simpa using c,d⟩
abbrev Fa:=Option (Nat×Nat)
def ZW (f:Fa)(a:Bool)(k b:Nat):Fa:=
 match f with
 |some x=>J x
 |none=>if a then J (k,b)else I
theorem ZL (x b k l):ZW (J x) b k l=J x:=rfl
theorem Yw (k l):ZW I true k l=J (k,l):=rfl
theorem Z9 (k l):ZW I false k l=I:=rfl
def Yn (b:ByteArray)(a:Nat)(f:Fa):List ByteArray->Fa
 |[]=>f
 |x::xs=>Yn b a (ZW f (x.toList==b.toList) 4 a) xs
theorem Vf (b a x l):Yn b a (J x) l=J x:=by
 induction l with
 |nil=>rfl
 |cons y d c=>exact c
theorem RI (b a l):Yn b a I l=if l.any (fun x=>x.toList==b.toList)then J (4,a)else I:=by
 induction l with
 |nil=>rfl
 |cons y d f=>
  show Yn b a (ZW I (y.toList==b.toList) 4 a) d=_
  by_cases c:(y.toList==b.toList)=true
  ·rw[if_pos (by rw[z4,c];rfl),c,Yw,Vf]
  rw[Bool.not_eq_true]at c
  have e:(y::d).any (fun x=>x.toList==b.toList)=d.any (fun x=>x.toList==b.toList):=by rw[z4,c];rfl
  simp only[e];rw[c,Z9,f]
def Yd (a:Nat)(k:Nat)(f:Fa):List Tk->Fa
 |[]=>f
 |t::r=>Yd a (k+1) (ZW (ZW f (decide (4<k)) 6 t.line) (decide (a<Zd t)) 5 t.line) r
theorem ZP (a k x l):Yd a k (J x) l=J x:=by
 induction l generalizing k with
 |nil=>rfl
 |cons y c b=>exact b (k+1)
def Jl {α:Type}:Except (Nat×Nat) α->Fa
 | .error f=>J f
 | .ok _=>I
theorem WL (a:Nat):∀(l:List Tk)(i:Nat),i<=4->Yd a (i+1) I l=Jl (Zp a i l)/\∀ns,Zp a i l=.ok ns->ns=l.map Zd
 |[],i,_=>⟨rfl,fun ns h=>by simp[Zp]at h;simp[h]⟩
 |t::r,i,hi=>by
  by_cases d:i=4
  ·subst d
   refine⟨?_,fun ns h=>by simp[Zp]at h⟩;simp only[Yd,Zp];rw[show decide (4<4+1)=true from rfl,Yw,ZL,ZP];rfl
  have g:decide (4<i+1)=false:=by simp;omega
  by_cases c:a<Zd t
  ·have b:decide (a<Zd t)=true:=by simpa using c
   refine⟨?_,fun ns h=>by simp[Zp,d,c]at h⟩;simp only[Yd,Zp];rw[g,Z9,b,Yw,ZP,if_neg d,if_pos c];rfl
  have b:decide (a<Zd t)=false:=by simpa using c
  obtain⟨j,k⟩:=WL a r (i+1) (by omega);refine⟨?_,fun ns h=>?_⟩
  ·simp only[Yd,Zp]
   rw[g,Z9,b,Z9,j,if_neg d,if_neg c]
   cases Zp a (i+1) r<;>rfl
  simp only[Zp]at h
  rw[if_neg d,if_neg c]at h
  cases e:Zp a (i+1) r with
  |error f=>rw[e]at h;cases h
  |ok m=>
   rw[e]at h;injection h with h;rw[<-h,F,k m e]
def Zz (b:ByteArray)(a:Int)(i:Nat):List Zf->Int
 |[]=>a
 |x::xs=>Zz b (if(x.name.toList==b.toList)=true then(i:Int)else a) (i+1) xs
def YV:List ByteArray->Prop
 |[]=>True
 |x::xs=>(∀y,y∈xs->(y.toList==x.toList)=false)/\YV xs
theorem Ny (b a l):∀i,(∀y,y∈l.map Zf.name->(y.toList==b.toList)=false)->Zz b a i l=a:=by
 induction l with
 |nil=>intro i _;rfl
 |cons x e d=>
  intro i h;simp only[Zz];rw[if_neg (by have:=h x.name (by simp);rw[this];decide)];exact d (i+1) (fun y c=>h y (by simp at c ⊢;exact x2 c))
theorem Jm (a l)(d:YV (l.map Zf.name)):∀i,Zz a (-1) i l=Zk a i l:=by
 induction l with
 |nil=>intro i;rfl
 |cons x c f=>
  intro i;simp only[Zz,Zk];have b:(∀y,y∈c.map Zf.name->(y.toList==x.name.toList)=false)/\YV (c.map Zf.name):=d;by_cases h:(x.name.toList==a.toList)=true
  ·rw[if_pos h,if_pos h]
   refine Ny a _ c _ (fun y g=>?_);have j:=b.1 y g
   have e:x.name.toList=a.toList:=by simpa using h
   rw[<-e];exact j
  rw[if_neg h,if_neg h]
  exact f b.2 (i+1)
def Xi (rts:List Zf)(k:Nat)(f:Fa):List Tk->Fa
 |[]=>f
 |t::r=>Xi rts (k+1) (ZW (ZW f (decide (4<k)) 6 t.line) (decide (Zz t.text (-1) 0 rts<0)) 4 t.line) r
theorem X4 (rts k x l):Xi rts k (J x) l=J x:=by
 induction l generalizing k with
 |nil=>rfl
 |cons y b a=>exact a (k+1)
theorem Nz (rts:List Zf)(j:YV (rts.map Zf.name)):∀(l:List Tk)(i:Nat),i<=4->Xi rts (i+1) I l=Jl (Zw rts i l)/\∀ns,Zw rts i l=.ok ns->ns.map (fun n:Nat=>(n:Int))=l.map fun t=>Zz t.text (-1) 0 rts
 |[],i,_=>⟨rfl,fun ns h=>by simp[Zw]at h;simp[h]⟩
 |t::r,i,hi=>by
  have e:=Jm t.text rts j 0;by_cases c:i=4
  ·subst c
   refine⟨?_,fun ns h=>by simp[Zw]at h⟩;simp only[Xi,Zw];rw[show decide (4<4+1)=true from rfl,Yw,ZL,X4];rfl
  have d:decide (4<i+1)=false:=by simp;omega
  by_cases b:Zk t.text 0 rts<0
  ·have a:decide (Zz t.text (-1) 0 rts<0)=true:=by rw[e];simpa using b
   refine⟨?_,fun ns h=>by simp[Zw,c,b]at h⟩;simp only[Xi,Zw];rw[d,Z9,a,Yw,X4,if_neg c,if_pos b];rfl
  have a:decide (Zz t.text (-1) 0 rts<0)=false:=by rw[e];simpa using b
  obtain⟨k,m⟩:=Nz rts j r (i+1) (by omega);refine⟨?_,fun ns h=>?_⟩
  ·simp only[Xi,Zw]
   rw[d,Z9,a,Z9,k,if_neg c,if_neg b]
   cases Zw rts (i+1) r<;>rfl
  simp only[Zw]at h
  rw[if_neg c,if_neg b]at h
  cases g:Zw rts (i+1) r with
  |error f=>rw[g]at h;cases h
  |ok o=>
   rw[g]at h;injection h with h;rw[<-h,F,F,m o g,e]
   congr 1
   omega
def Wm (rts:List Zf)(f:Fa)(r:Ni):Fa:=
 ZW (ZW (Yn r.name.text r.name.line (ZW f (decide (6<=rts.length)) 6 r.name.line) (rts.map Zf.name)) (decide (1000000<Zd r.base)) 5 r.base.line) (decide (1000<Zd r.rate)) 5 r.rate.line
theorem Px (a l):∀i,(0<=Zk a i l)↔(l.map Zf.name).any (fun x=>x.toList==a.toList)=true:=by
 induction l with
 |nil=>intro i;simp[Zk]
 |cons x c b=>
  intro i;simp only[Zk,F,z4]
  cases(x.name.toList==a.toList)with
  |true=>simp
  |false=>simpa using b (i+1)
theorem Ti (rts r)(g:rts.length<=6):Wm rts I r=Jl (ZD rts r)/\∀t,ZD rts r=.ok t->t=⟨r.name.text,Zd r.base,Zd r.rate⟩:=by
 unfold Wm ZD;by_cases e:rts.length=6
 ·have d:decide (6<=rts.length)=true:=by simp;omega
  rw[d,Yw,Vf,if_pos e];exact⟨rfl,fun t h=>by cases h⟩
 have d:decide (6<=rts.length)=false:=by simp;omega
 rw[d,Z9,RI,if_neg e];have f:=Px r.name.text rts 0;by_cases a:0<=Zk r.name.text 0 rts
 ·rw[if_pos (f.1 a),if_pos a]
  exact⟨rfl,fun t h=>by cases h⟩
 rw[if_neg (fun h=>a (f.2 h)),if_neg a];by_cases b:1000000<Zd r.base
 ·rw[show decide (1000000<Zd r.base)=true from by simpa using b,if_pos b]
  exact⟨rfl,fun t h=>by cases h⟩
 rw[show decide (1000000<Zd r.base)=false from by simpa using b,if_neg b];by_cases c:1000<Zd r.rate
 ·rw[show decide (1000<Zd r.rate)=true from by simpa using c,if_pos c]
  exact⟨rfl,fun t h=>by cases h⟩
 rw[show decide (1000<Zd r.rate)=false from by simpa using c,if_neg c];exact⟨rfl,fun t h=>by injection h with h;exact h.symm⟩
structure Xa where
 name:ByteArray
 rank:Nat
 width:Nat
 lo:Nat
 hi:Nat
 mcc:List Nat
 cur:List Nat
 am:Option (Nat×Nat)
 routes:List Int
 decline:Bool
 cheapest:Bool
def Vl (rts:List Zf)(r:Qz):Xa:=
 ⟨r.name.text,Zd r.rank,r.bin.1.text.size,Zd r.bin.1,Zd r.bin.2,r.mcc.map Zd,r.cur.map Zd,r.amount.map (fun a=>(Zd a.1,Zd a.2)),r.act.routes.map (fun t=>Zz t.text (-1) 0 rts),r.act.decline,r.act.cheapest⟩
def Xb (f:Fa):Option (Tk×Tk)->Fa
 |none=>f
 |some a=>ZW (ZW f (decide (1000000000<Zd a.1)) 5 a.1.line) (decide (1000000000<Zd a.2)||decide (Zd a.2<Zd a.1)) 5 a.2.line
def Xr (rts:List Zf)(a:List ByteArray)(f:Fa)(r:Qz):Fa:=
  Xi rts 1 (Yd 999 1 (Xb (Yd 9999 1
    (ZW (ZW (ZW (Yn r.name.text r.name.line (ZW f (decide (8<=a.length)) 6 r.name.line) a)
      (decide (1000<Zd r.rank)) 5 r.rank.line) (decide (6<r.bin.1.text.size)) 5 r.bin.1.line)
      (decide (6<r.bin.2.text.size)||decide (r.bin.2.text.size≠r.bin.1.text.size)||decide (Zd r.bin.2<Zd r.bin.1)) 5 r.bin.2.line)
    r.mcc) r.amount) r.cur) r.act.routes
theorem Oc (a l):XG a l=(l.map Ze.name).any (fun x=>x.toList==a.toList):=by
 induction l with
 |nil=>rfl
 |cons x c b=>
  simp only[XG,F,z4]
  cases(x.name.toList==a.toList)with
  |true=>rfl
  |false=>simpa using b
theorem O1:∀(l:List UInt8)(n:Nat),(∀c,c∈l->c.toNat<=57)->l.foldl (fun n c=>n*10+(c.toNat-48)) n<(n+1)*10^l.length
 |[],n,_=>by simp
 |c::r,n,h=>by
  have a:=O1 r (n*10+(c.toNat-48)) (fun d b=>h d (by simp[b]));have e:=h c (by simp);simp only[List.foldl_cons,C];refine nL a ?_;rw[Nat.pow_succ,Nat.mul_comm (10^r.length) 10,<-Nat.mul_assoc];exact Nat.mul_le_mul_right _ (by omega)
theorem Wh (t)(b:Dg t.text):Zd t<1000000000:=by
 have h:=O1 t.text.data.toList 0 (fun c f=>by
  obtain⟨k,d,e⟩:=x1 f;have a:=(b.2 k (by simpa using d)).2;unfold ZC at a;rw[gD,gE d,e]at a;simp at a
  omega)
 have g:t.text.data.toList.length<=9:=by have:=b.1;simpa using this
 have i:10^t.text.data.toList.length<=10^9:=Nat.pow_le_pow_right (by omega) g;unfold Zd Yu;omega
def Ze.ref (r:Ze):Xa:=⟨r.name,r.rank,r.digits,r.lo,r.hi,r.mcc,r.cur,r.am,r.routes.map (fun n:Nat=>(n:Int)),r.decline,r.cheapest⟩
theorem Fh (rts c r)(L:c.length<=8)(n:YV (rts.map Zf.name))(y:∀b,r.amount=J b->Dg b.1.text/\Dg b.2.text):
  Xr rts (c.map Ze.name) I r=Jl (Z7 rts c r)/\∀t,Z7 rts c r=.ok t->t.ref=Vl rts r/\t.ahead=rts.length:=by
 unfold Xr Z7
 have a:∀x:Nat×Nat,Xi rts 1 (Yd 999 1 (Xb (J x) r.amount) r.cur) r.act.routes=J x:=fun x=>by
  cases r.amount with
  |none=>simp only[Xb];rw[ZP,X4]
  |some b=>simp only[Xb];rw[ZL,ZL,ZP,X4]
 rw[List.length_map];by_cases s:c.length=8
 ·have n:decide (8<=c.length)=true:=by simp;omega
  rw[n,Yw,Vf,ZL,ZL,ZL,ZP,a,if_pos s];exact⟨rfl,fun t h=>by cases h⟩
 rw[show decide (8<=c.length)=false from by simp;omega,Z9,RI,if_neg s,<-Oc];by_cases j:XG r.name.text c=true
 ·rw[if_pos j,if_pos j,ZL,ZL,ZL,ZP,a]
  exact⟨rfl,fun t h=>by cases h⟩
 rw[if_neg j,if_neg j];by_cases k:1000<Zd r.rank
 ·rw[show decide (1000<Zd r.rank)=true from by simpa using k,if_pos k,Yw,ZL,ZL,ZP,a]
  exact⟨rfl,fun t h=>by cases h⟩
 rw[show decide (1000<Zd r.rank)=false from by simpa using k,if_neg k,Z9];by_cases l:6<r.bin.1.text.size
 ·rw[show decide (6<r.bin.1.text.size)=true from by simpa using l,if_pos l,Yw,ZL,ZP,a]
  exact⟨rfl,fun t h=>by cases h⟩
 rw[show decide (6<r.bin.1.text.size)=false from by simpa using l,if_neg l,Z9];by_cases o:r.bin.2.text.size≠r.bin.1.text.size
 ·rw[show(decide (6<r.bin.2.text.size)||decide (r.bin.2.text.size≠r.bin.1.text.size)||decide (Zd r.bin.2<Zd r.bin.1))=true from by simp[o],if_pos o,Yw,ZP,a]
  exact⟨rfl,fun t h=>by cases h⟩
 have z:r.bin.2.text.size=r.bin.1.text.size:=by omega
 rw[if_neg o];by_cases u:¬Zd r.bin.1<=Zd r.bin.2
 ·rw[show(decide (6<r.bin.2.text.size)||decide (r.bin.2.text.size≠r.bin.1.text.size)||decide (Zd r.bin.2<Zd r.bin.1))=true from by simp;omega,if_pos u,Yw,ZP,a]
  exact⟨rfl,fun t h=>by cases h⟩
 rw[show(decide (6<r.bin.2.text.size)||decide (r.bin.2.text.size≠r.bin.1.text.size)||decide (Zd r.bin.2<Zd r.bin.1))=false from by simp;omega,if_neg u,Z9];obtain⟨v,A⟩:=WL 9999 r.mcc 0 (by omega);rw[z6]at v;rw[v]
 cases B:Zp 9999 0 r.mcc with
 |error f=>
  simp only[Jl];rw[a];exact⟨rfl,fun t h=>by cases h⟩
 |ok e=>
  have C:=A e B;simp only[Jl];obtain⟨c1,D⟩:=WL 999 r.cur 0 (by omega);rw[z6]at c1;obtain⟨w,E⟩:=Nz rts n r.act.routes 0 (by omega);rw[z6]at w;have g:∀(m:Option (Nat×Nat)),m=r.amount.map (fun b=>(Zd b.1,Zd b.2))->Xi rts 1 (Yd 999 1 I r.cur) r.act.routes=
    Jl (match Zp 999 0 r.cur with
     | .error f=>(.error f:Except (Nat×Nat) Ze)
     | .ok d=>match Zw rts 0 r.act.routes with
      | .error f=>.error f
      | .ok i=>.ok ⟨r.name.text,Zd r.rank,r.bin.1.text.size,Zd r.bin.1,Zd r.bin.2,e,m,d,r.act.decline,r.act.cheapest,i,rts.length⟩)/\
    ∀t,(match Zp 999 0 r.cur with
     | .error f=>(.error f:Except (Nat×Nat) Ze)
     | .ok d=>match Zw rts 0 r.act.routes with
      | .error f=>.error f
      | .ok i=>.ok ⟨r.name.text,Zd r.rank,r.bin.1.text.size,Zd r.bin.1,Zd r.bin.2,e,m,d,r.act.decline,r.act.cheapest,i,rts.length⟩)=.ok t->t.ref=Vl rts r/\t.ahead=rts.length:=by
   intro m p;rw[c1]
   cases F:Zp 999 0 r.cur with
   |error f=>
    simp only[Jl];rw[X4];exact⟨rfl,fun t h=>by cases h⟩
   |ok d=>
    simp only[Jl];rw[w]
    cases G:Zw rts 0 r.act.routes with
    |error f=>exact⟨rfl,fun t h=>by cases h⟩
    |ok i=>
     refine⟨rfl,fun t h=>?_⟩;injection h with h;subst h;refine⟨?_,rfl⟩;simp only[Ze.ref,Vl];rw[C,D d F,E i G,p]
  cases q:r.amount with
  |none=>
   have h:=g I (by rw[q];rfl);simp only[Xb,Option.any,Option.map];exact h
  |some b=>
   obtain⟨H,K⟩:=y b q;have v1:=Wh b.1 H;have v2:=Wh b.2 K;simp only[Xb,Option.any,Option.map];rw[show decide (1000000000<Zd b.1)=false from by simp;omega,Z9,show decide (1000000000<Zd b.2)=false from by simp;omega,Bool.false_or];by_cases M:Zd b.1<=Zd b.2
   ·have h:=g (J (Zd b.1,Zd b.2)) (by rw[q];rfl)
    rw[show decide (Zd b.2<Zd b.1)=false from by simp;omega,Z9,if_neg (by simp;omega)];exact h
   rw[show decide (Zd b.2<Zd b.1)=true from by simp;omega,Yw,ZP,X4,if_pos (by simp;omega)]
   exact⟨rfl,fun t h=>by cases h⟩
def Yj:List UInt8->List UInt8
 |48::c::r=>Yj (c::r)
 |l=>l
theorem VB (c r):Yj (48::c::r)=Yj (c::r):=by rw[Yj]
theorem Ue (c):Yj [c]=[c]:=by
 unfold Yj;split
 ·rename_i h;simp at h
 rfl
theorem VO (b r)(h:b≠48):Yj (b::r)=b::r:=by
 unfold Yj;split
 ·rename_i a;simp at a;exact absurd a.1 h
 rfl
theorem Qb (l)(h:l≠[]):Yj l≠[]/\(Yj l).length<=l.length:=by
 induction l with
 |nil=>exact absurd rfl h
 |cons b r d=>
  by_cases a:b=48
  ·subst a
   cases r with
   |nil=>rw[Ue];simp
   |cons c r=>
    rw[VB];have:=d (by simp);exact⟨this.1,by have:=this.2;simp at this ⊢;omega⟩
  rw[VO b r a];simp
theorem D9 (l)(h:l≠[]):x8 (l.length-(Yj l).length) 48++Yj l=l:=by
 induction l with
 |nil=>exact absurd rfl h
 |cons b r d=>
  by_cases a:b=48
  ·subst a
   cases r with
   |nil=>rw[Ue];simp
   |cons c r=>
    rw[VB];have f:=d (by simp);have g:=(Qb (c::r) (by simp)).2
    have e:(48::c::r).length-(Yj (c::r)).length=((c::r).length-(Yj (c::r)).length)+1:=by
     simp only[C]at g ⊢;omega
    rw[e,List.replicate_succ,x5,f]
  rw[VO b r a];simp
theorem Is (m c)(e:m≠[]):Yj (m++[c])=if Yj m=[48]then[c]else Yj m++[c]:=by
 induction m with
 |nil=>exact absurd rfl e
 |cons b r f=>
  by_cases a:b=48
  ·subst a
   cases r with
   |nil=>rw[Ue,if_pos rfl];show Yj [48,c]=_;rw[VB,Ue]
   |cons d r=>
    rw[VB]
    show Yj (48::d::(r++[c]))=_
    rw[VB];exact f (by simp)
  rw[VO b r a,x5,VO b _ a]
  rw[if_neg (by simp;intro h;exact absurd h a)]
def xT (l:List UInt8):Prop:=∀c,c∈l->48<=c.toNat/\c.toNat<=57
theorem NA (c)(h:48<=c.toNat/\c.toNat<=57):UInt8.ofNat (48+(c.toNat-48))=c:=by
 rw[show 48+(c.toNat-48)=c.toNat from by omega];exact UInt8.ofNat_toNat
theorem UK {u}(h:u<10):Lib.decDigits u=[UInt8.ofNat (48+u)]:=by rw[Lib.decDigits,dif_pos h]
theorem O2 {u}(h:¬u<10):Lib.decDigits u=Lib.decDigits (u/10)++[UInt8.ofNat (48+u % 10)]:=by rw[Lib.decDigits,dif_neg h]
theorem Jn (u):Lib.decDigits u≠[]:=by
 by_cases h:u<10
 ·rw[UK h];simp
 rw[O2 h];simp
theorem It (u):Lib.decDigits u=[48]↔u=0:=by
 constructor
 ·intro h
  by_cases b:u<10
  ·rw[UK b]at h
   injection h with h _;have:=congrArg UInt8.toNat h;simp at this;omega
  rw[O2 b]at h
  have c:=congrArg List.length h
  have d:1<=(Lib.decDigits (u/10)).length:=by
   rcases Nat.eq_zero_or_pos (Lib.decDigits (u/10)).length with a|a
   ·exact absurd (y3.1 a) (Jn _)
   exact a
  simp at c;exact absurd c (Jn _)
 intro h;subst h;rw[UK (by omega)];rfl
theorem Cb:∀n l,l.length=n->l≠[]->xT l->Yj l=Lib.decDigits (Yu l):=by
 intro n
 induction n with
 |zero=>intro l b h _;exact absurd (y3.1 b) h
 |succ n o=>
  intro l b a k;obtain⟨m,c,rfl⟩:∃m c,l=m++[c]:=⟨l.dropLast,l.getLast a,(List.dropLast_concat_getLast a).symm⟩;have f:=k c (by simp);rw[UU];by_cases g:m=[]
  ·subst g
   show Yj [c]=Lib.decDigits (Yu []*10+(c.toNat-48))
   have e:Yu []*10+(c.toNat-48)=c.toNat-48:=by simp[Yu]
   rw[e,Ue,UK (by omega),NA c f]
  have hi:=o m (by simp at b;exact b) g (fun d i=>k d (by simp[i]))
  rw[Is m c g,hi];by_cases j:Yu m=0
  ·rw[if_pos ((It _).2 j),j,UK (by omega),x9,z6,NA c f]
  rw[if_neg (fun h=>j ((It _).1 h)),O2 (u:=Yu m*10+(c.toNat-48)) (by omega)]
  rw[show(Yu m*10+(c.toNat-48))/10=Yu m from by omega,show(Yu m*10+(c.toNat-48))% 10=c.toNat-48 from by omega,NA c f]
theorem Ak {t}(h:Dg t):xT t.data.toList:=fun c d=>by
 obtain⟨k,b,e⟩:=x1 d;have a:=h.2 k (by simpa using b);unfold ZC at a;rw[gD,gE b,e]at a;simp at a;omega
theorem NB {t:ByteArray}(h:1<=t.size):t.data.toList≠[]:=fun e=>by
 have a:t.data.toList.length=t.size:=by simp
 rw[e]at a;simp at a;omega
theorem L7 (t)(h:Dg t.text)(a:1<=t.text.size):Yj t.text.data.toList=Lib.decDigits (Zd t):=
 Cb _ _ rfl (NB a) (Ak h)
theorem QJ (t)(h:Dg t.text)(b:1<=t.text.size):x8 (t.text.size-(Lib.decDigits (Zd t)).length) 48++Lib.decDigits (Zd t)=t.text.data.toList/\(Lib.decDigits (Zd t)).length<=t.text.size:=by
 have a:t.text.data.toList≠[]:=NB b;have f:=L7 t h b;have c:=D9 _ a;have d:=(Qb _ a).2
 have e:t.text.data.toList.length=t.text.size:=by simp
 rw[f,e]at c d;exact⟨c,d⟩
def YW (rts:List Zf)(a:List Xa):List Vr->Except (Nat×Nat) (List Zf×List Xa)
 |[]=>.ok (rts,a)
 | .route r::xs=>match Wm rts I r with
  |some f=>.error f
  |none=>YW (rts++[⟨r.name.text,Zd r.base,Zd r.rate⟩]) a xs
 | .rule r::xs=>match Xr rts (a.map Xa.name) I r with
  |some f=>.error f
  |none=>YW rts (a++[Vl rts r]) xs
theorem Tz {l x}(h:YV l)(c:l.any (fun y=>y.toList==x.toList)=false):YV (l++[x]):=by
 induction l with
 |nil=>exact⟨fun y b=>by simp at b,trivial⟩
 |cons a r f=>
  have d:(∀y,y∈r->(y.toList==a.toList)=false)/\YV r:=h;rw[z4,Bool.or_eq_false_iff]at c;refine⟨fun y b=>?_,f d.2 c.2⟩;rcases y7.1 b with b|b
  ·exact d.1 y b
  simp at b
  subst b;rw[Bool.eq_false_iff]at c ⊢;intro e;apply c.1;simp at e ⊢;exact e.symm
theorem VP {rts r t}(a:rts.length<=6)(b:YV (rts.map Zf.name))(h:ZD rts r=.ok t):YV ((rts++[t]).map Zf.name)/\(rts++[t]).length<=6:=by
 have e:=(Ti rts r a).2 t h;unfold ZD at h
 split at h
 ·cases h
 rename_i g
 split at h
 ·cases h
 rename_i c;have d:=Px r.name.text rts 0;subst e;rw[x6];refine⟨Tz b ?_,by simp;omega⟩;rw[Bool.eq_false_iff]
 exact fun f=>c (d.2 f)
theorem Od {rts a r t}(b:a.length<=8)(h:Z7 rts a r=.ok t):(a++[t]).length<=8:=by
 unfold Z7 at h
 split at h
 ·cases h
 simp;omega
theorem Al (a:List Ze):(a.map Ze.ref).map Xa.name=a.map Ze.name:=by
 rw[List.map_map];rfl
theorem SP:∀(c:List Vr)(rts:List Zf)(a:List Ze),rts.length<=6->a.length<=8->YV (rts.map Zf.name)->(∀x,x∈c->VA x)->
  YW rts (a.map Ze.ref) c=(match ZR rts a c with
   | .error f=>.error f
   | .ok p=>.ok (p.1,p.2.map Ze.ref))
 |[],rts,a,_,_,_,_=>rfl
 | .route r::c,rts,a,h6,h8,hd,ho=>by
  obtain⟨g,h⟩:=Ti rts r h6;simp only[YW];rw[g]
  cases b:ZD rts r with
  |error f=>rw[YR (f:=f) (by simp only[Vs,b])];rfl
  |ok t=>
   rw[Xm (p:=(rts++[t],a)) (by simp only[Vs,b])];have e:=h t b;have d:=VP h6 hd b;have:=SP c (rts++[t]) a d.2 h8 d.1 (fun x i=>ho x (by simp[i]));rw[e]at this ⊢;exact this
 | .rule r::c,rts,a,h6,h8,hd,ho=>by
  have j:VA (.rule r):=ho _ (by simp);obtain⟨g,h⟩:=Fh rts a r h8 hd j.2.2.2.2.2.2.1;simp only[YW];rw[Al,g]
  cases b:Z7 rts a r with
  |error f=>rw[YR (f:=f) (by simp only[Vs,b])];rfl
  |ok t=>
   rw[Xm (p:=(rts,a++[t])) (by simp only[Vs,b])];have e:=(h t b).1;have:=SP c rts (a++[t]) h6 (Od h8 b) hd (fun x i=>ho x (by simp[i]));rw[x6,F,List.map_nil,e]at this;exact this
def Ll (t:Tk)(l:List UInt8):Bool:=t.text.toList==l
def SD (ts:List Tk)(k:Nat):Bool:=
 (decide (0<k)&&Ll (Zo ts (k-1)) [98,105,110])||(decide (2<k)&&Ll (Zo ts (k-1)) [46,46]&&Ll (Zo ts (k-3)) [98,105,110])
def Xc (ts:List Tk)(k:Nat):List UInt8:=
 if decide ((Zo ts k).sort=1)&&!SD ts k then Yj (Zo ts k).text.data.toList else(Zo ts k).text.data.toList
def Uv (s:List UInt8):Bool:=s==[59]||s==[44]||s==[58]||s==[46,46]
def ZS:Bool->Bool->List (List UInt8)->List UInt8
 |_,_,[]=>[]
 |first,glued,s::r=>(if !first&&!glued&&!Uv s then[32]else[])++(s++(if s==[59]then 10::ZS true (s==[46,46]) r else ZS false (s==[46,46]) r))
def Yo (ts:List Tk):Nat->Nat->List (List UInt8)
 |_,0=>[]
 |k,n+1=>Xc ts k::Yo ts (k+1) n
def VQ (ts:List Tk)(n:Nat):List UInt8:=ZS true false (Yo ts 0 n)
section
variable {n:Nat} {ts:List Tk}
theorem yI (h:∀t,t∈ts->TH n t)(i):TH n (Zo ts i):=by
 unfold Zo;rw[gD]
 cases a:ts[i]? with
 |none=>exact⟨fun e=>by simp at e,by simp,by simp⟩
 |some t=>exact h t (mG a)
theorem QK (h:∀t,t∈ts->TH n t){i a t k}(b:Z8 ts i a=.ok (t,k)):TH n t/\t.sort=a:=by
 obtain⟨rfl,c,_⟩:=Ys b;exact⟨yI h i,c⟩
theorem QL (h:∀t,t∈ts->TH n t){i t k}(a:Z8 ts i 1=.ok (t,k)):Dg t.text:=
 have:=QK h a
 this.1.1 this.2
theorem yJ (h:∀t,t∈ts->TH n t){want}:∀m i a l k,ts.length-i=m->(∀t,t∈a->TH n t/\t.sort=want)->XT ts i want a=.ok (l,k)->(∀t,t∈l->TH n t/\t.sort=want)/\l.length<=a.length+(ts.length-i):=by
 intro m
 induction m using x7 with
 |ind m o=>
  intro i a l k s d b;rw[XT]at b
  split at b
  ·rename_i p
   have q:=Um p
   split at b
   ·cases b
   rename_i t f g
   have e:=(Ys g).2.2
   have:=o (ts.length-f) (by omega) f _ l k rfl (fun u c=>by
    rcases y7.1 c with c|c
    ·exact d u c
    simp at c;subst c;exact QK h g) b
   refine⟨this.1,?_⟩;have j:=this.2;simp at j;omega
  injection b with b
  injection b with r j;subst r;exact⟨d,by omega⟩
theorem Jo (h:∀t,t∈ts->TH n t){i a l k}(b:Xk ts i a=.ok (l,k)):(∀t,t∈l->TH n t/\t.sort=a)/\l.length<=1+ts.length:=by
 unfold Xk at b
 split at b
 ·cases b
 rename_i t d e
 have:=yJ h _ d [t] l k rfl (fun u c=>by simp at c;subst c;exact QK h e) b;exact⟨this.1,by have:=this.2;simp at this;omega⟩
theorem NC (h:∀t,t∈ts->TH n t){i kw l k}(a:Xg ts i kw=.ok (l,k)):(∀t,t∈l->Dg t.text)/\l.length<=1+ts.length:=by
 unfold Xg at a
 split at a
 ·have:=Jo h a
  exact⟨fun t b=>(this.1 t b).1.1 (this.1 t b).2,this.2⟩
 injection a with a
 injection a with c _;subst c;exact⟨by simp,by simp⟩
theorem Jp (h:∀t,t∈ts->TH n t){i d k}(c:UR ts i=.ok (d,k)):Dg d.1.text/\Dg d.2.text:=by
 rw[WH]at c;obtain⟨a,g,e,c⟩:=bI c;obtain⟨_,j,l,c⟩:=bI c;obtain⟨b,m,f,c⟩:=bI c;injection c with c;injection c with c _;subst c;exact⟨QL h e,QL h f⟩
theorem Fi (h:∀t,t∈ts->TH n t){i kw o k}(a:Wp ts i kw=.ok (o,k)):∀b,o=J b->Dg b.1.text/\Dg b.2.text:=by
 unfold Wp at a
 split at a
 ·obtain⟨b,j,d,c⟩:=bI a
  injection c with c;injection c with c _;subst c;intro f e;injection e with e;subst e;exact Jp h d
 injection a with a
 injection a with a _;subst a;intro b e
 cases e
theorem Cc (h:∀t,t∈ts->TH n t){i a k}(c:Xh ts i=.ok (a,k)):a.routes.length<=1+ts.length:=by
 unfold Xh at c
 split at c
 ·injection c with c;injection c with c _;subst c;simp
 split at c
 ·obtain⟨l,j,d,b⟩:=bI c
  injection b with b;injection b with b _;subst b;exact(Jo h d).2
 obtain⟨l,j,d,b⟩:=bI c
 injection b with b;injection b with b _;subst b;exact(Jo h d).2
theorem Am (h:∀t,t∈ts->TH n t)(s:n<=3000)(F:ts.length<=3999){i e k}(o:ZU ts i=.ok (e,k)):VA e:=by
 unfold ZU at o
 split at o
 ·obtain⟨r,j,m,l⟩:=bI o
  injection l with l;injection l with l _;subst l;unfold WG at m;obtain⟨a,y,g1,m⟩:=bI m;obtain⟨b,u,g2,m⟩:=bI m;obtain⟨c,z,g3,m⟩:=bI m;injection m with m;injection m with m _;subst m;exact⟨z7 (QK h g1).1.2.1 s,QL h g2,QL h g3⟩
 obtain⟨_,j,m,o⟩:=bI o
 obtain⟨r,u,l,o⟩:=bI o;injection o with o;injection o with o _;subst o;unfold Wg at l;obtain⟨a,y,g1,l⟩:=bI l;obtain⟨b,u,g2,l⟩:=bI l;obtain⟨_,z,g3,l⟩:=bI l;obtain⟨_,G,H,l⟩:=bI l;obtain⟨c,I,v,l⟩:=bI l;obtain⟨d,J,A,l⟩:=bI l;obtain⟨f,K,B,l⟩:=bI l;obtain⟨g,L,C,l⟩:=bI l;obtain⟨_,M,N,l⟩:=bI l;obtain⟨D,E,p,l⟩:=bI l;injection l with l;injection l with l _;subst l;have w:=NC h A;have x:=NC h C;have q:=Cc h p;exact⟨z7 (QK h g1).1.2.1 s,QL h g2,(Jp h v).1,(Jp h v).2,w.1,x.1,Fi h B,z7 w.2 (by omega),z7 x.2 (by omega),z7 q (by omega)⟩
theorem ND (h:∀t,t∈ts->TH n t)(s:n<=3000)(v:ts.length<=3999):∀m i c g k,ts.length-i=m->(∀x,x∈c->VA x)->Zr ts i c=.ok (g,k)->∀x,x∈g->VA x:=by
 intro m
 induction m using x7 with
 |ind m w=>
  intro i c g k y p a;by_cases d:(Zo ts i).sort=3
  ·rw[XA d]at a
   injection a with a;injection a with a _;subst a;exact p
  cases f:ZU ts i with
  |error l=>rw[YJ d f]at a;cases a
  |ok r=>
   obtain⟨e,j⟩:=r
   cases b:ZE ts j Va with
   |error l=>rw[Y8 d f b]at a;cases a
   |ok r=>
    obtain⟨u,q⟩:=r;rw[X3 d f b]at a;have z:=WV f;have A:=Yt b
    have B:i<ts.length:=by
     rcases Nat.lt_or_ge i ts.length with o|o
     ·exact o
     exfalso
     apply d;unfold Zo;rw[gD,List.getElem?_eq_none o];rfl
    refine w (ts.length-q) (by omega) q _ g k rfl (fun x b=>?_) a;rcases y7.1 b with b|b
    ·exact p x b
    simp at b;subst b;exact Am h s v f
end
theorem NE (w b0 b1 ve a N)(h:w.ownsRow b0 256 1 ve a.length N)(hv:YU b1 w a N)(ho:∀x,x∈a->VA x)(hn:a.length<=4000):
  y6 H 102 #[ve] w (SO (ZR [] [] a) w):=by
 have HO:=Za ho;have HV:=Za hv;have HA:=(Vx w (A #[Y I 0 0,Y I 0 0] 89)).1;have C:=Za (wS w);by_cases O:0<a.length
 ·obtain⟨g,cap,rfl,hb,hl⟩:=h.form O
  have E:∀k,(⟨g,0,I⟩:Addr).add k=⟨g,k,I⟩:=fun k=>by unfold Addr.add;split<;>simp_all
  have HC:T (∀j v,N[j]?=J v->w.cell? ⟨g,j,I⟩=J v):=fun j v hj=>by have:=h.cells (g:=g) rfl j v hj;rwa [E]at this
  go_enter Tryz.func102,Tryz.ntmps102;go_wp2_with fail
  go_loopg [5,10] a.length (fun m _ c wr=>∃j rts d vr vl M,j<=a.length/\m=a.length-j/\c=Z U j/\T (Bk wr w.heap.size vr vl rts d M)/\T (Below w.heap.size w wr)/\T (ZR [] [] a=ZR rts d (a.drop j)))
  case atStart=>exact⟨0,[],[],_,_,_,q4 _,rfl,rfl,C,HA.o.below (z3 _),rfl⟩
  obtain⟨j,rts,d,vr,vl,M,hj,rfl,rfl,P,l,F⟩:=hrel;by_cases Q:j<a.length
  ·obtain⟨x,R⟩:∃x,a[j]?=J x:=⟨_,gE Q⟩
   obtain⟨v,V,hE⟩:=L6 HV.o R;have HX:=Za (hE.fr (Fr.of_below (S:=fun _=>False) l.o) (by simp) (z3 _));have G:=Za (HO.o x (mG R));have W:wr.cell? ⟨g,j,I⟩=J v:=(l.o.cell (p:=⟨g,j,I⟩) hl).trans (HC.o j v V)
   have b:T (a.drop j=x::a.drop (j+1)):=by
    obtain⟨K,n⟩:=iG.1 R
    show _=_
    rw[dC K,n]
   have X:(j:Int)<(a.length:Int):=by omega
   cases x with
   |route r=>
    have a0:v=.iface 290 (UT r):=HX.o;subst a0
    have hm:∀w:D,(method 506 290 (UT r) "junction/rules.addTo").run H w=.ok (314,UT r) w:=fun _=>by kernel_rfl
    go_wp2_with fail;refine(yG _ w.heap.size _ _ rts d M r P.o G.o).mono ?_;intro e w2 L
    cases i:Vs rts d (.route r)with
    |error f=>
     obtain⟨n,q⟩:=(VN.err i).1 L;unfold Zj at n;subst n
     have hu:ZR [] [] a=.error f:=by rw[F.o,b.o];exact YR i
     exact⟨rfl,(SO.err hu).2 ⟨rfl,l.o.trans q⟩⟩
    |ok p=>
     obtain⟨rfl,⟨s,t,u,hk⟩,q⟩:=(VN.ok i).1 L;have y:=Za hk;have z:=Za (l.o.trans q)
     have B:T (ZR [] [] a=ZR p.1 p.2 (a.drop (j+1))):=by show _=_;rw[F.o,b.o];exact Xm i
     go_wp2;go_roundg (a.length-(j+1))
     case measure=>omega
     exact⟨j+1,p.1,p.2,s,t,u,by omega,rfl,by go_num,y,z,B⟩
   |rule r=>
    obtain⟨vm,vc,vp,rfl,c0,d0,e0⟩:=HX.o;have f0:=Za c0;have g0:=Za d0;have h0:=Za e0
    have hm:∀w:D,(method 506 295 (P7 r vm vc vp) "junction/rules.addTo").run H w=.ok (318,P7 r vm vc vp) w:=fun _=>by kernel_rfl
    go_wp2_with fail;refine(yH _ w.heap.size b1 _ _ rts d M r vm vc vp P.o G.o f0.o g0.o h0.o).mono ?_;intro e w2 L
    cases i:Vs rts d (.rule r)with
    |error f=>
     obtain⟨n,q⟩:=(VN.err i).1 L;unfold Zj at n;subst n
     have hu:ZR [] [] a=.error f:=by rw[F.o,b.o];exact YR i
     exact⟨rfl,(SO.err hu).2 ⟨rfl,l.o.trans q⟩⟩
    |ok p=>
     obtain⟨rfl,⟨s,t,u,hk⟩,q⟩:=(VN.ok i).1 L;have y:=Za hk;have z:=Za (l.o.trans q)
     have B:T (ZR [] [] a=ZR p.1 p.2 (a.drop (j+1))):=by show _=_;rw[F.o,b.o];exact Xm i
     go_wp2;go_roundg (a.length-(j+1))
     case measure=>omega
     exact⟨j+1,p.1,p.2,s,t,u,by omega,rfl,by go_num,y,z,B⟩
  have X:¬(j:Int)<(a.length:Int):=by omega
  have HQ:T (ZR [] [] a=.ok (rts,d)):=by show _=_;rw[F.o,dL (by omega)];rfl
  go_wp2;go_ret;exact(SO.ok HQ.o).2 ⟨rfl,⟨_,_,_,P.o⟩,l.o⟩
 have hz:a=[]:=z8 (by omega)
 subst hz;rcases h.2 with⟨rfl,_⟩|⟨g,cap,i0,rfl,_⟩
 all_goals
  go_enter Tryz.func102,Tryz.ntmps102;go_wp2_with fail
  go_loopg [5,10] 1 (fun m _ c wr=>m=1/\c=Z U 0/\wr=w.alloc (A #[Y I 0 0,Y I 0 0] 89))
  case atStart=>exact⟨rfl,rfl,rfl⟩
  obtain⟨rfl,rfl,rfl⟩:=hrel;go_wp2;go_ret;exact(SO.ok (p:=([],[])) rfl).2 ⟨rfl,⟨_,_,_,C.o⟩,HA.o.below (z3 _)⟩
def XE (s:ByteArray):Except (Nat×Nat) (List Zf×List Ze):=
 if 3000<s.size then .error (1,0)
 else match ZK s 0 1 []with
  | .error l=>.error (2,l)
  | .ok ts=>match Zr ts 0 []with
   | .error l=>.error (3,l)
   | .ok (xs,_)=>ZR [] [] xs
def Sr (x:Except (Nat×Nat) (List Zf×List Ze))(w:D)(e:Ending)(w':D):Prop:=
 match x with
 | .ok p=>(∃B a b c,e=M (O (J ⟨B,0,I⟩))/\w.heap.size<=B/\Bk w' B a b p.1 p.2 c)/\Below w.heap.size w w'
 | .error f=>e=Zj f.1 f.2/\Below w.heap.size w w'
theorem Sr.ok {x w w' e p}(h:x=.ok p):Sr x w e w'↔(∃B a b c,e=M (O (J ⟨B,0,I⟩))/\w.heap.size<=B/\Bk w' B a b p.1 p.2 c)/\Below w.heap.size w w':=by subst h;exact Iff.rfl
theorem Sr.err {x w w' e f}(h:x=.error f):Sr x w e w'↔e=Zj f.1 f.2/\Below w.heap.size w w':=by subst h;exact Iff.rfl
theorem Vk.ok {w w' s e ts}(h:ZK s 0 1 []=.ok ts):Vk w s e w'↔(∃v,e=M v/\w'.ownsRow w.heap.size 263 3 v ts.length (Yr ts)/\ts.length<=s.size+1)/\Below w.heap.size w w':=by unfold Vk;rw[h]
theorem Vk.err {w w' s e l}(h:ZK s 0 1 []=.error l):Vk w s e w'↔e=Zj 2 l/\Below w.heap.size w w':=by unfold Vk;rw[h]
theorem WJ.ok {w w' ts e a k}(h:Zr ts 0 []=.ok (a,k)):WJ w ts e w'↔(∃v b,e=M v/\w'.ownsRow w.heap.size 256 1 v a.length b/\YU w.heap.size w' a b/\a.length<=4000)/\Below w.heap.size w w':=by unfold WJ;rw[h]
theorem WJ.err {w w' ts e l}(h:Zr ts 0 []=.error l):WJ w ts e w'↔e=Zj 3 l/\Below w.heap.size w w':=by unfold WJ;rw[h]
theorem An (s w):y6 H 58 #[W s] w (Sr (XE s) w):=by
 by_cases N:3000<s.size
 ·have U:T (XE s=.error (1,0)):=by show _=_;unfold XE;rw[if_pos N]
  go_enter Tryz.func58,Tryz.ntmps58;go_wp2;exact⟨rfl,(Sr.err U.o).2 ⟨rfl,Below.refl _ _⟩⟩
 have n:=Za N
 go_enter Tryz.func58,Tryz.ntmps58;go_wp2_with fail;refine(B4 s w (by have:=n.o;omega)).mono ?_;intro e E h
 cases u:ZK s 0 1 []with
 |error l=>
  obtain⟨i,b⟩:=(Vk.err u).1 h;unfold Zj at i;subst i;exact⟨rfl,(Sr.err (f:=(2,l)) (by unfold XE;rw[if_neg n.o,u])).2 ⟨rfl,b⟩⟩
 |ok ts=>
  obtain⟨⟨v,rfl,a,x⟩,b⟩:=(Vk.ok u).1 h;obtain⟨y,q,m⟩:=SN _ 0 1 [] ts rfl (by simp) u;obtain⟨g,cap,rfl,hb,V⟩:=a.form m
  have z:∀k,(⟨g,0,I⟩:Addr).add k=⟨g,k,I⟩:=fun k=>by unfold Addr.add;split<;>simp_all
  have A:=Za y;have F:=Za x;have O:=Za u;have d:=Za b
  have X:T (y6 H 103 #[Y (J ⟨g,0,I⟩) ts.length cap] E (WJ E ts)):=by
   refine D6 E g cap ts (fun j t Z=>?_) V m (by have:=n.o;omega) q;obtain⟨t0,t1,t2⟩:=Pt ts j t Z;have P:=a.cells (g:=g) rfl _ _ t0;have Q:=a.cells (g:=g) rfl _ _ t1;have R:=a.cells (g:=g) rfl _ _ t2;rw[z]at P Q R;exact⟨P,Q,R⟩
  go_wp2_with fail;refine X.o.mono ?_;intro e w2 h
  cases B:Zr ts 0 []with
  |error l=>
   obtain⟨i,b⟩:=(WJ.err B).1 h;unfold Zj at i;subst i;exact⟨rfl,(Sr.err (f:=(3,l)) (by unfold XE;rw[if_neg n.o,O.o];dsimp only;rw[B])).2 ⟨rfl,d.o.trans (b.mono d.o.size)⟩⟩
  |ok r=>
   obtain⟨C,k⟩:=r;obtain⟨⟨v,vs,rfl,a,G,K⟩,b⟩:=(WJ.ok B).1 h;have HE:=Za (ND A.o (by have:=n.o;omega) (by have:=n.o;have:=F.o;omega) _ 0 [] C k rfl (by simp) B);have HU:=Za (NE w2 _ _ v C vs a G HE.o K)
   have S:T (XE s=ZR [] [] C):=by show _=_;unfold XE;rw[if_neg n.o,O.o];dsimp only;rw[B]
   have c:=Za (d.o.trans (b.mono d.o.size));obtain⟨a1,a2,a3,rfl⟩:=ZB a;go_wp2_with fail;refine HU.o.mono ?_;intro e w3 h
   cases D:ZR [] [] C with
   |error f=>
    obtain⟨i,b⟩:=(SO.err D).1 h;unfold Zj at i;subst i;exact⟨rfl,(Sr.err (S.o.trans D)).2 ⟨rfl,c.o.trans (b.mono c.o.size)⟩⟩
   |ok p=>
    obtain⟨rfl,L,b⟩:=(SO.ok D).1 h;have HK:=Za L;have M:=Za (c.o.trans (b.mono c.o.size));have HM:=Za (S.o.trans D);go_wp2;go_ret;obtain⟨vr,vl,ys,L⟩:=HK.o;exact(Sr.ok HM.o).2 ⟨⟨_,_,_,_,rfl,c.o.size,L⟩,M.o⟩
section
variable {P:Program} {ops:Array Oper} {Q:Exit->Act->List Frame->D->Prop} {a:Act} {cs cs':List Frame} {w w':D} {o:Oper} {v:L}
theorem L8 {f n2 q}(b:∀a w,f a w->n2 a w){r}(h:o.upon P a f q r):o.upon P a n2 q r:=by
 unfold Oper.upon at h ⊢
 split at h
 ·exact b _ _ h
 ·exact b _ _ h
 ·exact b _ _ h
 ·refine h.mono ?_
  intro e w' d
  cases e with
  |returned v=>exact b _ _ d
  |panicked c=>exact d
  |outgrown=>exact d
 ·exact h.mono fun _ _ d=>b _ _ d
 ·exact h
 exact h.elim
theorem T8 (b:∀a w,¬Q .outgrown a cs w):∀(l:List Oper)(k:Nat),(∀j,l[j]?=ops[k+j]?)->∀(a:Act)(w:D),wpList P ops (fun e a w=>Q e a cs w) l a w->wpOpsS P ops Q (x4 k l.length) a cs w
 |[],k,_,a,w,h=>h
 |o::l,k,hl,a,w,h=>by
  have g:ops[k]?=J o:=by simpa using(hl 0).symm
  have f:=T8 b l (k+1) (fun j=>by have:=hl (j+1);simpa[Nat.add_assoc,x3 1 j]using this);simp only[C,z9,wpOpsS,g];simp only[wpList]at h
  split at h
  ·rename_i c
   rw[if_pos c];rcases h with h|⟨_,d,w',h⟩
   ·unfold Oper.wp at h
    split
    ·rename_i w' i
     rw[i]at h;exact absurd h (by simp[Oper.upon])
    exact L8 (fun d w' h=>f d w' h) h
   exact absurd h (b d w')
  rename_i c
  rw[if_neg c];exact f _ _ h
theorem Tj {k g:Exit->Act->D->Prop}(d:∀e a w,k e a w->g e a w):∀(l:List Oper)(a:Act)(w:D),wpList P ops k l a w->wpList P ops g l a w
 |[],a,w,h=>d _ _ _ h
 |o::l,a,w,h=>by
  simp only[wpList]at h ⊢
  split at h
  ·rename_i i
   rw[if_pos i];rcases h with h|⟨m,j,w',h⟩
   ·left
    have b:=L8 (n2:=wpList P ops g l) (fun a w f=>Tj d l a w f) h;unfold Oper.wp;unfold Oper.upon at b ⊢
    split at b
    ·exact b
    ·exact b
    ·exact b
    ·refine b.mono ?_
     intro e w' f
     cases e with
     |returned v=>exact f
     |panicked c=>exact d _ _ _ f
     |outgrown=>obtain⟨j,w',f⟩:=f;exact⟨j,w',d _ _ _ f⟩
    ·exact b
    ·exact d _ _ _ b
    exact b.elim
   exact x2 ⟨m,j,w',d _ _ _ h⟩
  rename_i i
  rw[if_neg i];exact Tj d l _ _ h
theorem Oe {id y o l}(b:ops.toList=o::l)(f:Region.wanted o (yielded ops a.tmps)=true)(g:(execOp a.eval o).run P w=.ok .recover w')(i:recoverD cs=J (v,cs'))(c:∀a w,¬Q .outgrown a cs' w)(h:wpList P ops (Exit.then (y.wp P (fun e a w=>Q e a cs' w)) (fun e a w=>Q e a cs' w)) l (a.put o.dst v) w'):(Code.seq (.region id ops false) y).wpS P Q a cs w:=by
 refine wpS_seq (wpS_region ?_)
 have k:ops[0]?=J o:=by rw[<-Array.getElem?_toList,b];rfl
 have m:q5 ops.size=0::x4 1 l.length:=by rw[<-Array.length_toList,b,x0,C,z9]
 rw[m];simp only[wpOpsS,k,f,if_true,g,i];refine T8 (Q:=Exit.thenS (y.wpS P Q) Q) (fun a w=>c a w) l 1 (fun j=>?_) _ _ ?_
 ·rw[<-Array.getElem?_toList,b,x3,y4]
 have n:∀e a w,Exit.then (y.wp P (fun e a w=>Q e a cs' w)) (fun e a w=>Q e a cs' w) e a w->Exit.thenS (y.wpS P Q) Q e a cs' w:=fun e a w d=>by
  cases e with
  |normal=>exact wpS_of_wp d
  |_=>exact d
 exact Tj n l _ _ h
end
theorem OF (a b c)(k l:Nat)(v0 v1 v2 w)(t:w.cell? ⟨a,0,I⟩=J v0)(z:w.cell? ⟨b,0,I⟩=J v1)(B:w.cell? ⟨c,0,I⟩=J v2)(F:w.frozen? ⟨a,0,I⟩=false)(K:w.frozen? ⟨b,0,I⟩=false)(P:w.frozen? ⟨c,0,I⟩=false)(g:¬a=b)(i:¬a=c)(m:¬b=c)(n:¬b=a)(q:¬c=a)(r:¬c=b):
  CallsD H 57 #[O (J ⟨a,0,I⟩),O (J ⟨b,0,I⟩),O (J ⟨c,0,I⟩)] (.panicking [{v:=.iface 111 (y9 #[Z U k,Z U l]),recovered:=false}]) w fun e Q w'=>
   e=M (.tuple #[])/\Q=.panicking [{v:=.iface 111 (y9 #[Z U k,Z U l]),recovered:=true}]/\
    w'.cell? ⟨a,0,I⟩=J (O I)/\w'.cell? ⟨b,0,I⟩=J (Z U k)/\w'.cell? ⟨c,0,I⟩=J (Z U l)/\Fr (fun j=>j=a\/j=b\/j=c) w w':=by
 have R:∀w:D,(Instr.typeAssert (.iface 111 (y9 #[Z U k,Z U l])) 20 111 true).run H w=.ok (.tuple #[y9 #[Z U k,Z U l],G true]) w:=fun _=>by kernel_rfl
 refine callsD_of_wpS Tryz.func57 rfl fun S T V=>?_
 have W:(#[O (J ⟨a,0,I⟩),O (J ⟨b,0,I⟩),O (J ⟨c,0,I⟩)]++Array.replicate (Tryz.f57.ntmps-(#[O (J ⟨a,0,I⟩),O (J ⟨b,0,I⟩),O (J ⟨c,0,I⟩)]:Array L).size) undef:Array L)=#[O (J ⟨a,0,I⟩),O (J ⟨b,0,I⟩),O (J ⟨c,0,I⟩),undef,undef,undef,undef,undef,undef,undef,undef,undef,undef,undef,undef]:=by rw[show Tryz.f57.ntmps=15 from rfl];rfl
 rw[W];refine Oe (v:=.iface 111 (y9 #[Z U k,Z U l])) (cs':={S with mode:=.panicking [{v:=.iface 111 (y9 #[Z U k,Z U l]),recovered:=true}]}::T) (w':=w) (o:=?o) (l:=?l) ?ho ?hw ?hx ?hr ?hno ?main
 case ho=>rfl
 case hw=>kernel_rfl
 case hx=>rfl
 case hr=>simp only[recoverD,V]
 case hno=>intro a w s;obtain⟨u,s,_⟩:=s;cases s
 show wpList H _ _ _ {tmps:=#[O (J ⟨a,0,I⟩),O (J ⟨b,0,I⟩),O (J ⟨c,0,I⟩),undef,undef,undef,.iface 111 (y9 #[Z U k,Z U l]),undef,undef,undef,undef,undef,undef,undef,undef],defers:=[]} w
 go_wp2;have C:a<w.heap.size:=bL w _ t;have lb:b<w.heap.size:=bL w _ z;have E:c<w.heap.size:=bL w _ B;have f:=(Lp w (A #[Z U k,Z U l] 111)).1;have X:=Za f;have g0:=(f.cell (p:=⟨a,0,I⟩) C).trans t;have g1:=(f.cell (p:=⟨b,0,I⟩) lb).trans z;have g2:=(f.cell (p:=⟨c,0,I⟩) E).trans B;have y0:=(f.frozen (p:=⟨a,0,I⟩) C).trans F;have y1:=(f.frozen (p:=⟨b,0,I⟩) lb).trans K;have y2:=(f.frozen (p:=⟨c,0,I⟩) E).trans P;have k0:=bC (aN w (A #[Z U k,Z U l] 111)) 0 _ rfl;have k1:=bC (aN w (A #[Z U k,Z U l] 111)) 1 _ rfl;generalize hN:w.heap.size=N at*;generalize w.alloc _=wA at*
 have na:¬a=N:=by omega
 have nb:¬b=N:=by omega
 have nc:¬c=N:=by omega
 have Y:¬N=a:=by omega
 have a0:¬N=b:=by omega
 have b0:¬N=c:=by omega
 go_region
 have d:∀(v:D)(x y:Nat)(u:L),¬x=y->(v.setCell ⟨x,0,I⟩ u).cell? ⟨y,0,I⟩=v.cell? ⟨y,0,I⟩:=fun v x y u h=>cO _ _ _ _ (fun e=>h (by injection e))
 refine⟨rfl,_,rfl,.tuple #[],results_none rfl _ _ _,rfl,rfl,?_,?_,?_,?_⟩
 ·exact(d _ c a _ q).trans ((d _ b a _ n).trans (cS _ _ _ g0))
 ·exact(d _ c b _ r).trans (cS _ _ _ ((d _ a b _ g).trans g1))
 ·exact cS _ _ _ ((d _ b c _ m).trans ((d _ a c _ i).trans g2))
 exact((((X.o.mono).setCell (p:=⟨a,0,I⟩) (y8 (y8 rfl)) _).setCell (p:=⟨b,0,I⟩) (y8 (x2 (y8 rfl))) _).setCell (p:=⟨c,0,I⟩) (y8 (x2 (x2 rfl))) _).drew
theorem QM {P b Q a c w w' id y o l}(d:b.toList=o::l)(i:Region.wanted o (yielded b a.tmps)=true)(k:(execOp a.eval o).run P w=.ok .recover w')(m:recoverD c=I)(f:∀a w,¬Q .outgrown a c w)(h:wpList P b (Exit.then (y.wp P (fun e a w=>Q e a c w)) (fun e a w=>Q e a c w)) l (a.put o.dst .nilIface) w'):(Code.seq (.region id b false) y).wpS P Q a c w:=by
 refine wpS_seq (wpS_region ?_)
 have n:b[0]?=J o:=by rw[<-Array.getElem?_toList,d];rfl
 have p:q5 b.size=0::x4 1 l.length:=by rw[<-Array.length_toList,d,x0,C,z9]
 rw[p];simp only[wpOpsS,n,i,if_true,k,m];refine T8 (Q:=Exit.thenS (y.wpS P Q) Q) (fun a w=>f a w) l 1 (fun j=>?_) _ _ ?_
 ·rw[<-Array.getElem?_toList,d,x3,y4]
 have q:∀e a w,Exit.then (y.wp P (fun e a w=>Q e a c w)) (fun e a w=>Q e a c w) e a w->Exit.thenS (y.wpS P Q) Q e a c w:=fun e a w g=>by
  cases e with
  |normal=>exact wpS_of_wp g
  |_=>exact g
 exact Tj q l _ _ h
theorem Fj (a b c w):
  CallsD H 57 #[O (J ⟨a,0,I⟩),O (J ⟨b,0,I⟩),O (J ⟨c,0,I⟩)] .returning w fun e g w'=>
   e=M (.tuple #[])/\g=.returning/\F0 w w':=by
 have h:∀w:D,(Instr.typeAssert .nilIface 20 111 true).run H w=.ok (.tuple #[y9 #[Z U 0,Z U 0],G false]) w:=fun _=>by kernel_rfl
 refine callsD_of_wpS Tryz.func57 rfl fun k m f=>?_
 have i:(#[O (J ⟨a,0,I⟩),O (J ⟨b,0,I⟩),O (J ⟨c,0,I⟩)]++Array.replicate (Tryz.f57.ntmps-(#[O (J ⟨a,0,I⟩),O (J ⟨b,0,I⟩),O (J ⟨c,0,I⟩)]:Array L).size) undef:Array L)=#[O (J ⟨a,0,I⟩),O (J ⟨b,0,I⟩),O (J ⟨c,0,I⟩),undef,undef,undef,undef,undef,undef,undef,undef,undef,undef,undef,undef]:=by rw[show Tryz.f57.ntmps=15 from rfl];rfl
 rw[i];refine QM (w':=w) (o:=?o) (l:=?l) ?ho ?hw ?hx ?hr ?hno ?main
 case ho=>rfl
 case hw=>kernel_rfl
 case hx=>rfl
 case hr=>simp only[recoverD,f]
 case hno=>intro a w d;obtain⟨u,d,_⟩:=d;cases d
 show wpList H _ _ _ {tmps:=#[O (J ⟨a,0,I⟩),O (J ⟨b,0,I⟩),O (J ⟨c,0,I⟩),undef,undef,undef,.nilIface,undef,undef,undef,undef,undef,undef,undef,undef],defers:=[]} w
 have j:=Za f;go_wp2;refine⟨rfl,.returning,by rw[<-j.o],.tuple #[],results_none rfl _ _ _,rfl,rfl,Zt.alloc _⟩
