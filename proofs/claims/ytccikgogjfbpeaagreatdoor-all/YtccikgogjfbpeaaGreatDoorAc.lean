import Derived.Test.YtccikgogjfbpeaaGreatDoorAb
import Derived.Lib.ItoaNum
import Derived.Defers
import Derived.Recover
open Option renaming none->I,some->J
open Go.Value renaming slice->Y,pointer->Z,int->U,bool->L,string->F,agg->y7
open Go.IntKind renaming i64->O
open Go.Proofs.Tryz renaming prog->H
open Go renaming World->D,Value->M,Calls->y8
open Go.Ending renaming returned->G
open Go.RowKit renaming Hid->T
open Go.Obj renaming cells->W
open List renaming length_cons->A,map_cons->C,any_cons->z4,range'_succ->z8,length_eq_zero_iff->z9,getElem?_cons_succ->y3,mem_append->y4,range_eq_range'->y9,getElem_of_mem->x0,range'->x3,cons_append->x4,map_append->x6,replicate->x7,range->x8
open Nat renaming le_refl->z3,le_trans->z6,zero_add->z7,add_comm->x2,strongRecOn->x5
open And renaming intro->z5
open Or renaming inl->y6,inr->x1
open Go.Proofs.Tryz
namespace Go.Proofs.YtccikgogjfbpeaaGreatDoor
set_option linter.defProp false
set_option maxRecDepth 30000
set_option maxHeartbeats 8000000
open Go.RowKit
def Ya (b:List Zf)(c:List Ze)(r:Pj):Except (Nat×Nat) Ze:=
 if c.length=8 then .error (6,r.name.line)
 else if XR r.name.text c=true then .error (4,r.name.line)
 else if 1000<Zd r.rank then .error (5,r.rank.line)
 else if 6<r.bin.1.text.size then .error (5,r.bin.1.line)
 else if r.bin.2.text.size≠r.bin.1.text.size then .error (5,r.bin.2.line)
 else if¬Zd r.bin.1<=Zd r.bin.2 then .error (5,r.bin.2.line)
 else match Zq 9999 0 r.mcc with
 | .error f=>.error f
 | .ok d=>if r.amount.any (fun a=>decide (¬Zd a.1<=Zd a.2))=true then .error (5,(r.amount.map (fun a=>a.2.line)).getD 0)
  else match Zq 999 0 r.cur with
  | .error f=>.error f
  | .ok e=>match Zx b 0 r.act.routes with
   | .error f=>.error f
   | .ok g=>.ok ⟨r.name.text,Zd r.rank,r.bin.1.text.size,Zd r.bin.1,Zd r.bin.2,d,r.amount.map (fun a=>(Zd a.1,Zd a.2)),e,r.act.decline,r.act.cheapest,g,b.length⟩
def Kn:(H.info? 120).map (fun i=>(i.zero,i.size,i.bytes))=J (J (y7 #[F ByteArray.empty,U O 0,U O 0,U O 0,U O 0,Y I 0 0,L false,U O 0,U O 0,Y I 0 0,L false,L false,Y I 0 0,U O 0]),14,160):=n
def TO (x:Except (Nat×Nat) Ze)(w:D)(B:Nat)(g:M)(a:List Zf)(b:List Ze)(h:List M)(e:Ending)(d:D):Prop:=
 match x with
 | .ok r=>e=G (.tuple #[])/\(∃i c,Bk d B g i a (b++[r]) (h++c))/\Below B w d
 | .error f=>e=Zj f.1 f.2/\Below B w d
def TO.ok {x w w' B d a b f e r}(h:x=.ok r):TO x w B d a b f e w'↔e=G (.tuple #[])/\(∃g c,Bk w' B d g a (b++[r]) (f++c))/\Below B w w':=by subst h;exact Iff.rfl
def TO.err {x w c B d a b g e f}(h:x=.error f):TO x w B d a b g e c↔e=Zj f.1 f.2/\Below B w c:=by subst h;exact Iff.rfl
def El {w l b B x m V d a s C c}(h:Bk w B x m d a s)(y:zH (B+1) w C c)(f:Below w.heap.size w l)(g:l.grownBy b m.ownBlock)(E:b.ownsRow (B+1) 120 14 V (a.length+1) (s++c)):
  b.cell? ⟨B,1,I⟩=J m/\(∀o,b.frozen? ⟨B,o,I⟩=false)/\(a.length<=7->Bk (b.setCell ⟨B,1,I⟩ V) B x V d (a++[C]) (s++c)/\Below B w (b.setCell ⟨B,1,I⟩ V)):=by
 have t:B<w.heap.size:=bL w _ h.c0
 have i:∀j,j<=B->J j≠m.ownBlock:=fun j H e=>aj (h.lo.lt j e.symm)
 have z:∀o,b.cell? ⟨B,o,I⟩=w.cell? ⟨B,o,I⟩:=fun o=>(g.cell_far ⟨B,o,I⟩ (nL t f.size) (i B (z3 _))).trans (f.cell (p:=⟨B,o,I⟩) t)
 have D:∀o,b.frozen? ⟨B,o,I⟩=w.frozen? ⟨B,o,I⟩:=fun o=>(g.frozen_far ⟨B,o,I⟩ (nL t f.size) (i B (z3 _))).trans (f.frozen (p:=⟨B,o,I⟩) t)
 have q:l.ownsRow (B+1) 120 14 m a.length s:=oF h.lo (Fr.of_below (S:=fun _=>False) f);have F:Below B w b:=(f.mono az).trans ⟨g.os,g.tape,g.output,g.size,fun k A=>g.block k (nL az f.size) (i k az)⟩
 have A:∀v n u,w.ownsRow (B+1) 3 1 v n u->(b.setCell ⟨B,1,I⟩ V).ownsRow (B+1) 3 1 v n u:=fun v n u G=>by
  have r:l.ownsRow (B+1) 3 1 v n u:=oF G (Fr.of_below (S:=fun _=>False) f);exact oB (r.kept g (WP r q aB)) aA _
 refine⟨(z 1).trans h.c1,fun o=>(D o).trans (h.fz o),fun K=>⟨⟨?_,?_,fun o=>by simp[D o,h.fz o],?_,?_,TM.snoc (y.keep A) (TM.keep A h.ru),h.r6,aF⟩,F.setCell aA _⟩⟩
 ·rw[cO _ _ _ _ aA];exact(z 0).trans h.c0
 ·exact cS _ _ _ ((z 1).trans h.c1)
 ·have r:l.ownsRow (B+1) 148 3 x d.length (Ym d):=oF h.ro (Fr.of_below (S:=fun _=>False) f);exact oB (r.kept g (WP r q aB)) aA _
 rw[lA];exact oB E aA _
structure S0 (w wc:D)(N:Nat)(es cs:Array M)(rs:List (M×List Nat)):Prop where
 fr:F0 w wc
 he:wc.heap[w.heap.size]?=J (W es 295)
 hn:wc.heap[N]?=J (W cs 120)
 nl:w.heap.size<N
 ro:∀x,x∈rs->wc.ownsRow (N+1) 3 1 x.1 x.2.length (Zg x.2)
section
variable {w wc wd:D} {N:Nat} {es cs:Array M} {rs:List (M×List Nat)}
def S0.lt (h:S0 w wc N es cs rs):N<wc.heap.size:=(iA.1 h.hn).1
def S0.step (h:S0 w wc N es cs rs)(a:F0 wc wd):S0 w wd N es cs rs:=⟨h.fr.trans a,a.whole h.he,a.whole h.hn,h.nl,fun x b=>oF (h.ro x b) a⟩
def S0.write (h:S0 w wc N es cs rs)(j u):S0 w (wc.setCell ⟨N,j,I⟩ u) N es (cs.setIfInBounds j u) rs:=
 have a:Fr (fun k=>k=N) wc (wc.setCell ⟨N,j,I⟩ u):=(Fr.refl (fun k=>k=N) _).setCell (p:=⟨N,j,I⟩) (y6 rfl) _;have c:=h.nl
 ⟨h.fr.monoNew a (fun k d=>x1 z),a.whole h.he z,Yq h.hn j u,h.nl,fun x b=>oB (h.ro x b) y u⟩
def S0.row {v l}(h:S0 w wc N es cs rs)(c:F0 wc wd)(d:wd.ownsRow wc.heap.size 3 1 v l.length (Zg l)):S0 w wd N es cs ((v,l)::rs):=
 have a:=h.step c
 ⟨a.fr,a.he,a.hn,a.nl,fun x b=>by
  rcases List.mem_cons.1 b with rfl|b
  ·exact oS d h.lt
  exact a.ro x b⟩
end
def Z0 {w:D}{P e f g i j k l m n o a b c d t}(h:w.heap[P]?=J (W #[e,f,g,i,j,k,l,m,n,o,a,b,c,d] t)):w.cell? ⟨P,0,I⟩=J e/\w.cell? ⟨P,1,I⟩=J f/\w.cell? ⟨P,2,I⟩=J g/\w.cell? ⟨P,3,I⟩=J i/\w.cell? ⟨P,4,I⟩=J j/\w.cell? ⟨P,5,I⟩=J k/\w.cell? ⟨P,6,I⟩=J l/\w.cell? ⟨P,7,I⟩=J m/\w.cell? ⟨P,8,I⟩=J n/\w.cell? ⟨P,9,I⟩=J o/\w.cell? ⟨P,10,I⟩=J a/\w.cell? ⟨P,11,I⟩=J b/\w.cell? ⟨P,12,I⟩=J c/\w.cell? ⟨P,13,I⟩=J d:=⟨Zc h 0,Zc h 1,Zc h 2,Zc h 3,Zc h 4,Zc h 5,Zc h 6,Zc h 7,Zc h 8,Zc h 9,Zc h 10,Zc h 11,Zc h 12,Zc h 13⟩
def tQ {α c}[Decidable c]{a b x:α}(h:T ((if c then a else b)=x))(d:¬c):T (b=x):=by have e:=h.o;rw[if_neg d]at e;exact e
def tS {α c}[Decidable c]{a b x:α}(h:T ((if c then a else b)=x))(d:c):T (a=x):=by have e:=h.o;rw[if_pos d]at e;exact e
def cf {P f a w E}{R:D->Prop}{Q}(h:y8 P f a w fun e w'=>e=E/\R w')(k:∀w',R w'->Q E w'):y8 P f a w Q:=
 h.mono (by rintro e w' ⟨rfl,b⟩;exact k w' b)
def TP {X w wc c B d a b e f}(g:T (.error f=X))(j:B<w.heap.size)(h:F0 w wc)(i:F0 wc c):TO X w B d a b e (Zj f.1 f.2) c:=
 (TO.err g.o.symm).2 ⟨rfl,(h.trans i).below z⟩
def yg (r:Pj):Tk×Tk:=r.amount.getD (⟨0,⟨#[]⟩,0⟩,⟨0,⟨#[]⟩,0⟩)
def Oc (r:Pj)(a:Bool)(b c:Tk)(d e f:M):Array M:=#[U O r.name.sort,F r.name.text,U O r.name.line,U O r.rank.sort,F r.rank.text,U O r.rank.line,U O r.bin.1.sort,F r.bin.1.text,U O r.bin.1.line,U O r.bin.2.sort,F r.bin.2.text,U O r.bin.2.line,d,e,L a,U O b.sort,F b.text,U O b.line,U O c.sort,F c.text,U O c.line,L r.act.decline,L r.act.cheapest,f]
def T3 (b:ByteArray)(c d e f:Int)(g:M)(a:Bool)(h i:Int)(j:M)(k l:Bool)(m:M)(n:Int):Array M:=#[F b,U O c,U O d,U O e,U O f,g,L a,U O h,U O i,j,L k,L l,m,U O n]
def yh (r a b c):OT r a b c=y7 (Oc r r.amount.isSome (yg r).1 (yg r).2 a b c):=by
 unfold OT yg Oc
 cases r.amount<;>rfl
def Hp (w B b0 vr vl j m xs r vm vc vp)(h:Bk w B vr vl j m xs)(a:r.name.text.size<=3000)(dr:Dg r.rank.text)(d1:Dg r.bin.1.text)(d2:Dg r.bin.2.text)(dm:∀t,t∈r.mcc->Dg t.text)(dc:∀t,t∈r.cur->Dg t.text)(da:∀s,r.amount=J s->Dg s.1.text/\Dg s.2.text)(hm:w.ownsRow b0 263 3 vm r.mcc.length (Yw r.mcc))(hc:w.ownsRow b0 263 3 vc r.cur.length (Yw r.cur))(hp:w.ownsRow b0 263 3 vp r.act.routes.length (Yw r.act.routes))(fm:r.mcc.length<=4000)(fc:r.cur.length<=4000)(fp:r.act.routes.length<=4000):
  y8 H 318 #[OT r vm vc vp,Z (J ⟨B,0,I⟩)] w (TO (Ya j m r) w B vr j m xs):=by
 obtain⟨m1,m2,m3,rfl⟩:=ZE hm;obtain⟨c1,c2,c3,rfl⟩:=ZE hc;obtain⟨p1,p2,p3,rfl⟩:=ZE hp;obtain⟨la,lc,rfl⟩:=oL h.lo;obtain⟨ra,rc,rfl⟩:=oL h.ro;obtain⟨ii,z0,A0,B0,C0⟩:=info_parts Kn;obtain⟨X,hX⟩:=ad (Ya j m r);rw[hX,yh];unfold Ya at hX;have c:=Za hX
 have q0:T (r.amount=if r.amount.isSome=true then J ((yg r).1,(yg r).2)else I):=by show _=_;unfold yg;cases r.amount<;>rfl
 have D0:T (r.amount.isSome=true->Dg (yg r).1.text/\Dg (yg r).2.text):=fun e=>by
  unfold yg
  cases q:r.amount with
  |none=>rw[q]at e;cases e
  |some s=>exact da s q
 generalize(yg r).1=aa at*;generalize(yg r).2=s at*;generalize O0:r.amount.isSome=n at*;have HK:=Za h;have u:B<w.heap.size:=bL w _ h.c0;have HD:=Za (z5 a (z5 dr (z5 d1 (z5 d2 (z5 dm dc)))));have HR:=Za (z5 hm (z5 hc hp));have h0:T (r.mcc.length<=4000/\r.cur.length<=4000/\r.act.routes.length<=4000):=⟨fm,fc,fp⟩;have E0:=h.c1;have i0:=(WM w (W (Oc r n aa s (Y m1 m2 m3) (Y c1 c2 c3) (Y p1 p2 p3)) 295)).1;have d0:=Za (aN w (W (Oc r n aa s (Y m1 m2 m3) (Y c1 c2 c3) (Y p1 p2 p3)) 295));obtain⟨e0,e1,e2⟩:=aq d0.o;go_enter func318,ntmps318;by_cases h8:m.length=8
 ·have hq:((m.length:Int)==8)=true:=aF;have c:=tS c h8;go_wp2_with fail;refine cf (YL r.name 6 _ _ aD) ?_
  exact fun w9 d=>show _/\_ from⟨rfl,TP c u i0.o d⟩
 have c:=tQ c h8;have H8:=Za h8;have hq:((m.length:Int)==8)=false:=aF;go_wp2_with fail
 refine cf (Hl _ B _ _ j m xs r.name.text (HK.o.fr i0.o)) fun l d=>?_
 have N:=Za (d.whole d0.o);have r0:=Za (i0.o.trans d);have F0:w.heap.size<l.heap.size:=(iA.1 N.o).1;obtain⟨e0,e1,e2⟩:=aq N.o
 cases hh:XR r.name.text m with
 |true=>
  have c:=tS c hh;go_wp2_with fail;refine cf (YL r.name 4 _ _ aD) ?_
  exact fun w9 d=>show _/\_ from⟨rfl,TP c u r0.o d⟩
 |false=>
  have c:=tQ c (by rw[hh];simp);have Q0:¬w.heap.size=l.heap.size:=az;have R0:¬l.heap.size=w.heap.size:=az;go_wp2_with fail
  refine cf (Vd r.name.text _ HD.o.1) fun w2 d=>?_
  have S2:T (S0 w w2 l.heap.size _ (T3 ⟨#[]⟩ 0 0 0 0 (Y I 0 0) false 0 0 (Y I 0 0) false false (Y I 0 0) 0) []):=⟨(r0.o.alloc _).trans d,d.whole (((Fr.refl (fun _=>False) _).alloc _).whole N.o),d.whole (aN l _),F0,aA⟩;have b:=S2.o.he;unfold Oc at b;have a:=S2.o.hn;unfold T3 at a;have n0:=Zc a 0;have nf:=bF a;have e3:=Zc b 3;have e4:=Zc b 4;have e5:=Zc b 5;go_wp2_with fail;have S3:=Za (S2.o.write 0 (F r.name.text));generalize w2.setCell ⟨l.heap.size,0,I⟩ (F r.name.text)=w3 at*;by_cases z:1000<Zd r.rank
  ·refine cf (Po r.rank _ 1000 _ HD.o.2.1 z aD) ?_
   exact fun w9 d=>show _/\_ from⟨rfl,TP (tS c z) u S3.o.fr d⟩
  have c:=tQ c z
  refine cf (RO r.rank _ 1000 _ HD.o.2.1 az aD) fun w4 d=>?_
  have S4:=Za (S3.o.step d);generalize Zd r.rank=M at*;have b:=S4.o.he;unfold Oc at b;have a:=S4.o.hn;unfold T3 at a;have n1:=Zc a 1;have nf:=bF a;have e6:=Zc b 6;have e7:=Zc b 7;have e8:=Zc b 8;have e9:=Zc b 9;have G0:=Zc b 10;have H0:=Zc b 11;go_wp2_with fail;have S5:T (S0 w _ l.heap.size _ (T3 r.name.text M 0 0 0 (Y I 0 0) false 0 0 (Y I 0 0) false false (Y I 0 0) 0) _):=S4.o.write 1 (U O M);generalize w4.setCell ⟨l.heap.size,1,I⟩ (U O M)=w5 at*;by_cases z:6<r.bin.1.text.size
  ·refine cf (Hf r.bin.1 r.bin.2 _ z) ?_
   exact fun w9 d=>show _/\_ from⟨rfl,TP (tS c z) u S5.o.fr d⟩
  have c:=tQ c z;by_cases f0:r.bin.2.text.size=r.bin.1.text.size
  rotate_left
  ·refine cf (J5 r.bin.1 r.bin.2 _ az f0) ?_
   exact fun w9 d=>show _/\_ from⟨rfl,TP (tS c f0) u S5.o.fr d⟩
  have c:=tQ c (fun e=>e f0)
  refine cf (BC r.bin.1 r.bin.2 _ az f0) fun w6 d=>?_
  have S6:=Za (S5.o.step d);have b:=S6.o.he;unfold Oc at b;have a:=S6.o.hn;unfold T3 at a;have n2:=Zc a 2;have nf:=bF a;have e6:=Zc b 6;have e7:=Zc b 7;have e8:=Zc b 8;have e9:=Zc b 9;have G0:=Zc b 10;have H0:=Zc b 11;go_wp2_with fail;have S7:=Za (S6.o.write 2 (U O r.bin.1.text.size));generalize w6.setCell ⟨l.heap.size,2,I⟩ (U O r.bin.1.text.size)=w7 at*;refine(Hg r.bin.1 r.bin.2 _ HD.o.2.2.1 HD.o.2.2.2.1).mono ?_;rintro e w8 ⟨hs,d⟩;by_cases z:Zd r.bin.1<=Zd r.bin.2
  rotate_left
  ·obtain rfl:=(VS.bad z).1 hs
   exact show _/\_ from⟨rfl,TP (tS c z) u S7.o.fr d⟩
  obtain rfl:=(VS.ok z).1 hs;have c:=tQ c (fun e=>e z);have S8:=Za (S7.o.step d);generalize Zd r.bin.1=P at*;generalize Zd r.bin.2=Q at*;simp only[Pp];have b:=S8.o.he;unfold Oc at b;have a:=S8.o.hn;unfold T3 at a;have n3:=Zc a 3;have n4:=Zc a 4;have nf:=bF a;have T0:=Zc b 12;go_wp2_with fail;have S9:T (S0 w _ l.heap.size _ (T3 r.name.text M r.bin.1.text.size P Q (Y I 0 0) false 0 0 (Y I 0 0) false false (Y I 0 0) 0) _):=(S8.o.write 3 (U O P)).write 4 (U O Q);generalize(w8.setCell ⟨l.heap.size,3,I⟩ (U O P)).setCell ⟨l.heap.size,4,I⟩ (U O Q)=V0 at*;refine(OX _ b0 _ r.mcc 9999 _ (oF HR.o.1 S9.o.fr) HD.o.2.2.2.2.1 h0.o.1 aD).mono ?_;intro e I0 hT
  cases E:Zq 9999 0 r.mcc with
  |error f=>
   obtain⟨rfl,d⟩:=(WD.err E).1 hT;rw[E]at c
   exact show _/\_ from⟨rfl,TP c u S9.o.fr d⟩
  |ok R=>
   obtain⟨⟨v,rfl,i⟩,d⟩:=(WD.ok E).1 hT;obtain⟨q1,q2,q3,rfl⟩:=ZE i;rw[E]at c
   dsimp only at c
   have j0:=Za (S9.o.row d i);have b:=j0.o.he;unfold Oc at b;have a:=j0.o.hn;unfold T3 at a;have n5:=Zc a 5;have nf:=bF a;have W0:=Zc b 14
   go_upto_if 44 with fail
   have x:=Za (j0.o.write 5 (Y q1 q2 q3));generalize I0.setCell ⟨l.heap.size,5,I⟩ (Y q1 q2 q3)=J0 at*;obtain⟨am,K0⟩:=ad (r.amount.map (fun s=>(Zd s.1,Zd s.2)));have HM:=Za K0
   go_cut [] (fun wx=>T (am.isSome=n)/\T (¬r.amount.any (fun s=>decide (¬Zd s.1<=Zd s.2))=true)/\T (S0 w wx l.heap.size (Oc r n aa s (Y m1 m2 m3) (Y c1 c2 c3) (Y p1 p2 p3)) (T3 r.name.text M r.bin.1.text.size P Q (Y q1 q2 q3) n (am.getD (0,0)).1 (am.getD (0,0)).2 (Y I 0 0) false false (Y I 0 0) 0) [(Y q1 q2 q3,R)]))
   case first=>
    cases n with
    |false=>
     have e:r.amount=I:=q0.o
     have e2:am=I:=by have:=HM.o;rw[e]at this;exact this.symm
     go_wp2;go_meet;subst e2;exact⟨rfl,by show¬_;rw[e];simp,x⟩
    |true=>
     have e:=q0.o
     have e2:am=J (Zd aa,Zd s):=by have:=HM.o;rw[e]at this;exact this.symm
     have HE:=Za e;have s0:=Za e2;have t0:=Za (D0.o rfl);have b:=x.o.he;unfold Oc at b;have a:=x.o.hn;unfold T3 at a;have n6:=Zc a 6;have nf:=bF a;have X0:=Zc b 15;have Y0:=Zc b 16;have a1:=Zc b 17;have b1:=Zc b 18;have f1:=Zc b 19;have g1:=Zc b 20;go_wp2_with fail;have G:T (S0 w _ l.heap.size _ (T3 r.name.text M r.bin.1.text.size P Q (Y q1 q2 q3) true 0 0 (Y I 0 0) false false (Y I 0 0) 0) _):=x.o.write 6 (L true);generalize J0.setCell ⟨l.heap.size,6,I⟩ (L true)=v0 at*;refine(J6 aa s _ _ t0.o.1 t0.o.2 aD).mono ?_;rintro e L0 ⟨hs,d⟩;by_cases z:Zd aa<=Zd s
     rotate_left
     ·obtain rfl:=(VS.bad z).1 hs;rw[HE.o]at c
      exact show _/\_ from⟨rfl,TP (tS c (by simpa using z)) u G.o.fr d⟩
     obtain rfl:=(VS.ok z).1 hs;have A:=Za (G.o.step d)
     have k0:T (¬r.amount.any (fun s=>decide (¬Zd s.1<=Zd s.2))=true):=by show¬_;rw[HE.o];simpa using z
     simp only[Pp];have a:=A.o.hn;unfold T3 at a;have n7:=Zc a 7;have n8:=Zc a 8;have nf:=bF a;go_wp2;go_meet;refine⟨?_,k0,?_⟩
     ·show _=_
      rw[s0.o];rfl
     show S0 _ _ _ _ _ _
     rw[s0.o];exact(A.o.write 7 (U O (Zd aa))).write 8 (U O (Zd s))
   obtain⟨HS,k0,x⟩:=hcut;have c:=tQ c k0.o;obtain⟨al,ah,hA⟩:∃al ah,am.getD (0,0)=(al,ah):=⟨_,_,rfl⟩;rw[hA]at x;have HA:=Za hA;have b:=x.o.he;unfold Oc at b;have i1:=Zc b 13;go_wp2_with fail;refine(OX _ b0 _ r.cur 999 _ (oF HR.o.2.1 x.o.fr) HD.o.2.2.2.2.2 h0.o.2.1 aD).mono ?_;intro e v0 hT
   cases E:Zq 999 0 r.cur with
   |error f=>
    obtain⟨rfl,d⟩:=(WD.err E).1 hT;rw[E]at c
    exact show _/\_ from⟨rfl,TP c u x.o.fr d⟩
   |ok g0=>
    obtain⟨⟨v,rfl,i⟩,d⟩:=(WD.ok E).1 hT;obtain⟨s1,s2,s3,rfl⟩:=ZE i;rw[E]at c
    dsimp only at c
    have G:=Za (x.o.row d i);have b:=G.o.he;unfold Oc at b;have a:=G.o.hn;unfold T3 at a;have n9:=Zc a 9;have j1:=Zc a 10;have k1:=Zc a 11;have nf:=bF a;have l1:=Zc b 21;have o1:=Zc b 22;have r1:=Zc b 23;go_wp2_with fail;have A:=Za (((G.o.write 9 (Y s1 s2 s3)).write 10 (L r.act.decline)).write 11 (L r.act.cheapest));generalize((v0.setCell ⟨l.heap.size,9,I⟩ (Y s1 s2 s3)).setCell ⟨l.heap.size,10,I⟩ (L r.act.decline)).setCell ⟨l.heap.size,11,I⟩ (L r.act.cheapest)=L0 at*;refine(Ej _ B b0 (B+1) _ _ r.act.routes j (HK.o.fr A.o.fr).c0 (HK.o.fr A.o.fr).ro HK.o.r6 (oF HR.o.2.2 A.o.fr) h0.o.2.2).mono ?_;intro e M0 hT
    cases E:Zx j 0 r.act.routes with
    |error f=>
     obtain⟨rfl,d⟩:=(WD.err E).1 hT;rw[E]at c
     exact show _/\_ from⟨rfl,TP c u A.o.fr d⟩
    |ok ps=>
     obtain⟨⟨v,rfl,i⟩,d⟩:=(WD.ok E).1 hT;obtain⟨t1,t2,t3,rfl⟩:=ZE i;rw[E,HM.o]at c
     dsimp only at c
     have l0:=Za (A.o.row d i);have c0:=(HK.o.fr l0.o.fr).c0;have a:=l0.o.hn;unfold T3 at a;have v1:=Zc a 12;have x1:=Zc a 13;have nf:=bF a;go_wp2_with fail;have C:T (S0 w _ l.heap.size _ (T3 r.name.text M r.bin.1.text.size P Q (Y q1 q2 q3) n al ah (Y s1 s2 s3) r.act.decline r.act.cheapest (Y t1 t2 t3) j.length) _):=(l0.o.write 12 (Y t1 t2 t3)).write 13 (U O j.length);generalize(M0.setCell ⟨l.heap.size,12,I⟩ (Y t1 t2 t3)).setCell ⟨l.heap.size,13,I⟩ (U O j.length)=y at*;have m0:=Za (HK.o.fr C.o.fr);have N0:T (zH (B+1) y ⟨r.name.text,M,r.bin.1.text.size,P,Q,R,am,g0,r.act.decline,r.act.cheapest,ps,j.length⟩ (T3 r.name.text M r.bin.1.text.size P Q (Y q1 q2 q3) n al ah (Y s1 s2 s3) r.act.decline r.act.cheapest (Y t1 t2 t3) j.length).toList):=⟨_,_,_,by rw[HS.o,HA.o];rfl,oS (C.o.ro (_,R) aA) az,oS (C.o.ro (_,g0) aA) az,oS (C.o.ro (_,ps) aA) az⟩;have c1:=m0.o.c1;have y1:=HK.o.l8;have z1:=bL y _ c1;have w0:l.heap.size<y.heap.size:=C.o.lt;refine wp_region_held_drew (S:=fun w'=>w'.heap[l.heap.size]?=J (W (T3 r.name.text M r.bin.1.text.size P Q (Y q1 q2 q3) n al ah (Y s1 s2 s3) r.act.decline r.act.cheapest (Y t1 t2 t3) j.length) 120)) aC C.o.hn (fun D=>?_);refine ZJ 0 D ?_;go_frame;refine ZJ 1 D ?_;go_frame;refine ZJ 2 D ?_;go_frame;refine ZJ 3 D ?_;go_frame;refine U0 5 (v:=?v5) ?y5 D ?r5
     case y5=>
      intro w hw;have g:=Z0 hw;go_simp
      with_reducible rfl
     go_frame;refine XA [4,6] ?_;refine Zb rfl (fun K V=>?p1) (Zb rfl (fun K V=>?p2) AllReadyH.nil)
     case' p1=>
      rw[if_pos aD];go_simp;refine V.out _ _ D (fun _=>?_)
      try go_frame
      refine WI 6 (fun K V=>?_);go_simp;refine V.out _ _ (((Fr.refl (fun _=>False) _).alloc _).whole D) (fun D=>?_)
     case' p2=>
      rw[if_pos aD];go_simp;refine V.out _ _ (((Fr.refl (fun _=>False) _).alloc _).whole D) (fun D=>?_)
      try go_frame
      refine WI 4 (fun K V=>?_)
      have E0:=fun o=>(World.cell?_alloc_some y ⟨B,1,I⟩ o (by simp[c1])).trans c1
      go_simp;refine V.out _ _ D (fun _=>?_)
     all_goals
      try go_frame
      refine XA [7] ?_;refine Zb rfl (fun K V=>?_) AllReadyH.nil;refine step_append_lies _ rfl (.tmp 75) (.tmp 77) 87 rfl (B+1) 120 ii _ 14 160 underlying87 z0 A0 B0 C0 rfl aB (Y la m.length lc) m.length xs rfl ?h1 ⟨y.heap.size,0,I⟩ 1 1 (T3 r.name.text M r.bin.1.text.size P Q (Y q1 q2 q3) n al ah (Y s1 s2 s3) r.act.decline r.act.cheapest (Y t1 t2 t3) j.length).toList rfl rfl ?h2 ?h3 aB ?h4 ?h5 ?h6 _ rfl ?_
      case h1=>exact(m0.o.lo.alloc _).drew
      case h2=>exact World.news_of_block (aN y _)
      case h3=>unfold T3;simp[Value.oneCell']
      case h4=>unfold maxLen;omega
      case h5=>omega
      case h6=>simp;omega
      intro g2 P0 A1 i a0 _ _;have o0:Below y.heap.size y (y.alloc (W (T3 r.name.text M r.bin.1.text.size P Q (Y q1 q2 q3) n al ah (Y s1 s2 s3) r.act.decline r.act.cheapest (Y t1 t2 t3) j.length) 120)).drew:=((Below.refl _ _).alloc (z3 _) _).drew;have p0:=El m0.o N0.o o0 a0 i;have d1:=p0.1;have df:=p0.2.1;have x0:=Za (p0.2.2 (aj H8.o));have y0:=(a0.block _ (nL w0 o0.size) (fun e=>aj (HK.o.lo.lt _ e.symm).2)).trans ((o0.block _ w0).trans C.o.hn);refine V.out _ _ y0 (fun D=>?_);go_frame;refine ZJ 8 D ?_;go_frame;refine ZJ 9 D ?_;go_frame;refine WI 10 (fun K V=>?_);go_simp;refine V.out _ _ (((Fr.refl (fun k=>k=B) _).setCell (p:=⟨B,1,I⟩) (y6 rfl) _).whole D az) (fun _=>?_)
      try go_frame
      refine wpAnyH_done aC ?_ _;go_wp2
      go_end0
      exact(TO.ok c.o.symm).2 ⟨rfl,⟨_,_,x0.o.1⟩,(C.o.fr.below az).trans x0.o.2⟩
def VI:VC->Prop
 | .route r=>r.name.text.size<=3000/\Dg r.base.text/\Dg r.rate.text
 | .rule r=>r.name.text.size<=3000/\Dg r.rank.text/\Dg r.bin.1.text/\Dg r.bin.2.text/\(∀t,t∈r.mcc->Dg t.text)/\(∀t,t∈r.cur->Dg t.text)/\(∀a,r.amount=J a->Dg a.1.text/\Dg a.2.text)/\r.mcc.length<=4000/\r.cur.length<=4000/\r.act.routes.length<=4000
def VD (a:List Zf)(b:List Ze):VC->Except (Nat×Nat) (List Zf×List Ze)
 | .route r=>match ZF a r with
  | .error f=>.error f
  | .ok t=>.ok (a++[t],b)
 | .rule r=>match Ya a b r with
  | .error f=>.error f
  | .ok t=>.ok (a,b++[t])
def ZT (a:List Zf)(b:List Ze):List VC->Except (Nat×Nat) (List Zf×List Ze)
 |[]=>.ok (a,b)
 |x::xs=>match VD a b x with
  | .error f=>.error f
  | .ok p=>ZT p.1 p.2 xs
def YZ {a b x c f}(h:VD a b x=.error f):ZT a b (x::c)=.error f:=by simp only[ZT,h]
def Xx {a b x c p}(h:VD a b x=.ok p):ZT a b (x::c)=ZT p.1 p.2 c:=by simp only[ZT,h]
def VT (x:Except (Nat×Nat) (List Zf×List Ze))(w:D)(B:Nat)(e:Ending)(a:D):Prop:=
 match x with
 | .ok p=>e=G (.tuple #[])/\(∃b c d,Bk a B b c p.1 p.2 d)/\Below B w a
 | .error f=>e=Zj f.1 f.2/\Below B w a
def VT.ok {x w w' B e p}(h:x=.ok p):VT x w B e w'↔e=G (.tuple #[])/\(∃a b c,Bk w' B a b p.1 p.2 c)/\Below B w w':=by subst h;exact Iff.rfl
def VT.err {x w a B e f}(h:x=.error f):VT x w B e a↔e=Zj f.1 f.2/\Below B w a:=by subst h;exact Iff.rfl
def vD (w B g i a b j r)(h:Bk w B g i a b j)(d:VI (.route r)):
  y8 H 314 #[U4 r,Z (J ⟨B,0,I⟩)] w (VT (VD a b (.route r)) w B):=by
 refine(Ib w B g i a b j r h d.1 d.2.1 d.2.2).mono ?_;intro e q k
 cases c:ZF a r with
 |error f=>exact(VT.err (by simp only[VD,c])).2 ((UC.err c).1 k)
 |ok t=>
  obtain⟨l,⟨m,n⟩,o⟩:=(UC.ok c).1 k;exact(VT.ok (p:=(a++[t],b)) (by simp only[VD,c])).2 ⟨l,⟨_,_,_,n⟩,o⟩
def vE (w B g n o a b q r j k l)(h:Bk w B n o a b q)(u:VI (.rule r))(v:w.ownsRow g 263 3 j r.mcc.length (Yw r.mcc))(x:w.ownsRow g 263 3 k r.cur.length (Yw r.cur))(y:w.ownsRow g 263 3 l r.act.routes.length (Yw r.act.routes)):
  y8 H 318 #[OT r j k l,Z (J ⟨B,0,I⟩)] w (VT (VD a b (.rule r)) w B):=by
 obtain⟨z,A,C,D,E,F,G,K,L,m⟩:=u;have d:=Hp w B g n o a b q r j k l h z A C D E F G v x y K L m;refine d.mono ?_;intro e Q s
 cases i:Ya a b r with
 |error f=>exact(VT.err (by simp only[VD,i])).2 ((TO.err i).1 s)
 |ok t=>
  obtain⟨M,⟨N,c,O⟩,P⟩:=(TO.ok i).1 s;exact(VT.ok (p:=(a,b++[t])) (by simp only[VD,i])).2 ⟨M,⟨_,_,_,O⟩,P⟩
def Rn (x:Except (Nat×Nat) (List Zf×List Ze))(w:D)(e:Ending)(a:D):Prop:=
 match x with
 | .ok p=>e=G (Z (J ⟨w.heap.size,0,I⟩))/\(∃b c d,Bk a w.heap.size b c p.1 p.2 d)/\Below w.heap.size w a
 | .error f=>e=Zj f.1 f.2/\Below w.heap.size w a
def Rn.ok {x w w' e p}(h:x=.ok p):Rn x w e w'↔e=G (Z (J ⟨w.heap.size,0,I⟩))/\(∃a b c,Bk w' w.heap.size a b p.1 p.2 c)/\Below w.heap.size w w':=by subst h;exact Iff.rfl
def Rn.err {x w a e f}(h:x=.error f):Rn x w e a↔e=Zj f.1 f.2/\Below w.heap.size w a:=by subst h;exact Iff.rfl
def tT (w:D):Bk (w.alloc (W #[Y I 0 0,Y I 0 0] 89)) w.heap.size (Y I 0 0) (Y I 0 0) [] [] []:=by
 have a:=aN w (W #[Y I 0 0,Y I 0 0] 89);exact⟨Zc a 0,Zc a 1,bF a,oZ _ _ _ _,oZ _ _ _ _,rfl,y,y⟩
def KX {a:Nat}{w:D}:∀{b:List VC}{c:List M}{j:Nat}{x:VC},Y2 a w b c->b[j]?=J x->∃v,c[j]?=J v/\Pn a w x v
 |[],_,j,_,_,hj=>by simp at hj
 |y::b,[],j,_,h,_=>by cases h
 |y::b,v::c,0,x,h,hj=>by
  simp at hj;subst hj;exact⟨v,rfl,h.1⟩
 |y::b,v::c,j+1,x,h,hj=>by
  obtain⟨u,d,e⟩:=KX (j:=j) h.2 (by simpa using hj);exact⟨u,by simpa using d,e⟩
def Mn (w b0 b1 ve a N)(h:w.ownsRow b0 256 1 ve a.length N)(hv:Y2 b1 w a N)(ho:∀x,x∈a->VI x)(hn:a.length<=4000):
  y8 H 102 #[ve] w (Rn (ZT [] [] a) w):=by
 have HO:=o ho;have HV:=o hv;have HA:=(WM w (W #[Y I 0 0,Y I 0 0] 89)).1;have C:=o (tT w);by_cases P:0<a.length
 ·obtain⟨g,Q,rfl,hb,hl⟩:=h.form P
  have E:∀k,(⟨g,0,I⟩:Addr).add k=⟨g,k,I⟩:=fun k=>aK
  have HC:T (∀j v,N[j]?=J v->w.cell? ⟨g,j,I⟩=J v):=fun j v hj=>by have:=h.cells (g:=g) rfl j v hj;rwa [E]at this
  go_enter func102,ntmps102;go_wp2
  go_loopg [5,10] a.length (fun m _ c wr=>∃j d i vr vl M,j<=a.length/\m=a.length-j/\c=U O j/\T (Bk wr w.heap.size vr vl d i M)/\T (Below w.heap.size w wr)/\T (ZT [] [] a=ZT d i (a.drop j)))
  case atStart=>exact⟨0,[],[],_,_,_,Nat.zero_le _,rfl,rfl,C,HA.o.below (z3 _),rfl⟩
  obtain⟨j,d,i,vr,vl,M,hj,rfl,rfl,R,n,F⟩:=hrel;by_cases V:j<a.length
  ·obtain⟨x,X⟩:∃x,a[j]?=J x:=⟨_,gE V⟩
   obtain⟨v,Z,hE⟩:=KX HV.o X;have HX:=o (hE.fr (Fr.of_below (S:=fun _=>False) n.o) aA (z3 _));have G:=o (HO.o x (mG X));have a0:wr.cell? ⟨g,j,I⟩=J v:=(n.o.cell (p:=⟨g,j,I⟩) hl).trans (HC.o j v Z)
   have b:T (a.drop j=x::a.drop (j+1)):=by
    obtain⟨K,q⟩:=iG.1 X
    show _=_
    rw[dC K,q]
   have c0:=af j a.length
   cases x with
   |route r=>
    have d0:v=.iface 290 (U4 r):=HX.o;subst d0
    have hm:∀w:D,(method 506 290 (U4 r) "junction/rules.addTo").run H w=.ok (314,U4 r) w:=fun _=>aC
    go_wp2_with fail;refine(vD _ w.heap.size _ _ d i M r R.o G.o).mono ?_;intro e w2 L
    cases l:VD d i (.route r)with
    |error f=>
     obtain⟨q,s⟩:=(VT.err l).1 L;unfold Zj at q;subst q
     have hu:ZT [] [] a=.error f:=by rw[F.o,b.o];exact YZ l
     exact⟨rfl,(Rn.err hu).2 ⟨rfl,n.o.trans s⟩⟩
    |ok p=>
     obtain⟨rfl,⟨t,u,y,hk⟩,s⟩:=(VT.ok l).1 L;have z:=o hk;have A:=o (n.o.trans s)
     have B:T (ZT [] [] a=ZT p.1 p.2 (a.drop (j+1))):=by show _=_;rw[F.o,b.o];exact Xx l
     go_wp2;go_roundg (a.length-(j+1))
     case measure=>omega
     exact⟨j+1,p.1,p.2,t,u,y,az,rfl,aE,z,A,B⟩
   |rule r=>
    obtain⟨vm,vc,vp,rfl,e0,f0,g0⟩:=HX.o;have h0:=o e0;have i0:=o f0;have j0:=o g0
    have hm:∀w:D,(method 506 295 (OT r vm vc vp) "junction/rules.addTo").run H w=.ok (318,OT r vm vc vp) w:=fun _=>aC
    go_wp2_with fail;refine(vE _ w.heap.size b1 _ _ d i M r vm vc vp R.o G.o h0.o i0.o j0.o).mono ?_;intro e w2 L
    cases l:VD d i (.rule r)with
    |error f=>
     obtain⟨q,s⟩:=(VT.err l).1 L;unfold Zj at q;subst q
     have hu:ZT [] [] a=.error f:=by rw[F.o,b.o];exact YZ l
     exact⟨rfl,(Rn.err hu).2 ⟨rfl,n.o.trans s⟩⟩
    |ok p=>
     obtain⟨rfl,⟨t,u,y,hk⟩,s⟩:=(VT.ok l).1 L;have z:=o hk;have A:=o (n.o.trans s)
     have B:T (ZT [] [] a=ZT p.1 p.2 (a.drop (j+1))):=by show _=_;rw[F.o,b.o];exact Xx l
     go_wp2;go_roundg (a.length-(j+1))
     case measure=>omega
     exact⟨j+1,p.1,p.2,t,u,y,az,rfl,aE,z,A,B⟩
  have c0:=ai j a.length
  have HQ:T (ZT [] [] a=.ok (d,i)):=by show _=_;rw[F.o,dL az];rfl
  go_wp2;go_ret;exact(Rn.ok HQ.o).2 ⟨rfl,⟨_,_,_,R.o⟩,n.o⟩
 have hz:a=[]:=List.eq_nil_of_length_eq_zero az;subst hz;rcases h.2 with⟨rfl,_⟩|⟨g,Q,k0,rfl,_⟩
 all_goals
  go_enter func102,ntmps102;go_wp2
  go_loopg [5,10] 1 (fun m _ c wr=>m=1/\c=U O 0/\wr=w.alloc (W #[Y I 0 0,Y I 0 0] 89))
  case atStart=>exact⟨rfl,rfl,rfl⟩
  obtain⟨rfl,rfl,rfl⟩:=hrel;go_wp2;go_ret;exact(Rn.ok (p:=([],[])) rfl).2 ⟨rfl,⟨_,_,_,C.o⟩,HA.o.below (z3 _)⟩
section
variable {n:Nat} {ts:List Tk}
def vF (h:∀t,t∈ts->T1 n t)(i):T1 n (Zp ts i):=by
 unfold Zp;rw[gD]
 cases a:ts[i]? with
 |none=>exact⟨fun e=>by simp at e,y,y⟩
 |some t=>exact h t (mG a)
def Pq (h:∀t,t∈ts->T1 n t){i a t k}(b:Yb ts i a=.ok (t,k)):T1 n t/\t.sort=a:=by
 obtain⟨rfl,c,_⟩:=Yx b;exact⟨vF h i,c⟩
def Pr (h:∀t,t∈ts->T1 n t){i t k}(a:Yb ts i 1=.ok (t,k)):Dg t.text:=
 have:=Pq h a
 this.1.1 this.2
def vG (h:∀t,t∈ts->T1 n t){want}:∀m i a l k,ts.length-i=m->(∀t,t∈a->T1 n t/\t.sort=want)->X5 ts i want a=.ok (l,k)->(∀t,t∈l->T1 n t/\t.sort=want)/\l.length<=a.length+(ts.length-i):=by
 intro m
 induction m using x5 with
 |ind m o=>
  intro i a l k s d b;rw[X5]at b
  split at b
  ·rename_i p;have q:=Uu p
   split at b
   ·cases b
   rename_i t f g;have e:=(Yx g).2.2
   have:=o (ts.length-f) z f _ l k rfl (fun u c=>by
    rcases y4.1 c with c|c
    ·exact d u c
    simp at c;subst c;exact Pq h g) b
   refine⟨this.1,?_⟩;have j:=this.2;simp at j;omega
  injection b with b;injection b with r j;subst r;exact⟨d,z⟩
def Ic (h:∀t,t∈ts->T1 n t){i a l k}(b:Xv ts i a=.ok (l,k)):(∀t,t∈l->T1 n t/\t.sort=a)/\l.length<=1+ts.length:=by
 unfold Xv at b
 split at b
 ·cases b
 rename_i t d e;have:=vG h _ d [t] l k rfl (fun u c=>by simp at c;subst c;exact Pq h e) b;exact⟨this.1,by have:=this.2;simp at this;omega⟩
def Mo (h:∀t,t∈ts->T1 n t){i c l k}(a:Xq ts i c=.ok (l,k)):(∀t,t∈l->Dg t.text)/\l.length<=1+ts.length:=by
 unfold Xq at a
 split at a
 ·have:=Ic h a;exact⟨fun t b=>(this.1 t b).1.1 (this.1 t b).2,this.2⟩
 injection a with a;injection a with d _;subst d;exact⟨y,y⟩
def Id (h:∀t,t∈ts->T1 n t){i d k}(c:U2 ts i=.ok (d,k)):Dg d.1.text/\Dg d.2.text:=by
 rw[WO]at c;obtain⟨a,g,e,c⟩:=bI c;obtain⟨_,j,l,c⟩:=bI c;obtain⟨b,m,f,c⟩:=bI c;injection c with c;injection c with c _;subst c;exact⟨Pr h e,Pr h f⟩
def Em (h:∀t,t∈ts->T1 n t){i d o k}(a:Wz ts i d=.ok (o,k)):∀b,o=J b->Dg b.1.text/\Dg b.2.text:=by
 unfold Wz at a
 split at a
 ·obtain⟨b,j,f,c⟩:=bI a;injection c with c;injection c with c _;subst c;intro g e;injection e with e;subst e;exact Id h f
 injection a with a;injection a with a _;subst a;intro b e
 cases e
def BF (h:∀t,t∈ts->T1 n t){i a k}(c:Xr ts i=.ok (a,k)):a.routes.length<=1+ts.length:=by
 unfold Xr at c
 split at c
 ·injection c with c;injection c with c _;subst c;simp
 split at c
 ·obtain⟨l,j,d,b⟩:=bI c;injection b with b;injection b with b _;subst b;exact(Ic h d).2
 obtain⟨l,j,d,b⟩:=bI c;injection b with b;injection b with b _;subst b;exact(Ic h d).2
def yi (h:∀t,t∈ts->T1 n t)(s:n<=3000)(F:ts.length<=3999){i e k}(o:ZW ts i=.ok (e,k)):VI e:=by
 unfold ZW at o
 split at o
 ·obtain⟨r,j,m,l⟩:=bI o;injection l with l;injection l with l _;subst l;unfold WN at m;obtain⟨a,y,g1,m⟩:=bI m;obtain⟨b,u,g2,m⟩:=bI m;obtain⟨c,z,g3,m⟩:=bI m;injection m with m;injection m with m _;subst m;exact⟨z6 (Pq h g1).1.2.1 s,Pr h g2,Pr h g3⟩
 obtain⟨_,j,m,o⟩:=bI o;obtain⟨r,u,l,o⟩:=bI o;injection o with o;injection o with o _;subst o;unfold Wo at l;obtain⟨a,y,g1,l⟩:=bI l;obtain⟨b,u,g2,l⟩:=bI l;obtain⟨_,z,g3,l⟩:=bI l;obtain⟨_,G,H,l⟩:=bI l;obtain⟨c,I,v,l⟩:=bI l;obtain⟨d,J,A,l⟩:=bI l;obtain⟨f,K,B,l⟩:=bI l;obtain⟨g,L,C,l⟩:=bI l;obtain⟨_,M,N,l⟩:=bI l;obtain⟨D,E,p,l⟩:=bI l;injection l with l;injection l with l _;subst l;have w:=Mo h A;have x:=Mo h C;have q:=BF h p;exact⟨z6 (Pq h g1).1.2.1 s,Pr h g2,(Id h v).1,(Id h v).2,w.1,x.1,Em h B,z6 w.2 az,z6 x.2 az,z6 q az⟩
def Mp (h:∀t,t∈ts->T1 n t)(s:n<=3000)(v:ts.length<=3999):∀m i c g k,ts.length-i=m->(∀x,x∈c->VI x)->Zs ts i c=.ok (g,k)->∀x,x∈g->VI x:=by
 intro m
 induction m using x5 with
 |ind m w=>
  intro i c g k y p a;by_cases d:(Zp ts i).sort=3
  ·rw[XL d]at a;injection a with a;injection a with a _;subst a;exact p
  cases f:ZW ts i with
  |error l=>rw[YR d f]at a;cases a
  |ok r=>
   obtain⟨e,j⟩:=r
   cases b:ZG ts j Vk with
   |error l=>rw[Xg d f b]at a;cases a
   |ok r=>
    obtain⟨u,q⟩:=r;rw[Wg d f b]at a;have z:=Vb f;have A:=Yz b
    have B:i<ts.length:=by
     rcases Nat.lt_or_ge i ts.length with o|o
     ·exact o
     exfalso
     apply d;unfold Zp;rw[gD,List.getElem?_eq_none o];rfl
    refine w (ts.length-q) az q _ g k rfl (fun x b=>?_) a;rcases y4.1 b with b|b
    ·exact p x b
    simp at b;subst b;exact yi h s v f
end
def Xc (s:ByteArray):Except (Nat×Nat) (List Zf×List Ze):=
 if 3000<s.size then .error (1,0)
 else match ZN s 0 1 []with
  | .error l=>.error (2,l)
  | .ok ts=>match Zs ts 0 []with
   | .error l=>.error (3,l)
   | .ok (xs,_)=>ZT [] [] xs
def SN (x:Except (Nat×Nat) (List Zf×List Ze))(w:D)(e:Ending)(a:D):Prop:=
 match x with
 | .ok p=>(∃B b c d,e=G (Z (J ⟨B,0,I⟩))/\w.heap.size<=B/\Bk a B b c p.1 p.2 d)/\Below w.heap.size w a
 | .error f=>e=Zj f.1 f.2/\Below w.heap.size w a
def SN.ok {x w w' e p}(h:x=.ok p):SN x w e w'↔(∃B a b c,e=G (Z (J ⟨B,0,I⟩))/\w.heap.size<=B/\Bk w' B a b p.1 p.2 c)/\Below w.heap.size w w':=by subst h;exact Iff.rfl
def SN.err {x w a e f}(h:x=.error f):SN x w e a↔e=Zj f.1 f.2/\Below w.heap.size w a:=by subst h;exact Iff.rfl
def Vv.ok {w w' s e ts}(h:ZN s 0 1 []=.ok ts):Vv w s e w'↔(∃v,e=G v/\w'.ownsRow w.heap.size 263 3 v ts.length (Yw ts)/\ts.length<=s.size+1)/\Below w.heap.size w w':=by unfold Vv;rw[h]
def Vv.err {w a s e l}(h:ZN s 0 1 []=.error l):Vv w s e a↔e=Zj 2 l/\Below w.heap.size w a:=by unfold Vv;rw[h]
def WQ.ok {w w' ts e a k}(h:Zs ts 0 []=.ok (a,k)):WQ w ts e w'↔(∃v b,e=G v/\w'.ownsRow w.heap.size 256 1 v a.length b/\Y2 w.heap.size w' a b/\a.length<=4000)/\Below w.heap.size w w':=by unfold WQ;rw[h]
def WQ.err {w a ts e l}(h:Zs ts 0 []=.error l):WQ w ts e a↔e=Zj 3 l/\Below w.heap.size w a:=by unfold WQ;rw[h]
def yj (s w):y8 H 58 #[F s] w (SN (Xc s) w):=by
 by_cases Q:3000<s.size
 ·have X:T (Xc s=.error (1,0)):=by show _=_;unfold Xc;rw[if_pos Q]
  go_enter func58,ntmps58;go_wp2;exact⟨rfl,(SN.err X.o).2 ⟨rfl,Below.refl _ _⟩⟩
 have n:=o Q;go_enter func58,ntmps58;go_wp2_with fail;refine(zU s w (aj n.o)).mono ?_;intro e K h
 cases x:ZN s 0 1 []with
 |error l=>
  obtain⟨i,b⟩:=(Vv.err x).1 h;unfold Zj at i;subst i;exact⟨rfl,(SN.err (f:=(2,l)) (by unfold Xc;rw[if_neg n.o,x])).2 ⟨rfl,b⟩⟩
 |ok u=>
  obtain⟨⟨v,rfl,a,y⟩,b⟩:=(Vv.ok x).1 h;obtain⟨z,q,m⟩:=Rm _ 0 1 [] u rfl aA x;obtain⟨g,A,rfl,hb,Z⟩:=a.form m
  have B:∀k,(⟨g,0,I⟩:Addr).add k=⟨g,k,I⟩:=fun k=>aK
  have C:=o z;have L:=o y;have R:=o x;have d:=o b
  have HP:T (y8 H 103 #[Y (J ⟨g,0,I⟩) u.length A] K (WQ K u)):=by
   refine BB K g A u (fun j t hj=>?_) Z m (aj n.o) q;obtain⟨t0,t1,t2⟩:=Oa u j t hj;have S:=a.cells (g:=g) rfl _ _ t0;have U:=a.cells (g:=g) rfl _ _ t1;have V:=a.cells (g:=g) rfl _ _ t2;rw[B]at S U V;exact⟨S,U,V⟩
  go_wp2_with fail;refine HP.o.mono ?_;intro e w2 h
  cases D:Zs u 0 []with
  |error l=>
   obtain⟨i,b⟩:=(WQ.err D).1 h;unfold Zj at i;subst i;exact⟨rfl,(SN.err (f:=(3,l)) (by unfold Xc;rw[if_neg n.o,R.o];dsimp only;rw[D])).2 ⟨rfl,d.o.trans (b.mono d.o.size)⟩⟩
  |ok r=>
   obtain⟨E,k⟩:=r;obtain⟨⟨v,vs,rfl,a,M,N⟩,b⟩:=(WQ.ok D).1 h;have HE:=o (Mp C.o (aj n.o) (ak n.o L.o) _ 0 [] E k rfl aA D);have HU:=o (Mn w2 _ _ v E vs a M HE.o N)
   have W:T (Xc s=ZT [] [] E):=by show _=_;unfold Xc;rw[if_neg n.o,R.o];dsimp only;rw[D]
   have c:=o (d.o.trans (b.mono d.o.size));obtain⟨a1,a2,a3,rfl⟩:=ZE a;go_wp2_with fail;refine HU.o.mono ?_;intro e w3 h
   cases G:ZT [] [] E with
   |error f=>
    obtain⟨i,b⟩:=(Rn.err G).1 h;unfold Zj at i;subst i;exact⟨rfl,(SN.err (W.o.trans G)).2 ⟨rfl,c.o.trans (b.mono c.o.size)⟩⟩
   |ok p=>
    obtain⟨rfl,O,b⟩:=(Rn.ok G).1 h;have HK:=o O;have P:=o (c.o.trans (b.mono c.o.size));have HM:=o (W.o.trans G);go_wp2;go_ret;obtain⟨vr,vl,ys,O⟩:=HK.o;exact(SN.ok HM.o).2 ⟨⟨_,_,_,_,rfl,c.o.size,O⟩,P.o⟩
abbrev Fa:=Option (Nat×Nat)
def ZZ (f:Fa)(a:Bool)(k b:Nat):Fa:=
 match f with
 |some x=>J x
 |none=>if a then J (k,b)else I
def ZO (x b k l):ZZ (J x) b k l=J x:=rfl
def YA (k l):ZZ I true k l=J (k,l):=rfl
def Yc (k l):ZZ I false k l=I:=rfl
def Ys (b:ByteArray)(a:Nat)(f:Fa):List ByteArray->Fa
 |[]=>f
 |x::xs=>Ys b a (ZZ f (x.toList==b.toList) 4 a) xs
def Vr (b a x l):Ys b a (J x) l=J x:=by
 induction l with
 |nil=>rfl
 |cons y d c=>exact c
def Qj (b a l):Ys b a I l=if l.any (fun x=>x.toList==b.toList)then J (4,a)else I:=by
 induction l with
 |nil=>rfl
 |cons y d f=>
  show Ys b a (ZZ I (y.toList==b.toList) 4 a) d=_
  by_cases c:(y.toList==b.toList)=true
  ·rw[if_pos (by rw[z4,c];rfl),c,YA,Vr]
  rw[Bool.not_eq_true]at c
  have e:(y::d).any (fun x=>x.toList==b.toList)=d.any (fun x=>x.toList==b.toList):=by rw[z4,c];rfl
  simp only[e];rw[c,Yc,f]
def Yg (a:Nat)(k:Nat)(f:Fa):List Tk->Fa
 |[]=>f
 |t::r=>Yg a (k+1) (ZZ (ZZ f (decide (4<k)) 6 t.line) (decide (a<Zd t)) 5 t.line) r
def ZR (a k x l):Yg a k (J x) l=J x:=by
 induction l generalizing k with
 |nil=>rfl
 |cons y c b=>exact b (k+1)
def Ie {α:Type}:Except (Nat×Nat) α->Fa
 | .error f=>J f
 | .ok _=>I
def WR (a:Nat):∀(l:List Tk)(i:Nat),i<=4->Yg a (i+1) I l=Ie (Zq a i l)/\∀c,Zq a i l=.ok c->c=l.map Zd
 |[],i,_=>⟨rfl,fun c h=>by simp[Zq]at h;simp[h]⟩
 |t::r,i,hi=>by
  by_cases e:i=4
  ·subst e;refine⟨?_,fun c h=>by simp[Zq]at h⟩;simp only[Yg,Zq];rw[show decide (4<4+1)=true from rfl,YA,ZO,ZR];rfl
  have j:decide (4<i+1)=false:=aF;by_cases d:a<Zd t
  ·have b:decide (a<Zd t)=true:=by simpa using d
   refine⟨?_,fun c h=>by simp[Zq,e,d]at h⟩;simp only[Yg,Zq];rw[j,Yc,b,YA,ZR,if_neg e,if_pos d];rfl
  have b:decide (a<Zd t)=false:=by simpa using d
  obtain⟨k,m⟩:=WR a r (i+1) z;refine⟨?_,fun c h=>?_⟩
  ·simp only[Yg,Zq];rw[j,Yc,b,Yc,k,if_neg e,if_neg d]
   cases Zq a (i+1) r<;>rfl
  simp only[Zq]at h;rw[if_neg e,if_neg d]at h
  cases g:Zq a (i+1) r with
  |error f=>rw[g]at h;cases h
  |ok n=>
   rw[g]at h;injection h with h;rw[<-h,C,m n g]
def ZC (b:ByteArray)(a:Int)(i:Nat):List Zf->Int
 |[]=>a
 |x::xs=>ZC b (if(x.name.toList==b.toList)=true then(i:Int)else a) (i+1) xs
def YG:List ByteArray->Prop
 |[]=>True
 |x::xs=>(∀y,y∈xs->(y.toList==x.toList)=false)/\YG xs
def Mq (b a l):∀i,(∀y,y∈l.map Zf.name->(y.toList==b.toList)=false)->ZC b a i l=a:=by
 induction l with
 |nil=>intro i _;rfl
 |cons x e d=>
  intro i h;simp only[ZC];rw[if_neg (by have:=h x.name aA;rw[this];decide)];exact d (i+1) (fun y c=>h y (by simp at c ⊢;exact x1 c))
def If (a l)(d:YG (l.map Zf.name)):∀i,ZC a (-1) i l=Zk a i l:=by
 induction l with
 |nil=>intro i;rfl
 |cons x c f=>
  intro i;simp only[ZC,Zk];have b:(∀y,y∈c.map Zf.name->(y.toList==x.name.toList)=false)/\YG (c.map Zf.name):=d;by_cases h:(x.name.toList==a.toList)=true
  ·rw[if_pos h,if_pos h];refine Mq a _ c _ (fun y g=>?_);have j:=b.1 y g
   have e:x.name.toList=a.toList:=by simpa using h
   rw[<-e];exact j
  rw[if_neg h,if_neg h];exact f b.2 (i+1)
def Xs (a:List Zf)(k:Nat)(f:Fa):List Tk->Fa
 |[]=>f
 |t::r=>Xs a (k+1) (ZZ (ZZ f (decide (4<k)) 6 t.line) (decide (ZC t.text (-1) 0 a<0)) 4 t.line) r
def Wh (a k x l):Xs a k (J x) l=J x:=by
 induction l generalizing k with
 |nil=>rfl
 |cons y c b=>exact b (k+1)
def Mr (a:List Zf)(m:YG (a.map Zf.name)):∀(l:List Tk)(i:Nat),i<=4->Xs a (i+1) I l=Ie (Zx a i l)/\∀c,Zx a i l=.ok c->c.map (fun n:Nat=>(n:Int))=l.map fun t=>ZC t.text (-1) 0 a
 |[],i,_=>⟨rfl,fun c h=>by simp[Zx]at h;simp[h]⟩
 |t::r,i,hi=>by
  have j:=If t.text a m 0;by_cases e:i=4
  ·subst e;refine⟨?_,fun c h=>by simp[Zx]at h⟩;simp only[Xs,Zx];rw[show decide (4<4+1)=true from rfl,YA,ZO,Wh];rfl
  have g:decide (4<i+1)=false:=aF;by_cases d:Zk t.text 0 a<0
  ·have b:decide (ZC t.text (-1) 0 a<0)=true:=by rw[j];simpa using d
   refine⟨?_,fun c h=>by simp[Zx,e,d]at h⟩;simp only[Xs,Zx];rw[g,Yc,b,YA,Wh,if_neg e,if_pos d];rfl
  have b:decide (ZC t.text (-1) 0 a<0)=false:=by rw[j];simpa using d
  obtain⟨o,p⟩:=Mr a m r (i+1) z;refine⟨?_,fun c h=>?_⟩
  ·simp only[Xs,Zx];rw[g,Yc,b,Yc,o,if_neg e,if_neg d]
   cases Zx a (i+1) r<;>rfl
  simp only[Zx]at h;rw[if_neg e,if_neg d]at h
  cases k:Zx a (i+1) r with
  |error f=>rw[k]at h;cases h
  |ok q=>
   rw[k]at h;injection h with h;rw[<-h,C,C,p q k,j]
   congr 1
   omega
def Wu (a:List Zf)(f:Fa)(r:Ma):Fa:=
 ZZ (ZZ (Ys r.name.text r.name.line (ZZ f (decide (6<=a.length)) 6 r.name.line) (a.map Zf.name)) (decide (1000000<Zd r.base)) 5 r.base.line) (decide (1000<Zd r.rate)) 5 r.rate.line
def Od (a l):∀i,(0<=Zk a i l)↔(l.map Zf.name).any (fun x=>x.toList==a.toList)=true:=by
 induction l with
 |nil=>intro i;simp[Zk]
 |cons x c b=>
  intro i;simp only[Zk,C,z4]
  cases(x.name.toList==a.toList)with
  |true=>simp
  |false=>simpa using b (i+1)
def Tx (a r)(i:a.length<=6):Wu a I r=Ie (ZF a r)/\∀t,ZF a r=.ok t->t=⟨r.name.text,Zd r.base,Zd r.rate⟩:=by
 unfold Wu ZF;by_cases f:a.length=6
 ·have e:decide (6<=a.length)=true:=aF;rw[e,YA,Vr,if_pos f];exact⟨rfl,fun t h=>by cases h⟩
 have e:decide (6<=a.length)=false:=aF;rw[e,Yc,Qj,if_neg f];have g:=Od r.name.text a 0;by_cases b:0<=Zk r.name.text 0 a
 ·rw[if_pos (g.1 b),if_pos b];exact⟨rfl,fun t h=>by cases h⟩
 rw[if_neg (fun h=>b (g.2 h)),if_neg b];by_cases c:1000000<Zd r.base
 ·rw[show decide (1000000<Zd r.base)=true from by simpa using c,if_pos c];exact⟨rfl,fun t h=>by cases h⟩
 rw[show decide (1000000<Zd r.base)=false from by simpa using c,if_neg c];by_cases d:1000<Zd r.rate
 ·rw[show decide (1000<Zd r.rate)=true from by simpa using d,if_pos d];exact⟨rfl,fun t h=>by cases h⟩
 rw[show decide (1000<Zd r.rate)=false from by simpa using d,if_neg d];exact⟨rfl,fun t h=>by injection h with h;exact h.symm⟩
structure Xh where
 name:ByteArray
 rank:Nat
 width:Nat
 lo:Nat
 hi:Nat
 mcc:List Nat
 cur:List Nat
 am:Option (Nat×Nat)
 routes:List Int
 decline:Bool
 cheapest:Bool
def Vw (a:List Zf)(r:Pj):Xh:=
 ⟨r.name.text,Zd r.rank,r.bin.1.text.size,Zd r.bin.1,Zd r.bin.2,r.mcc.map Zd,r.cur.map Zd,r.amount.map (fun b=>(Zd b.1,Zd b.2)),r.act.routes.map (fun t=>ZC t.text (-1) 0 a),r.act.decline,r.act.cheapest⟩
def Xi (f:Fa):Option (Tk×Tk)->Fa
 |none=>f
 |some a=>ZZ (ZZ f (decide (1000000000<Zd a.1)) 5 a.1.line) (decide (1000000000<Zd a.2)||decide (Zd a.2<Zd a.1)) 5 a.2.line
def XD (b:List Zf)(a:List ByteArray)(f:Fa)(r:Pj):Fa:=
  Xs b 1 (Yg 999 1 (Xi (Yg 9999 1
    (ZZ (ZZ (ZZ (Ys r.name.text r.name.line (ZZ f (decide (8<=a.length)) 6 r.name.line) a)
      (decide (1000<Zd r.rank)) 5 r.rank.line) (decide (6<r.bin.1.text.size)) 5 r.bin.1.line)
      (decide (6<r.bin.2.text.size)||decide (r.bin.2.text.size≠r.bin.1.text.size)||decide (Zd r.bin.2<Zd r.bin.1)) 5 r.bin.2.line)
    r.mcc) r.amount) r.cur) r.act.routes
def OZ (a l):XR a l=(l.map Ze.name).any (fun x=>x.toList==a.toList):=by
 induction l with
 |nil=>rfl
 |cons x c b=>
  simp only[XR,C,z4]
  cases(x.name.toList==a.toList)with
  |true=>rfl
  |false=>simpa using b
def Ps:∀(l:List UInt8)(n:Nat),(∀c,c∈l->c.toNat<=57)->l.foldl (fun n c=>n*10+(c.toNat-48)) n<(n+1)*10^l.length
 |[],n,_=>y
 |c::r,n,h=>by
  have a:=Ps r (n*10+(c.toNat-48)) (fun d b=>h d (by simp[b]));have e:=h c y;simp only[List.foldl_cons,A];refine nL a ?_;rw[Nat.pow_succ,Nat.mul_comm (10^r.length) 10,<-Nat.mul_assoc];exact Nat.mul_le_mul_right _ z
def Wp (t)(b:Dg t.text):Zd t<1000000000:=by
 have h:=Ps t.text.data.toList 0 (fun c f=>by
  obtain⟨k,d,e⟩:=x0 f;have a:=(b.2 k (by simpa using d)).2;unfold Zy at a;rw[gD,gE d,e]at a;simp at a
  omega)
 have g:t.text.data.toList.length<=9:=by have:=b.1;simpa using this
 have i:10^t.text.data.toList.length<=10^9:=Nat.pow_le_pow_right z g;unfold Zd ZA;omega
def Ze.ref (r:Ze):Xh:=⟨r.name,r.rank,r.digits,r.lo,r.hi,r.mcc,r.cur,r.am,r.routes.map (fun n:Nat=>(n:Int)),r.decline,r.cheapest⟩
def En (a d r)(N:d.length<=8)(o:YG (a.map Zf.name))(A:∀c,r.amount=J c->Dg c.1.text/\Dg c.2.text):
  XD a (d.map Ze.name) I r=Ie (Ya a d r)/\∀t,Ya a d r=.ok t->t.ref=Vw a r/\t.ahead=a.length:=by
 unfold XD Ya
 have b:∀x:Nat×Nat,Xs a 1 (Yg 999 1 (Xi (J x) r.amount) r.cur) r.act.routes=J x:=fun x=>by
  cases r.amount with
  |none=>simp only[Xi];rw[ZR,Wh]
  |some c=>simp only[Xi];rw[ZO,ZO,ZR,Wh]
 rw[List.length_map];by_cases u:d.length=8
 ·have o:decide (8<=d.length)=true:=aF;rw[o,YA,Vr,ZO,ZO,ZO,ZR,b,if_pos u];exact⟨rfl,fun t h=>by cases h⟩
 rw[show decide (8<=d.length)=false from aF,Yc,Qj,if_neg u,<-OZ];by_cases k:XR r.name.text d=true
 ·rw[if_pos k,if_pos k,ZO,ZO,ZO,ZR,b];exact⟨rfl,fun t h=>by cases h⟩
 rw[if_neg k,if_neg k];by_cases l:1000<Zd r.rank
 ·rw[show decide (1000<Zd r.rank)=true from by simpa using l,if_pos l,YA,ZO,ZO,ZR,b];exact⟨rfl,fun t h=>by cases h⟩
 rw[show decide (1000<Zd r.rank)=false from by simpa using l,if_neg l,Yc];by_cases m:6<r.bin.1.text.size
 ·rw[show decide (6<r.bin.1.text.size)=true from by simpa using m,if_pos m,YA,ZO,ZR,b];exact⟨rfl,fun t h=>by cases h⟩
 rw[show decide (6<r.bin.1.text.size)=false from by simpa using m,if_neg m,Yc];by_cases p:r.bin.2.text.size≠r.bin.1.text.size
 ·rw[show(decide (6<r.bin.2.text.size)||decide (r.bin.2.text.size≠r.bin.1.text.size)||decide (Zd r.bin.2<Zd r.bin.1))=true from by simp[p],if_pos p,YA,ZR,b];exact⟨rfl,fun t h=>by cases h⟩
 have B:r.bin.2.text.size=r.bin.1.text.size:=az;rw[if_neg p];by_cases v:¬Zd r.bin.1<=Zd r.bin.2
 ·rw[show(decide (6<r.bin.2.text.size)||decide (r.bin.2.text.size≠r.bin.1.text.size)||decide (Zd r.bin.2<Zd r.bin.1))=true from aF,if_pos v,YA,ZR,b];exact⟨rfl,fun t h=>by cases h⟩
 rw[show(decide (6<r.bin.2.text.size)||decide (r.bin.2.text.size≠r.bin.1.text.size)||decide (Zd r.bin.2<Zd r.bin.1))=false from aF,if_neg v,Yc];obtain⟨w,C⟩:=WR 9999 r.mcc 0 az;rw[z7]at w;rw[w]
 cases D:Zq 9999 0 r.mcc with
 |error f=>
  simp only[Ie];rw[b];exact⟨rfl,fun t h=>by cases h⟩
 |ok g=>
  have E:=C g D;simp only[Ie];obtain⟨y,F⟩:=WR 999 r.cur 0 az;rw[z7]at y;obtain⟨z,G⟩:=Mr a o r.act.routes 0 az;rw[z7]at z;have i:∀(n:Option (Nat×Nat)),n=r.amount.map (fun c=>(Zd c.1,Zd c.2))->Xs a 1 (Yg 999 1 I r.cur) r.act.routes=
    Ie (match Zq 999 0 r.cur with
     | .error f=>(.error f:Except (Nat×Nat) Ze)
     | .ok e=>match Zx a 0 r.act.routes with
      | .error f=>.error f
      | .ok j=>.ok ⟨r.name.text,Zd r.rank,r.bin.1.text.size,Zd r.bin.1,Zd r.bin.2,g,n,e,r.act.decline,r.act.cheapest,j,a.length⟩)/\
    ∀t,(match Zq 999 0 r.cur with
     | .error f=>(.error f:Except (Nat×Nat) Ze)
     | .ok e=>match Zx a 0 r.act.routes with
      | .error f=>.error f
      | .ok j=>.ok ⟨r.name.text,Zd r.rank,r.bin.1.text.size,Zd r.bin.1,Zd r.bin.2,g,n,e,r.act.decline,r.act.cheapest,j,a.length⟩)=.ok t->t.ref=Vw a r/\t.ahead=a.length:=by
   intro n q;rw[y]
   cases H:Zq 999 0 r.cur with
   |error f=>
    simp only[Ie];rw[Wh];exact⟨rfl,fun t h=>by cases h⟩
   |ok e=>
    simp only[Ie];rw[z]
    cases K:Zx a 0 r.act.routes with
    |error f=>exact⟨rfl,fun t h=>by cases h⟩
    |ok j=>
     refine⟨rfl,fun t h=>?_⟩;injection h with h;subst h;refine⟨?_,rfl⟩;simp only[Ze.ref,Vw];rw[E,F e H,G j K,q]
  cases s:r.amount with
  |none=>
   have h:=i I (by rw[s];rfl);simp only[Xi,Option.any,Option.map];exact h
  |some c=>
   obtain⟨L,M⟩:=A c s;have O:=Wp c.1 L;have P:=Wp c.2 M;simp only[Xi,Option.any,Option.map];rw[show decide (1000000000<Zd c.1)=false from aF,Yc,show decide (1000000000<Zd c.2)=false from aF,Bool.false_or];by_cases Q:Zd c.1<=Zd c.2
   ·have h:=i (J (Zd c.1,Zd c.2)) (by rw[s];rfl);rw[show decide (Zd c.2<Zd c.1)=false from aF,Yc,if_neg aF];exact h
   rw[show decide (Zd c.2<Zd c.1)=true from aF,YA,ZR,Wh,if_pos aF];exact⟨rfl,fun t h=>by cases h⟩
def Yo:List UInt8->List UInt8
 |48::c::r=>Yo (c::r)
 |l=>l
def VJ (c r):Yo (48::c::r)=Yo (c::r):=by rw[Yo]
def Ul (c):Yo [c]=[c]:=by
 unfold Yo;split
 ·rename_i h;simp at h
 rfl
def VU (b r)(h:b≠48):Yo (b::r)=b::r:=by
 unfold Yo;split
 ·rename_i a;simp at a;exact absurd a.1 h
 rfl
def QF (l)(h:l≠[]):Yo l≠[]/\(Yo l).length<=l.length:=by
 induction l with
 |nil=>exact absurd rfl h
 |cons b r d=>
  by_cases a:b=48
  ·subst a
   cases r with
   |nil=>rw[Ul];simp
   |cons c r=>
    rw[VJ];have:=d y;exact⟨this.1,by have:=this.2;simp at this ⊢;omega⟩
  rw[VU b r a];simp
def BG (l)(h:l≠[]):x7 (l.length-(Yo l).length) 48++Yo l=l:=by
 induction l with
 |nil=>exact absurd rfl h
 |cons b r d=>
  by_cases a:b=48
  ·subst a
   cases r with
   |nil=>rw[Ul];simp
   |cons c r=>
    rw[VJ];have f:=d y;have g:=(QF (c::r) y).2
    have e:(48::c::r).length-(Yo (c::r)).length=((c::r).length-(Yo (c::r)).length)+1:=by
     simp only[A]at g ⊢;omega
    rw[e,List.replicate_succ,x4,f]
  rw[VU b r a];simp
def Hq (m c)(e:m≠[]):Yo (m++[c])=if Yo m=[48]then[c]else Yo m++[c]:=by
 induction m with
 |nil=>exact absurd rfl e
 |cons b r f=>
  by_cases a:b=48
  ·subst a
   cases r with
   |nil=>rw[Ul,if_pos rfl];show Yo [48,c]=_;rw[VJ,Ul]
   |cons d r=>
    rw[VJ]
    show Yo (48::d::(r++[c]))=_
    rw[VJ];exact f y
  rw[VU b r a,x4,VU b _ a];rw[if_neg (by simp;intro h;exact absurd h a)]
def uT (l:List UInt8):Prop:=∀c,c∈l->48<=c.toNat/\c.toNat<=57
def Ms (c)(h:48<=c.toNat/\c.toNat<=57):UInt8.ofNat (48+(c.toNat-48))=c:=by
 rw[show 48+(c.toNat-48)=c.toNat from z];exact UInt8.ofNat_toNat
def UU {u}(h:u<10):Lib.decDigits u=[UInt8.ofNat (48+u)]:=by rw[Lib.decDigits,dif_pos h]
def NO {u}(h:¬u<10):Lib.decDigits u=Lib.decDigits (u/10)++[UInt8.ofNat (48+u % 10)]:=by rw[Lib.decDigits,dif_neg h]
def Ig (u):Lib.decDigits u≠[]:=by
 by_cases h:u<10
 ·rw[UU h];simp
 rw[NO h];simp
def Hr (u):Lib.decDigits u=[48]↔u=0:=by
 constructor
 ·intro h;by_cases b:u<10
  ·rw[UU b]at h;injection h with h _;have:=congrArg UInt8.toNat h;simp at this;omega
  rw[NO b]at h;have c:=congrArg List.length h
  have d:1<=(Lib.decDigits (u/10)).length:=by
   rcases Nat.eq_zero_or_pos (Lib.decDigits (u/10)).length with a|a
   ·exact absurd (z9.1 a) (Ig _)
   exact a
  simp at c;exact absurd c (Ig _)
 intro h;subst h;rw[UU z];rfl
def BH:∀n l,l.length=n->l≠[]->uT l->Yo l=Lib.decDigits (ZA l):=by
 intro n
 induction n with
 |zero=>intro l b h _;exact absurd (z9.1 b) h
 |succ n o=>
  intro l b a k;obtain⟨m,c,rfl⟩:∃m c,l=m++[c]:=⟨l.dropLast,l.getLast a,(List.dropLast_concat_getLast a).symm⟩;have f:=k c y;rw[Uk];by_cases g:m=[]
  ·subst g
   show Yo [c]=Lib.decDigits (ZA []*10+(c.toNat-48))
   have e:ZA []*10+(c.toNat-48)=c.toNat-48:=by simp[ZA]
   rw[e,Ul,UU z,Ms c f]
  have p:=o m (by simp at b;exact b) g (fun d i=>k d (by simp[i]));rw[Hq m c g,p];by_cases j:ZA m=0
  ·rw[if_pos ((Hr _).2 j),j,UU z,Nat.zero_mul,z7,Ms c f]
  rw[if_neg (fun h=>j ((Hr _).1 h)),NO (u:=ZA m*10+(c.toNat-48)) z];rw[show(ZA m*10+(c.toNat-48))/10=ZA m from z,show(ZA m*10+(c.toNat-48))% 10=c.toNat-48 from z,Ms c f]
def yl {t}(h:Dg t):uT t.data.toList:=fun c d=>by
 obtain⟨k,b,e⟩:=x0 d;have a:=h.2 k (by simpa using b);unfold Zy at a;rw[gD,gE b,e]at a;simp at a;omega
def Mt {t:ByteArray}(h:1<=t.size):t.data.toList≠[]:=fun e=>by
 have a:t.data.toList.length=t.size:=y;rw[e]at a;simp at a;omega
def KY (t)(h:Dg t.text)(a:1<=t.text.size):Yo t.text.data.toList=Lib.decDigits (Zd t):=
 BH _ _ rfl (Mt a) (yl h)
def Pt (t)(h:Dg t.text)(b:1<=t.text.size):x7 (t.text.size-(Lib.decDigits (Zd t)).length) 48++Lib.decDigits (Zd t)=t.text.data.toList/\(Lib.decDigits (Zd t)).length<=t.text.size:=by
 have a:t.text.data.toList≠[]:=Mt b;have f:=KY t h b;have c:=BG _ a;have d:=(QF _ a).2;have e:t.text.data.toList.length=t.text.size:=y;rw[f,e]at c d;exact⟨c,d⟩
def Y3 (a:List Zf)(b:List Xh):List VC->Except (Nat×Nat) (List Zf×List Xh)
 |[]=>.ok (a,b)
 | .route r::xs=>match Wu a I r with
  |some f=>.error f
  |none=>Y3 (a++[⟨r.name.text,Zd r.base,Zd r.rate⟩]) b xs
 | .rule r::xs=>match XD a (b.map Xh.name) I r with
  |some f=>.error f
  |none=>Y3 a (b++[Vw a r]) xs
def TQ {l x}(h:YG l)(c:l.any (fun y=>y.toList==x.toList)=false):YG (l++[x]):=by
 induction l with
 |nil=>exact⟨fun y b=>by simp at b,trivial⟩
 |cons a r f=>
  have d:(∀y,y∈r->(y.toList==a.toList)=false)/\YG r:=h;rw[z4,Bool.or_eq_false_iff]at c;refine⟨fun y b=>?_,f d.2 c.2⟩;rcases y4.1 b with b|b
  ·exact d.1 y b
  simp at b;subst b;rw[Bool.eq_false_iff]at c ⊢;intro e;apply c.1;simp at e ⊢;exact e.symm
def VV {a r t}(b:a.length<=6)(c:YG (a.map Zf.name))(h:ZF a r=.ok t):YG ((a++[t]).map Zf.name)/\(a++[t]).length<=6:=by
 have e:=(Tx a r b).2 t h;unfold ZF at h
 split at h
 ·cases h
 rename_i i
 split at h
 ·cases h
 rename_i d;have f:=Od r.name.text a 0;subst e;rw[x6];refine⟨TQ c ?_,aF⟩;rw[Bool.eq_false_iff]
 exact fun g=>d (f.2 g)
def O0 {b a r t}(c:a.length<=8)(h:Ya b a r=.ok t):(a++[t]).length<=8:=by
 unfold Ya at h
 split at h
 ·cases h
 simp;omega
def yn (a:List Ze):(a.map Ze.ref).map Xh.name=a.map Ze.name:=by
 rw[List.map_map];rfl
def Ro:∀(d:List VC)(a:List Zf)(b:List Ze),a.length<=6->b.length<=8->YG (a.map Zf.name)->(∀x,x∈d->VI x)->
  Y3 a (b.map Ze.ref) d=(match ZT a b d with
   | .error f=>.error f
   | .ok p=>.ok (p.1,p.2.map Ze.ref))
 |[],a,b,_,_,_,_=>rfl
 | .route r::d,a,b,h6,h8,hd,ho=>by
  obtain⟨h,i⟩:=Tx a r h6;simp only[Y3];rw[h]
  cases c:ZF a r with
  |error f=>rw[YZ (f:=f) (by simp only[VD,c])];rfl
  |ok t=>
   rw[Xx (p:=(a++[t],b)) (by simp only[VD,c])];have e:=i t c;have g:=VV h6 hd c;have:=Ro d (a++[t]) b g.2 h8 g.1 (fun x j=>ho x (by simp[j]));rw[e]at this ⊢;exact this
 | .rule r::d,a,b,h6,h8,hd,ho=>by
  have k:VI (.rule r):=ho _ y;obtain⟨h,i⟩:=En a b r h8 hd k.2.2.2.2.2.2.1;simp only[Y3];rw[yn,h]
  cases c:Ya a b r with
  |error f=>rw[YZ (f:=f) (by simp only[VD,c])];rfl
  |ok t=>
   rw[Xx (p:=(a,b++[t])) (by simp only[VD,c])];have e:=(i t c).1;have:=Ro d a (b++[t]) h6 (O0 h8 c) hd (fun x j=>ho x (by simp[j]));rw[x6,C,List.map_nil,e]at this;exact this
def Kg (t:Tk)(l:List UInt8):Bool:=t.text.toList==l
def Ra (a:List Tk)(k:Nat):Bool:=
 (decide (0<k)&&Kg (Zp a (k-1)) [98,105,110])||(decide (2<k)&&Kg (Zp a (k-1)) [46,46]&&Kg (Zp a (k-3)) [98,105,110])
def Xj (a:List Tk)(k:Nat):List UInt8:=
 if decide ((Zp a k).sort=1)&&!Ra a k then Yo (Zp a k).text.data.toList else(Zp a k).text.data.toList
def UD (s:List UInt8):Bool:=s==[59]||s==[44]||s==[58]||s==[46,46]
def ZU:Bool->Bool->List (List UInt8)->List UInt8
 |_,_,[]=>[]
 |first,glued,s::r=>(if !first&&!glued&&!UD s then[32]else[])++(s++(if s==[59]then 10::ZU true (s==[46,46]) r else ZU false (s==[46,46]) r))
def Yt (a:List Tk):Nat->Nat->List (List UInt8)
 |_,0=>[]
 |k,n+1=>Xj a k::Yt a (k+1) n
def VW (ts:List Tk)(n:Nat):List UInt8:=ZU true false (Yt ts 0 n)
section
variable {P:Program} {ops:Array Oper} {Q:Exit->Act->List Frame->D->Prop} {a:Act} {cs cs':List Frame} {w w':D} {o:Oper} {v:M}
def KZ {f n2 q}(b:∀a w,f a w->n2 a w){r}(h:o.upon P a f q r):o.upon P a n2 q r:=by
 unfold Oper.upon at h ⊢
 split at h
 ·exact b _ _ h
 ·exact b _ _ h
 ·exact b _ _ h
 ·refine h.mono ?_;intro e g d
  cases e with
  |returned v=>exact b _ _ d
  |panicked c=>exact d
  |outgrown=>exact d
 ·exact h.mono fun _ _ d=>b _ _ d
 ·exact h
 exact h.elim
def St (b:∀a w,¬Q .outgrown a cs w):∀(l:List Oper)(k:Nat),(∀j,l[j]?=ops[k+j]?)->∀(a:Act)(w:D),wpList P ops (fun e a w=>Q e a cs w) l a w->wpOpsS P ops Q (x3 k l.length) a cs w
 |[],k,_,a,w,h=>h
 |o::l,k,hl,a,w,h=>by
  have i:ops[k]?=J o:=by simpa using(hl 0).symm
  have g:=St b l (k+1) (fun j=>by have:=hl (j+1);simpa[Nat.add_assoc,x2 1 j]using this);simp only[A,z8,wpOpsS,i];simp only[wpList]at h
  split at h
  ·rename_i d;rw[if_pos d];rcases h with h|⟨_,f,c,h⟩
   ·unfold Oper.wp at h
    split
    ·rename_i c m;rw[m]at h;exact absurd h (by simp[Oper.upon])
    exact KZ (fun f c h=>g f c h) h
   exact absurd h (b f c)
  rename_i d;rw[if_neg d];exact g _ _ h
def Ty {m i:Exit->Act->D->Prop}(d:∀e a w,m e a w->i e a w):∀(l:List Oper)(a:Act)(w:D),wpList P ops m l a w->wpList P ops i l a w
 |[],a,w,h=>d _ _ _ h
 |o::l,a,w,h=>by
  simp only[wpList]at h ⊢
  split at h
  ·rename_i j;rw[if_pos j];rcases h with h|⟨n,k,g,h⟩
   ·left
    have b:=KZ (n2:=wpList P ops i l) (fun a w f=>Ty d l a w f) h;unfold Oper.wp;unfold Oper.upon at b ⊢
    split at b
    ·exact b
    ·exact b
    ·exact b
    ·refine b.mono ?_;intro e g f
     cases e with
     |returned v=>exact f
     |panicked c=>exact d _ _ _ f
     |outgrown=>obtain⟨k,g,f⟩:=f;exact⟨k,g,d _ _ _ f⟩
    ·exact b
    ·exact d _ _ _ b
    exact b.elim
   exact x1 ⟨n,k,g,d _ _ _ h⟩
  rename_i j;rw[if_neg j];exact Ty d l _ _ h
def O1 {id y o l}(b:ops.toList=o::l)(f:Region.wanted o (yielded ops a.tmps)=true)(g:(execOp a.eval o).run P w=.ok .recover w')(i:recoverD cs=J (v,cs'))(c:∀a w,¬Q .outgrown a cs' w)(h:wpList P ops (Exit.then (y.wp P (fun e a w=>Q e a cs' w)) (fun e a w=>Q e a cs' w)) l (a.put o.dst v) w'):(Code.seq (.region id ops false) y).wpS P Q a cs w:=by
 refine wpS_seq (wpS_region ?_)
 have k:ops[0]?=J o:=by rw[<-Array.getElem?_toList,b];rfl
 have m:x8 ops.size=0::x3 1 l.length:=by rw[<-Array.length_toList,b,y9,A,z8]
 rw[m];simp only[wpOpsS,k,f,if_true,g,i];refine St (Q:=Exit.thenS (y.wpS P Q) Q) (fun a w=>c a w) l 1 (fun j=>?_) _ _ ?_
 ·rw[<-Array.getElem?_toList,b,x2,y3]
 have n:∀e a w,Exit.then (y.wp P (fun e a w=>Q e a cs' w)) (fun e a w=>Q e a cs' w) e a w->Exit.thenS (y.wpS P Q) Q e a cs' w:=fun e a w d=>by
  cases e with
  |normal=>exact wpS_of_wp d
  |_=>exact d
 exact Ty n l _ _ h
end
def Nr (a b c)(k l:Nat)(F K P w)(t:w.cell? ⟨a,0,I⟩=J F)(z:w.cell? ⟨b,0,I⟩=J K)(A:w.cell? ⟨c,0,I⟩=J P)(Q:w.frozen? ⟨a,0,I⟩=false)(R:w.frozen? ⟨b,0,I⟩=false)(S:w.frozen? ⟨c,0,I⟩=false)(g:¬a=b)(i:¬a=c)(m:¬b=c)(n:¬b=a)(q:¬c=a)(r:¬c=b):
  CallsD H 57 #[Z (J ⟨a,0,I⟩),Z (J ⟨b,0,I⟩),Z (J ⟨c,0,I⟩)] (.panicking [{v:=.iface 111 (y7 #[U O k,U O l]),recovered:=false}]) w fun e T w'=>
   e=G (.tuple #[])/\T=.panicking [{v:=.iface 111 (y7 #[U O k,U O l]),recovered:=true}]/\
    w'.cell? ⟨a,0,I⟩=J (Z I)/\w'.cell? ⟨b,0,I⟩=J (U O k)/\w'.cell? ⟨c,0,I⟩=J (U O l)/\Fr (fun j=>j=a\/j=b\/j=c) w w':=by
 have V:∀w:D,(Instr.typeAssert (.iface 111 (y7 #[U O k,U O l])) 20 111 true).run H w=.ok (.tuple #[y7 #[U O k,U O l],L true]) w:=fun _=>aC
 refine callsD_of_wpS func57 rfl fun X Y hu=>?_
 have ht:(#[Z (J ⟨a,0,I⟩),Z (J ⟨b,0,I⟩),Z (J ⟨c,0,I⟩)]++Array.replicate (f57.ntmps-(#[Z (J ⟨a,0,I⟩),Z (J ⟨b,0,I⟩),Z (J ⟨c,0,I⟩)]:Array M).size) undef:Array M)=#[Z (J ⟨a,0,I⟩),Z (J ⟨b,0,I⟩),Z (J ⟨c,0,I⟩),undef,undef,undef,undef,undef,undef,undef,undef,undef,undef,undef,undef]:=by rw[show f57.ntmps=15 from rfl];rfl
 rw[ht];refine O1 (v:=.iface 111 (y7 #[U O k,U O l])) (cs':={X with mode:=.panicking [{v:=.iface 111 (y7 #[U O k,U O l]),recovered:=true}]}::Y) (w':=w) (o:=?o) (l:=?l) ?ho ?hw ?hx ?hr ?hno ?main
 case ho=>rfl
 case hw=>kernel_rfl
 case hx=>rfl
 case hr=>simp only[recoverD,hu]
 case hno=>intro a w s;obtain⟨u,s,_⟩:=s;cases s
 show wpList H _ _ _ {tmps:=#[Z (J ⟨a,0,I⟩),Z (J ⟨b,0,I⟩),Z (J ⟨c,0,I⟩),undef,undef,undef,.iface 111 (y7 #[U O k,U O l]),undef,undef,undef,undef,undef,undef,undef,undef],defers:=[]} w
 go_wp2;have B:a<w.heap.size:=bL w _ t;have C:b<w.heap.size:=bL w _ z;have E:c<w.heap.size:=bL w _ A;have f:=(Kk w (W #[U O k,U O l] 111)).1;have HF:=Za f;have g0:=(f.cell (p:=⟨a,0,I⟩) B).trans t;have g1:=(f.cell (p:=⟨b,0,I⟩) C).trans z;have g2:=(f.cell (p:=⟨c,0,I⟩) E).trans A;have y0:=(f.frozen (p:=⟨a,0,I⟩) B).trans Q;have y1:=(f.frozen (p:=⟨b,0,I⟩) C).trans R;have y2:=(f.frozen (p:=⟨c,0,I⟩) E).trans S;have k0:=bC (aN w (W #[U O k,U O l] 111)) 0 _ rfl;have k1:=bC (aN w (W #[U O k,U O l] 111)) 1 _ rfl;generalize hN:w.heap.size=N at*;generalize w.alloc _=wA at*;have na:¬a=N:=az;have nb:¬b=N:=az;have nc:¬c=N:=az;have a0:¬N=a:=az;have b0:¬N=b:=az;have c0:¬N=c:=az
 go_region
 have d:∀(v:D)(x y:Nat)(u:M),¬x=y->(v.setCell ⟨x,0,I⟩ u).cell? ⟨y,0,I⟩=v.cell? ⟨y,0,I⟩:=fun v x y u h=>cO _ _ _ _ (fun e=>h (by injection e))
 refine⟨rfl,_,rfl,.tuple #[],results_none rfl _ _ _,rfl,rfl,?_,?_,?_,?_⟩
 ·exact(d _ c a _ q).trans ((d _ b a _ n).trans (cS _ _ _ g0))
 ·exact(d _ c b _ r).trans (cS _ _ _ ((d _ a b _ g).trans g1))
 ·exact cS _ _ _ ((d _ b c _ m).trans ((d _ a c _ i).trans g2))
 exact((((HF.o.mono).setCell (p:=⟨a,0,I⟩) (y6 (y6 rfl)) _).setCell (p:=⟨b,0,I⟩) (y6 (x1 (y6 rfl))) _).setCell (p:=⟨c,0,I⟩) (y6 (x1 (x1 rfl))) _).drew
def Pu {P b Q a c w w' id y o l}(d:b.toList=o::l)(i:Region.wanted o (yielded b a.tmps)=true)(k:(execOp a.eval o).run P w=.ok .recover w')(m:recoverD c=I)(f:∀a w,¬Q .outgrown a c w)(h:wpList P b (Exit.then (y.wp P (fun e a w=>Q e a c w)) (fun e a w=>Q e a c w)) l (a.put o.dst .nilIface) w'):(Code.seq (.region id b false) y).wpS P Q a c w:=by
 refine wpS_seq (wpS_region ?_)
 have n:b[0]?=J o:=by rw[<-Array.getElem?_toList,d];rfl
 have p:x8 b.size=0::x3 1 l.length:=by rw[<-Array.length_toList,d,y9,A,z8]
 rw[p];simp only[wpOpsS,n,i,if_true,k,m];refine St (Q:=Exit.thenS (y.wpS P Q) Q) (fun a w=>f a w) l 1 (fun j=>?_) _ _ ?_
 ·rw[<-Array.getElem?_toList,d,x2,y3]
 have q:∀e a w,Exit.then (y.wp P (fun e a w=>Q e a c w)) (fun e a w=>Q e a c w) e a w->Exit.thenS (y.wpS P Q) Q e a c w:=fun e a w g=>by
  cases e with
  |normal=>exact wpS_of_wp g
  |_=>exact g
 exact Ty q l _ _ h
def Eo (a b c w):
  CallsD H 57 #[Z (J ⟨a,0,I⟩),Z (J ⟨b,0,I⟩),Z (J ⟨c,0,I⟩)] .returning w fun e g w'=>
   e=G (.tuple #[])/\g=.returning/\F0 w w':=by
 have h:∀w:D,(Instr.typeAssert .nilIface 20 111 true).run H w=.ok (.tuple #[y7 #[U O 0,U O 0],L false]) w:=fun _=>n
 refine callsD_of_wpS func57 rfl fun k m f=>?_
 have i:(#[Z (J ⟨a,0,I⟩),Z (J ⟨b,0,I⟩),Z (J ⟨c,0,I⟩)]++Array.replicate (f57.ntmps-(#[Z (J ⟨a,0,I⟩),Z (J ⟨b,0,I⟩),Z (J ⟨c,0,I⟩)]:Array M).size) undef:Array M)=#[Z (J ⟨a,0,I⟩),Z (J ⟨b,0,I⟩),Z (J ⟨c,0,I⟩),undef,undef,undef,undef,undef,undef,undef,undef,undef,undef,undef,undef]:=by rw[show f57.ntmps=15 from rfl];rfl
 rw[i];refine Pu (w':=w) (o:=?o) (l:=?l) ?ho ?hw ?hx ?hr ?hno ?main
 case ho=>rfl
 case hw=>kernel_rfl
 case hx=>rfl
 case hr=>simp only[recoverD,f]
 case hno=>intro a w d;obtain⟨u,d,_⟩:=d;cases d
 show wpList H _ _ _ {tmps:=#[Z (J ⟨a,0,I⟩),Z (J ⟨b,0,I⟩),Z (J ⟨c,0,I⟩),undef,undef,undef,.nilIface,undef,undef,undef,undef,undef,undef,undef,undef],defers:=[]} w
 have j:=Za f;go_wp2;refine⟨rfl,.returning,by rw[<-j.o],.tuple #[],results_none rfl _ _ _,rfl,rfl,Zo.alloc _⟩
