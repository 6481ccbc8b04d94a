import Derived.Test.YtccikgogjfbpeaaGreatDoorQk
import Derived.Defers
import Derived.Recover
open Go.Value renaming pointer->I,int->Y,agg->T
open Option renaming none->J,some->S
open Go renaming World->V,Value->M
open Go.IntKind renaming i64->Z
open Go.Proofs.Tryz renaming prog->U
open Go.Ending renaming returned->K
open List renaming length_cons->O,range'_succ->E,getElem?_cons_succ->H,range_eq_range'->D,range'->R,range->L
open Nat renaming add_comm->G
namespace Go.Proofs.YtccikgogjfbpeaaGreatDoor
set_option maxRecDepth 30000
set_option maxHeartbeats 8000000
open Go.RowKit
def XP (s:ByteArray):Except (Nat×Nat) (List Zd×List Zc):=
 if 3000<s.size then .error (1,0)
 else match ZL s 0 1 []with
  | .error l=>.error (2,l)
  | .ok ts=>match Zu ts 0 []with
   | .error l=>.error (3,l)
   | .ok (xs,_)=>ZZ [] [] xs
def TE (x:Except (Nat×Nat) (List Zd×List Zc))(w:V)(e:Ending)(w':V):Prop:=
 match x with
 | .ok p=>(∃B a b c,e=K (I (S ⟨B,0,J⟩))/\w.heap.size<=B/\Bk w' B a b p.1 p.2 c)/\Below w.heap.size w w'
 | .error f=>e=Zj f.1 f.2/\Below w.heap.size w w'
theorem TE.ok {x:Except (Nat×Nat) (List Zd×List Zc)}{w w':V}{e:Ending}{p:List Zd×List Zc}(h:x=.ok p):TE x w e w'↔(∃B a b c,e=K (I (S ⟨B,0,J⟩))/\w.heap.size<=B/\Bk w' B a b p.1 p.2 c)/\Below w.heap.size w w':=by subst h;exact Iff.rfl
theorem TE.err {x:Except (Nat×Nat) (List Zd×List Zc)}{w w':V}{e:Ending}{f:Nat×Nat}(h:x=.error f):TE x w e w'↔e=Zj f.1 f.2/\Below w.heap.size w w':=by subst h;exact Iff.rfl
theorem WQ.ok {w w':V}{s:ByteArray}{e:Ending}{ts:List Tk}(h:ZL s 0 1 []=.ok ts):WQ w s e w'↔(∃v,e=K v/\w'.ownsRow w.heap.size 263 3 v ts.length (Yb ts)/\ts.length<=s.size+1)/\Below w.heap.size w w':=by unfold WQ;rw[h]
theorem WQ.err {w w':V}{s:ByteArray}{e:Ending}{l:Nat}(h:ZL s 0 1 []=.error l):WQ w s e w'↔e=Zj 2 l/\Below w.heap.size w w':=by unfold WQ;rw[h]
theorem Wn.ok {w w':V}{ts:List Tk}{e:Ending}{a:List Yk}{k:Nat}(h:Zu ts 0 []=.ok (a,k)):Wn w ts e w'↔(∃v b,e=K v/\w'.ownsRow w.heap.size 256 1 v a.length b/\YT w.heap.size w' a b/\a.length<=4000)/\Below w.heap.size w w':=by unfold Wn;rw[h]
theorem Wn.err {w w':V}{ts:List Tk}{e:Ending}{l:Nat}(h:Zu ts 0 []=.error l):Wn w ts e w'↔e=Zj 3 l/\Below w.heap.size w w':=by unfold Wn;rw[h]
theorem Eq (s:ByteArray)(w:V):Calls U 58 #[.string s] w (TE (XP s) w):=by
 by_cases H:3000<s.size
 ·have R:Hid (XP s=.error (1,0)):=by show _=_;unfold XP;rw[if_pos H]
  go_enter Tryz.func58,Tryz.ntmps58;go_wp2;exact⟨rfl,(TE.err R.o).2 ⟨rfl,Below.refl _ _⟩⟩
 ·have y:=Za H
  go_enter Tryz.func58,Tryz.ntmps58;go_wp2_with fail;clear H;refine(Ef s w (by have:=y.o;omega)).mono ?_;intro e I c
  cases z:ZL s 0 1 []with
  |error l=>
   obtain⟨m,b⟩:=(WQ.err z).1 c;unfold Zj at m;subst m;exact⟨rfl,(TE.err (f:=(2,l)) (by unfold XP;rw[if_neg y.o,z])).2 ⟨rfl,b⟩⟩
  |ok ts=>
   obtain⟨⟨v,rfl,a,n⟩,b⟩:=(WQ.ok z).1 c;obtain⟨q,d,u⟩:=T2 _ 0 1 [] ts rfl (by simp) z;obtain⟨g,cap,rfl,T,W⟩:=a.form u
   have x:∀k,(⟨g,0,J⟩:Addr).add k=⟨g,k,J⟩:=fun k=>by unfold Addr.add;split<;>simp_all
   have B:=Za q;have K:=Za n;have M:=Za z;have i:=Za b
   have X:Hid (Calls U 103 #[.slice (S ⟨g,0,J⟩) ts.length cap] I (Wn I ts)):=by
    refine Gw I g cap ts (fun j t Y=>?_) W u (by have:=y.o;omega) d;obtain⟨Z,t1,t2⟩:=Qg ts j t Y;have N:=a.cells (g:=g) rfl _ _ Z;have O:=a.cells (g:=g) rfl _ _ t1;have P:=a.cells (g:=g) rfl _ _ t2;rw[x]at N O P;exact⟨N,O,P⟩
   clear c z a n b q d T x;go_wp2_with fail;refine X.o.mono ?_;intro e w2 c
   cases A:Zu ts 0 []with
   |error l=>
    obtain⟨m,b⟩:=(Wn.err A).1 c;unfold Zj at m;subst m;exact⟨rfl,(TE.err (f:=(3,l)) (by unfold XP;rw[if_neg y.o,M.o];dsimp only;rw[A])).2 ⟨rfl,i.o.trans (b.mono i.o.size)⟩⟩
   |ok r=>
    obtain⟨F,k⟩:=r;obtain⟨⟨v,vs,rfl,a,C,D⟩,b⟩:=(Wn.ok A).1 c;have HE:=Za (P0 B.o (by have:=y.o;omega) (by have:=y.o;have:=K.o;omega) _ 0 [] F k rfl (by simp) A);have HU:=Za (PX w2 _ _ v F vs a C HE.o D)
    have Q:Hid (XP s=ZZ [] [] F):=by show _=_;unfold XP;rw[if_neg y.o,M.o];dsimp only;rw[A]
    have h:=Za (i.o.trans (b.mono i.o.size));obtain⟨a1,a2,a3,rfl⟩:=ZD a;clear c A a C D b;go_wp2_with fail;refine HU.o.mono ?_;intro e w3 c
    cases E:ZZ [] [] F with
    |error f=>
     obtain⟨m,b⟩:=(T1.err E).1 c;unfold Zj at m;subst m;exact⟨rfl,(TE.err (Q.o.trans E)).2 ⟨rfl,h.o.trans (b.mono h.o.size)⟩⟩
    |ok p=>
     obtain⟨rfl,G,b⟩:=(T1.ok E).1 c;have HK:=Za G;have L:=Za (h.o.trans (b.mono h.o.size));have HM:=Za (Q.o.trans E);clear c E G b;go_wp2;go_ret;obtain⟨vr,vl,ys,G⟩:=HK.o;exact(TE.ok HM.o).2 ⟨⟨_,_,_,_,rfl,h.o.size,G⟩,L.o⟩
section
variable {P:Program} {ops:Array Oper} {Q:Exit->Act->List Frame->V->Prop} {a:Act} {cs cs':List Frame} {w w':V} {o:Oper} {v:M}
theorem NQ {f n2:Act->V->Prop}{q:Exit->Act->V->Prop}(b:∀a w,f a w->n2 a w){r:Result Next}(h:o.upon P a f q r):o.upon P a n2 q r:=by
 unfold Oper.upon at h ⊢
 split at h
 ·exact b _ _ h
 ·exact b _ _ h
 ·exact b _ _ h
 ·refine h.mono ?_
  intro e w' d
  cases e with
  |returned v=>exact b _ _ d
  |panicked c=>exact d
  |outgrown=>exact d
 ·exact h.mono fun _ _ d=>b _ _ d
 ·exact h
 ·exact h.elim
theorem To (b:∀a w,¬Q .outgrown a cs w):∀(l:List Oper)(k:Nat),(∀j,l[j]?=ops[k+j]?)->∀(a:Act)(w:V),wpList P ops (fun e a w=>Q e a cs w) l a w->wpOpsS P ops Q (R k l.length) a cs w
 |[],k,_,a,w,h=>h
 |o::l,k,hl,a,w,h=>by
  have g:ops[k]?=S o:=by simpa using(hl 0).symm
  have f:=To b l (k+1) (fun j=>by have:=hl (j+1);simpa[Nat.add_assoc,G 1 j]using this);simp only[O,E,wpOpsS,g];simp only[wpList]at h
  split at h
  ·rename_i c
   rw[if_pos c];rcases h with h|⟨_,d,w',h⟩
   ·unfold Oper.wp at h
    split
    ·rename_i w' i
     rw[i]at h;exact absurd h (by simp[Oper.upon])
    ·exact NQ (fun d w' h=>f d w' h) h
   ·exact absurd h (b d w')
  ·rename_i c
   rw[if_neg c];exact f _ _ h
theorem UP {k g:Exit->Act->V->Prop}(d:∀e a w,k e a w->g e a w):∀(l:List Oper)(a:Act)(w:V),wpList P ops k l a w->wpList P ops g l a w
 |[],a,w,h=>d _ _ _ h
 |o::l,a,w,h=>by
  simp only[wpList]at h ⊢
  split at h
  ·rename_i i
   rw[if_pos i];rcases h with h|⟨m,j,w',h⟩
   ·left
    have b:=NQ (n2:=wpList P ops g l) (fun a w f=>UP d l a w f) h;unfold Oper.wp;unfold Oper.upon at b ⊢
    split at b
    ·exact b
    ·exact b
    ·exact b
    ·refine b.mono ?_
     intro e w' f
     cases e with
     |returned v=>exact f
     |panicked c=>exact d _ _ _ f
     |outgrown=>obtain⟨j,w',f⟩:=f;exact⟨j,w',d _ _ _ f⟩
    ·exact b
    ·exact d _ _ _ b
    ·exact b.elim
   ·exact Or.inr ⟨m,j,w',d _ _ _ h⟩
  ·rename_i i
   rw[if_neg i];exact UP d l _ _ h
theorem LX {id:Nat}{y:Code}{o:Oper}{l:List Oper}(b:ops.toList=o::l)(f:Region.wanted o (yielded ops a.tmps)=true)(g:(execOp a.eval o).run P w=.ok .recover w')(i:recoverD cs=S (v,cs'))(c:∀a w,¬Q .outgrown a cs' w)
  (h:wpList P ops (Exit.then (y.wp P (fun e a w=>Q e a cs' w)) (fun e a w=>Q e a cs' w)) l (a.put o.dst v) w'):(Code.seq (.region id ops false) y).wpS P Q a cs w:=by
 refine wpS_seq (wpS_region ?_)
 have k:ops[0]?=S o:=by rw[<-Array.getElem?_toList,b];rfl
 have m:L ops.size=0::R 1 l.length:=by rw[<-Array.length_toList,b,D,O,E]
 rw[m];simp only[wpOpsS,k,f,if_true,g,i];refine To (Q:=Exit.thenS (y.wpS P Q) Q) (fun a w=>c a w) l 1 (fun j=>?_) _ _ ?_
 ·rw[<-Array.getElem?_toList,b,G,H]
 ·have n:∀e a w,Exit.then (y.wp P (fun e a w=>Q e a cs' w)) (fun e a w=>Q e a cs' w) e a w->Exit.thenS (y.wpS P Q) Q e a cs' w:=fun e a w d=>by
   cases e with
   |normal=>exact wpS_of_wp d
   |_=>exact d
  exact UP n l _ _ h
end
theorem Pi (a b c:Nat)(k l:Nat)(v0 v1 v2:M)(w:V)(g:w.cell? ⟨a,0,J⟩=S v0)(i:w.cell? ⟨b,0,J⟩=S v1)(m:w.cell? ⟨c,0,J⟩=S v2)
  (E:w.frozen? ⟨a,0,J⟩=false)(F:w.frozen? ⟨b,0,J⟩=false)(G:w.frozen? ⟨c,0,J⟩=false)(n:¬a=b)(q:¬a=c)(r:¬b=c)(s:¬b=a)(t:¬c=a)(z:¬c=b):
  CallsD U 57 #[I (S ⟨a,0,J⟩),I (S ⟨b,0,J⟩),I (S ⟨c,0,J⟩)] (.panicking [{v:=.iface 111 (T #[Y Z k,Y Z l]),recovered:=false}]) w fun e O w'=>
   e=K (.tuple #[])/\O=.panicking [{v:=.iface 111 (T #[Y Z k,Y Z l]),recovered:=true}]/\
    w'.cell? ⟨a,0,J⟩=S (I J)/\w'.cell? ⟨b,0,J⟩=S (Y Z k)/\w'.cell? ⟨c,0,J⟩=S (Y Z l)/\Fr (fun j=>j=a\/j=b\/j=c) w w':=by
 have A:∀w:V,(Instr.typeAssert (.iface 111 (T #[Y Z k,Y Z l])) 20 111 true).run U w=.ok (.tuple #[T #[Y Z k,Y Z l],.bool true]) w:=fun _=>by kernel_rfl
 refine callsD_of_wpS Tryz.func57 rfl fun P Q H=>?_
 have L:(#[I (S ⟨a,0,J⟩),I (S ⟨b,0,J⟩),I (S ⟨c,0,J⟩)]++Array.replicate (Tryz.f57.ntmps-(#[I (S ⟨a,0,J⟩),I (S ⟨b,0,J⟩),I (S ⟨c,0,J⟩)]:Array M).size) undef:Array M)=#[I (S ⟨a,0,J⟩),I (S ⟨b,0,J⟩),I (S ⟨c,0,J⟩),undef,undef,undef,undef,undef,undef,undef,undef,undef,undef,undef,undef]:=by rw[show Tryz.f57.ntmps=15 from rfl];rfl
 rw[L];clear L;refine LX (v:=.iface 111 (T #[Y Z k,Y Z l])) (cs':={P with mode:=.panicking [{v:=.iface 111 (T #[Y Z k,Y Z l]),recovered:=true}]}::Q) (w':=w) (o:=?o) (l:=?l) ?ho ?hw ?hx ?hr ?hno ?main
 case ho=>rfl
 case hw=>kernel_rfl
 case hx=>rfl
 case hr=>simp only[recoverD,H]
 case hno=>intro a w B;obtain⟨u,B,_⟩:=B;cases B
 clear H
 show wpList U _ _ _ {tmps:=#[I (S ⟨a,0,J⟩),I (S ⟨b,0,J⟩),I (S ⟨c,0,J⟩),undef,undef,undef,.iface 111 (T #[Y Z k,Y Z l]),undef,undef,undef,undef,undef,undef,undef,undef],defers:=[]} w
 go_wp2;have C:a<w.heap.size:=bL w _ g;have lb:b<w.heap.size:=bL w _ i;have D:c<w.heap.size:=bL w _ m;have f:F0 w (w.alloc (.cells #[Y Z k,Y Z l] 111)):=(Fr.refl _ _).alloc _;have R:=Za f;have W:=(f.cell (p:=⟨a,0,J⟩) C (by simp)).trans g;have X:=(f.cell (p:=⟨b,0,J⟩) lb (by simp)).trans i;have g2:=(f.cell (p:=⟨c,0,J⟩) D (by simp)).trans m;have y0:=(f.frozen (p:=⟨a,0,J⟩) C (by simp)).trans E;have y1:=(f.frozen (p:=⟨b,0,J⟩) lb (by simp)).trans F;have y2:=(f.frozen (p:=⟨c,0,J⟩) D (by simp)).trans G;have k0:=bC (aN w (.cells #[Y Z k,Y Z l] 111)) 0 _ rfl;have k1:=bC (aN w (.cells #[Y Z k,Y Z l] 111)) 1 _ rfl;clear f A g i m E F G;generalize hN:w.heap.size=N at*;generalize w.alloc (.cells #[Y Z k,Y Z l] 111)=wA at*
 have na:¬a=N:=by omega
 have nb:¬b=N:=by omega
 have nc:¬c=N:=by omega
 have a0:¬N=a:=by omega
 have b0:¬N=b:=by omega
 have c0:¬N=c:=by omega
 clear hN C lb D
 go_region
 have d:∀(v:V)(x y:Nat)(u:M),¬x=y->(v.setCell ⟨x,0,J⟩ u).cell? ⟨y,0,J⟩=v.cell? ⟨y,0,J⟩:=fun v x y u h=>cO _ _ _ _ (fun e=>h (by injection e))
 refine⟨rfl,_,rfl,.tuple #[],results_none rfl _ _ _,rfl,rfl,?_,?_,?_,?_⟩
 ·exact(d _ c a _ t).trans ((d _ b a _ s).trans (cS _ _ _ W))
 ·exact(d _ c b _ z).trans (cS _ _ _ ((d _ a b _ n).trans X))
 ·exact cS _ _ _ ((d _ b c _ r).trans ((d _ a c _ q).trans g2))
 ·exact((((R.o.mono (by simp)).setCell (p:=⟨a,0,J⟩) (Or.inl (Or.inl rfl)) _).setCell (p:=⟨b,0,J⟩) (Or.inl (Or.inr (Or.inl rfl))) _).setCell (p:=⟨c,0,J⟩) (Or.inl (Or.inr (Or.inr rfl))) _).drew
theorem MU {P:Program}{b:Array Oper}{Q:Exit->Act->List Frame->V->Prop}{a:Act}{c:List Frame}{w w':V}{id:Nat}{y:Code}{o:Oper}{l:List Oper}(d:b.toList=o::l)(i:Region.wanted o (yielded b a.tmps)=true)(k:(execOp a.eval o).run P w=.ok .recover w')(m:recoverD c=J)(f:∀a w,¬Q .outgrown a c w)
  (h:wpList P b (Exit.then (y.wp P (fun e a w=>Q e a c w)) (fun e a w=>Q e a c w)) l (a.put o.dst .nilIface) w'):(Code.seq (.region id b false) y).wpS P Q a c w:=by
 refine wpS_seq (wpS_region ?_)
 have n:b[0]?=S o:=by rw[<-Array.getElem?_toList,d];rfl
 have p:L b.size=0::R 1 l.length:=by rw[<-Array.length_toList,d,D,O,E]
 rw[p];simp only[wpOpsS,n,i,if_true,k,m];refine To (Q:=Exit.thenS (y.wpS P Q) Q) (fun a w=>f a w) l 1 (fun j=>?_) _ _ ?_
 ·rw[<-Array.getElem?_toList,d,G,H]
 ·have q:∀e a w,Exit.then (y.wp P (fun e a w=>Q e a c w)) (fun e a w=>Q e a c w) e a w->Exit.thenS (y.wpS P Q) Q e a c w:=fun e a w g=>by
   cases e with
   |normal=>exact wpS_of_wp g
   |_=>exact g
  exact UP q l _ _ h
theorem JD (a b c:Nat)(w:V):
  CallsD U 57 #[I (S ⟨a,0,J⟩),I (S ⟨b,0,J⟩),I (S ⟨c,0,J⟩)] .returning w fun e h w'=>
   e=K (.tuple #[])/\h=.returning/\F0 w w':=by
 have i:∀w:V,(Instr.typeAssert .nilIface 20 111 true).run U w=.ok (.tuple #[T #[Y Z 0,Y Z 0],.bool false]) w:=fun _=>by kernel_rfl
 refine callsD_of_wpS Tryz.func57 rfl fun k m d=>?_
 have g:(#[I (S ⟨a,0,J⟩),I (S ⟨b,0,J⟩),I (S ⟨c,0,J⟩)]++Array.replicate (Tryz.f57.ntmps-(#[I (S ⟨a,0,J⟩),I (S ⟨b,0,J⟩),I (S ⟨c,0,J⟩)]:Array M).size) undef:Array M)=#[I (S ⟨a,0,J⟩),I (S ⟨b,0,J⟩),I (S ⟨c,0,J⟩),undef,undef,undef,undef,undef,undef,undef,undef,undef,undef,undef,undef]:=by rw[show Tryz.f57.ntmps=15 from rfl];rfl
 rw[g];clear g;refine MU (w':=w) (o:=?o) (l:=?l) ?ho ?hw ?hx ?hr ?hno ?main
 case ho=>rfl
 case hw=>kernel_rfl
 case hx=>rfl
 case hr=>simp only[recoverD,d]
 case hno=>intro a w f;obtain⟨u,f,_⟩:=f;cases f
 show wpList U _ _ _ {tmps:=#[I (S ⟨a,0,J⟩),I (S ⟨b,0,J⟩),I (S ⟨c,0,J⟩),undef,undef,undef,.nilIface,undef,undef,undef,undef,undef,undef,undef,undef],defers:=[]} w
 have j:=Za d;clear d;go_wp2;refine⟨rfl,.returning,by rw[<-j.o],.tuple #[],results_none rfl _ _ _,rfl,rfl,(Fr.refl _ _).alloc _⟩
