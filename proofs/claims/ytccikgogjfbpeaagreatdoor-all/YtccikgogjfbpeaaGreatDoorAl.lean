import Derived.Test.YtccikgogjfbpeaaGreatDoorAh
import Derived.Laws.CopyOwn
open Go.Value renaming pointer->I,int->S,slice->U
open Option renaming none->J,some->P
open Go.IntKind renaming i64->V
open Go.Ending renaming returned->Y
open Go.Obj renaming cells->Z
namespace Go.Proofs.YtccikgogjfbpeaaGreatDoor
set_option maxRecDepth 30000
set_option maxHeartbeats 8000000
open Go.RowKit
theorem Xw.less {b a:Nat}{w:World}(h:a<=b):∀{l:List Zl}{d:List Value},Xw b w l d->Xw a w l d
 |[],_,e=>e
 |_::_,_,⟨c,rest,e,⟨vn,e1,h1⟩,h2⟩=>⟨c,rest,e,⟨vn,e1,oS h1 h⟩,Xw.less h h2⟩
theorem Wl.less {f d w T g R e}(h:Wl f w T g R e)(c:d<=f):Wl d w T g R e:=by
 obtain⟨i,k,a,b,l,n,⟨o,p,q⟩,r⟩:=h.bx;refine⟨Nat.le_trans c h.tz,i,k,a,b,l,oS n c,⟨o,oS p c,fun j m s=>?_⟩,Xm.low c _ _ r⟩;obtain⟨t,u,v,x,y⟩:=q j m s;exact⟨t,u,v,oS x c,y.less c⟩
theorem JI (w B p x rts a y q)(b:Bk w B p x rts a y)(f:Yh rts a)(W:q<=B):
  Calls Tryz.prog 51 #[I (P ⟨B,0,J⟩)] w fun e s=>(∃T,e=Y (I (P ⟨T,0,J⟩))/\w.heap.size<=T/\Wl q s T p a (Zz (Zu a) a.length))/\F0 w s:=by
 have z:B<w.heap.size:=bL w _ b.c0;obtain⟨ra,rc,A⟩:=oL b.ro;subst A;obtain⟨C,c,D⟩:=oL b.lo;subst D;refine yQ w B ra rts.length rc C a.length c a rfl b.l8 (fun k h=>yR _ _ _ h) (fun r d=>⟨(f.rl r d).mc.1,(f.rl r d).cu.1⟩) (fun r d=>⟨⟨(f.rl r d).bn.1,(f.rl r d).bn.2.1⟩,?_⟩) az b.c0 b.c1 (fun i r t=>?_)
 ·obtain⟨j,l,m⟩:=(f.rl r d).bn;have:10^r.digits<=10^6:=Nat.pow_le_pow_right az j;omega
 obtain⟨X,⟨Z,vc,vp,e,j,l,m⟩,E⟩:=b.ru.at' t;obtain⟨F,G,H⟩:=oL j;subst H;obtain⟨K,L,M⟩:=oL l;subst M;obtain⟨N,O,Q⟩:=oL m;subst Q;have R:=(iG.1 t).1;obtain⟨g,c',n,hb,S⟩:=b.lo.form az;injection n with n e8 U;subst n U;refine⟨g,F,G,K,L,N,O,rfl,S,fun o v V=>?_,oS j az,oS l az,oS m az⟩;have u:=b.lo.cells (g:=g) rfl _ _ (E o v (by rw[e];exact V));rw[Yf,Nat.zero_add]at u;exact u
def SX (x:Except (Nat×Nat) (List Zf×List Ze))(w:World)(e:Ending)(a:World):Prop:=
 match x with
 | .ok p=>(∃T B b c d g,e=Y (.tuple #[I (P ⟨T,0,J⟩),S V 0,S V 0])/\w.heap.size<=T/\a.cell? ⟨T,0,J⟩=P (I (P ⟨B,0,J⟩))/\a.cell? ⟨T,1,J⟩=P (I (P ⟨b,0,J⟩))/\w.heap.size<=B/\Bk a B c d p.1 p.2 g/\Wl w.heap.size a b c p.2 (Zz (Zu p.2) p.2.length))/\Below w.heap.size w a
 | .error f=>e=Y (.tuple #[I J,S V f.1,S V f.2])/\Below w.heap.size w a
theorem SX.ok {x w w' e p}(h:x=.ok p):SX x w e w'↔(∃T B a b c d,e=Y (.tuple #[I (P ⟨T,0,J⟩),S V 0,S V 0])/\w.heap.size<=T/\w'.cell? ⟨T,0,J⟩=P (I (P ⟨B,0,J⟩))/\w'.cell? ⟨T,1,J⟩=P (I (P ⟨a,0,J⟩))/\w.heap.size<=B/\Bk w' B b c p.1 p.2 d/\Wl w.heap.size w' a b p.2 (Zz (Zu p.2) p.2.length))/\Below w.heap.size w w':=by subst h;exact Iff.rfl
theorem SX.err {x w a e f}(h:x=.error f):SX x w e a↔e=Y (.tuple #[I J,S V f.1,S V f.2])/\Below w.heap.size w a:=by subst h;exact Iff.rfl
theorem TG (s w):Calls Tryz.prog 32 #[.string s] w (SX (Xc s) w):=by
 have o0:∀(fn:Fn)(first t:Array Value)(w:World),(Instr.makeFunc fn first t).run Tryz.prog w=.ok (.func fn first t) w:=fun _ _ _ _=>rfl
 go_enter_defers Tryz.func32,Tryz.ntmps32
 go_wp2_with fail;refine(yj s _).mono ?_;intro e G H;obtain⟨n,N,O,Q⟩:=zW w (Z #[I J] 31) (Z #[S V 0] 74) (Z #[S V 0] 3);have R:=n.size;generalize((w.alloc _).alloc _).alloc _=q at*
 cases K:Xc s with
 |error f=>
  obtain⟨he,T⟩:=(SN.err K).1 H;unfold Zj at he;subst he;have c:F0 q G:=Fr.of_below T;refine leaves_cons (f:=57) (args:=#[I (P ⟨w.heap.size,0,J⟩),I (P ⟨w.heap.size+1,0,J⟩),I (P ⟨w.heap.size+1+1,0,J⟩)]) aA aP ?_;refine(Nr w.heap.size (w.heap.size+1) (w.heap.size+1+1) f.1 f.2 _ _ _ G (bC (c.whole N) 0 _ rfl) (bC (c.whole O) 0 _ rfl) (bC (c.whole Q) 0 _ rfl) (bF (c.whole N) 0) (bF (c.whole O) 0) (bF (c.whole Q) 0) az az az az az az).mono ?_;rintro e u' b ⟨rfl,rfl,U,X,Y,d⟩;have L:=(n.trans c).below (Nat.le_refl _) aA|>.trans (d.below (Nat.le_trans R c.size) (fun k r=>az));simp[Leaves,settle,results,Tryz.results32,go_sem,U,X,Y];exact(SX.err rfl).2 ⟨rfl,L⟩
 |ok p=>
  obtain⟨⟨B,vr,vl,xs,rfl,L,r⟩,T⟩:=(SN.ok K).1 H;have c:F0 q G:=Fr.of_below T;have b0:=Za (JI G B vr vl p.1 p.2 xs q.heap.size r (QK K) L);have HK:=Za r;have e0:=Za c;have z:=Za n;have A:=Za N;have C:=Za O;have l:=Za Q;have f0:=Za L;have HR:=Za K;go_wp2_with fail;refine b0.o.mono ?_;rintro e b ⟨⟨D,rfl,p0,g0⟩,m⟩;have i:=e0.o.trans m;have r0:w.heap.size+1+1<b.heap.size:=nL (iA.1 l.o).1 i.size;have g:=i.alloc (Z #[I (P ⟨B,0,J⟩),I (P ⟨D,0,J⟩)] 80);have c0:=bC (g.whole A.o) 0 _ rfl;have c1:=bC (g.whole C.o) 0 _ rfl;have c2:=bC (g.whole l.o) 0 _ rfl;have z0:=bF (g.whole A.o) 0;have z1:=bF (g.whole C.o) 0;have z2:=bF (g.whole l.o) 0;have E:Hid (Bk b B vr vl p.1 p.2 xs/\Wl q.heap.size b D vr p.2 (Zz (Zu p.2) p.2.length)):=⟨HK.o.fr m,g0⟩;have HF:=Za (z.o.trans i);have H0:Hid (w.heap.size+1+1<q.heap.size/\w.heap.size<=q.heap.size):=⟨(iA.1 l.o).1,z.o.size⟩;go_wp2_with fail
  have a:∀(v:World)(x y o:Nat)(u:Value),¬x=y->(v.setCell ⟨x,0,J⟩ u).cell? ⟨y,o,J⟩=v.cell? ⟨y,o,J⟩:=fun v x y o u h=>cO _ _ _ _ (fun e=>h (by injection e))
  have H:=bC (aN b (Z #[I (P ⟨B,0,J⟩),I (P ⟨D,0,J⟩)] 80)) 0 _ rfl;have i0:=bC (aN b (Z #[I (P ⟨B,0,J⟩),I (P ⟨D,0,J⟩)] 80)) 1 _ rfl;have M:Fr (fun j=>j=w.heap.size\/j=w.heap.size+1\/j=w.heap.size+1+1) b ((((b.alloc (Z #[I (P ⟨B,0,J⟩),I (P ⟨D,0,J⟩)] 80)).setCell ⟨w.heap.size,0,J⟩ (I (P ⟨b.heap.size,0,J⟩))).setCell ⟨w.heap.size+1,0,J⟩ (S V 0)).setCell ⟨w.heap.size+1+1,0,J⟩ (S V 0)):=(((Zo.alloc _).setCell (Or.inl (Or.inl rfl)) _).setCell (Or.inl (Or.inr (Or.inl rfl))) _).setCell (Or.inl (Or.inr (Or.inr rfl))) _;have d0:=(a _ (w.heap.size+1+1) w.heap.size 0 (S V 0) az).trans ((a _ (w.heap.size+1) w.heap.size 0 (S V 0) az).trans (cS _ _ (I (P ⟨b.heap.size,0,J⟩)) c0));have d1:=(a _ (w.heap.size+1+1) (w.heap.size+1) 0 (S V 0) az).trans (cS _ _ (S V 0) ((a _ w.heap.size (w.heap.size+1) 0 (I (P ⟨b.heap.size,0,J⟩)) az).trans c1));have d2:=cS _ _ (S V 0) ((a _ (w.heap.size+1) (w.heap.size+1+1) 0 (S V 0) az).trans ((a _ w.heap.size (w.heap.size+1+1) 0 (I (P ⟨b.heap.size,0,J⟩)) az).trans c2));have dT:=(a _ (w.heap.size+1+1) b.heap.size 0 (S V 0) az).trans ((a _ (w.heap.size+1) b.heap.size 0 (S V 0) az).trans ((a _ w.heap.size b.heap.size 0 (I (P ⟨b.heap.size,0,J⟩)) az).trans H));have F:=(a _ (w.heap.size+1+1) b.heap.size 1 (S V 0) az).trans ((a _ (w.heap.size+1) b.heap.size 1 (S V 0) az).trans ((a _ w.heap.size b.heap.size 1 (I (P ⟨b.heap.size,0,J⟩)) az).trans i0));generalize((((b.alloc _).setCell ⟨w.heap.size,0,J⟩ (I (P ⟨b.heap.size,0,J⟩))).setCell ⟨w.heap.size+1,0,J⟩ (S V 0)).setCell ⟨w.heap.size+1+1,0,J⟩ (S V 0))=W at*;refine leaves_cons (f:=57) (args:=#[I (P ⟨w.heap.size,0,J⟩),I (P ⟨w.heap.size+1,0,J⟩),I (P ⟨w.heap.size+1+1,0,J⟩)]) aA aP ?_;refine(Eo w.heap.size (w.heap.size+1) (w.heap.size+1+1) W).mono ?_;rintro e u' w3 ⟨rfl,rfl,d⟩;have U:=(d.cell (p:=⟨w.heap.size,0,J⟩) (bL W _ d0)).trans d0;have X:=(d.cell (p:=⟨w.heap.size+1,0,J⟩) (bL W _ d1)).trans d1;have Y:=(d.cell (p:=⟨w.heap.size+1+1,0,J⟩) (bL W _ d2)).trans d2;have aT:=(d.cell (p:=⟨b.heap.size,0,J⟩) (bL W _ dT)).trans dT;have j0:=(d.cell (p:=⟨b.heap.size,1,J⟩) (bL W _ F)).trans F;obtain⟨h0,k0⟩:=H0.o;have hb:=f0.o;have l0:=(E.o.1.fr M (fun k r=>az)).fr d;have m0:=((E.o.2.fr M (fun k r=>az)).fr d).less k0;have n0:Below w.heap.size w w3:=(HF.o.below (Nat.le_refl _)).trans ((M.below az (fun k r=>az)).trans (d.below (aj M.size)));simp[Leaves,settle,results,Tryz.results32,go_sem,U,X,Y];exact(SX.ok HR.o).2 ⟨⟨_,_,_,_,_,_,rfl,az,aT,j0,az,l0,m0⟩,n0⟩
def KI (w:World)(T:Nat)(a:List Zf)(R:List Ze):Prop:=
 ∃e b c d,w.cell? ⟨T,1,J⟩=P (I (P ⟨b,0,J⟩))/\Wl e w b (U c a.length d) R (Zz (Zu R) R.length)/\w.ownsRow 0 148 3 (U c a.length d) a.length (Ym a)/\Yh a R
theorem KI.fr {w w' T a R}(h:KI w T a R)(b:F0 w w'):KI w' T a R:=by
 obtain⟨d,e,f,g,c,i,j,k⟩:=h;exact⟨d,e,f,g,(b.cell (p:=⟨T,1,J⟩) (bL w _ c)).trans c,i.fr b,oF j b,k⟩
theorem KI.decide {w T rts R}(h:KI w T rts R)(a c l)(b:ZX w a l)(d:l.length<=maxLen)(p)(f:p.pan.size<=maxLen):
  Calls Tryz.prog 19 #[I (P ⟨T,0,J⟩),X4 p,U a l.length c] w fun e w'=>e=Y (Rc (UF rts R p (UX rts l)))/\F0 w w':=by
 obtain⟨g,i,j,k,m,n,o,q⟩:=h;exact EY w g T i rts R j k a c l p ⟨m,n,o,q,b,d⟩ f


def wN (k:Nat):List UInt8:=[119,UInt8.ofNat (48+k)]
def fR (B R:Nat->Nat)(k:Nat):List UInt8:=pX (wN k) (KC (B k) 1) (KC (R k) 1)
def gw (c:Int):Nat:=1+SU c 3
def gf (c:Int):Nat:=SU (c.tdiv 3) (10^gw c)
def gt (c:Int):Nat:=gf c+SU (c.tdiv 31) (10^gw c-gf c)
def qK (c:Int):List (List UInt8):=if SU (c.tdiv 7) 3=1 then[KC (SU (c.tdiv 11) 5) 1,KC (SU (c.tdiv 13) 5) 1]else[]
def oh (c:Int):Option (List UInt8×List UInt8):=if SU (c.tdiv 17) 3=1 then P (KC (SU (c.tdiv 19) 50) 1,KC (SU (c.tdiv 19) 50+SU (c.tdiv 23) 20) 1)else J
def qL (c:Int):List (List UInt8):=if SU (c.tdiv 29) 3=1 then[KC (SU (c.tdiv 37) 4) 1]else[]
def g0 (c:Int):List UInt8:=[98,105,110,32]++(KC (gf c) (gw c)++(46::46::KC (gt c) (gw c)))
def g1 (c:Int):List UInt8:=g0 c++pI Vj (qK c)
def g2 (c:Int):List UInt8:=g1 c++pW (oh c)
def g3 (c:Int):List UInt8:=g2 c++pI VG (qL c)
