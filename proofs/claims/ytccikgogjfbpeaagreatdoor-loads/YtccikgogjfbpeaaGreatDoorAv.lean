import Derived.Test.YtccikgogjfbpeaaGreatDoorAt
import Derived.Test.YtccikgogjfbpeaaGreatDoorAc
open Option renaming none->I,some->J
open Go.Value renaming pointer->Y,int->Z,string->H,bool->C
open Go.Proofs.Tryz renaming prog->U
open Go.IntKind renaming i64->K,i64->z3
open Go.Ending renaming returned->O
open Go renaming Calls->E,World->X,Value->z8
open List renaming length_take->D,getD->Q,range->z9
open Nat renaming pow_le_pow_right->G,le_refl->A,mod_eq_of_lt->z4,min_eq_left->z5,le_trans->z6,zero_le->z7
open Go.RowKit renaming Hid->M
open Go.Obj renaming cells->L
open Or renaming inl->F,inr->y0
namespace Go.Proofs.YtccikgogjfbpeaaGreatDoor
set_option maxRecDepth 30000
set_option maxHeartbeats 8000000
open Go.RowKit
theorem Xl.less {b a:Nat}{w:X}(h:a<=b):∀{l:List Zl}{d:List z8},Xl b w l d->Xl a w l d
 |[],_,e=>e
 |_::_,_,⟨c,rest,e,⟨vn,e1,h1⟩,h2⟩=>⟨c,rest,e,⟨vn,e1,oS h1 h⟩,Xl.less h h2⟩
theorem X7.less {f d w T g R e}(h:X7 f w T g R e)(c:d<=f):X7 d w T g R e:=by
 obtain⟨i,k,a,b,l,n,⟨o,p,q⟩,r⟩:=h.bx;refine⟨z6 c h.tz,i,k,a,b,l,oS n c,⟨o,oS p c,fun j m s=>?_⟩,Xf.low c _ _ r⟩;obtain⟨t,u,v,x,y⟩:=q j m s;exact⟨t,u,v,oS x c,y.less c⟩
theorem CZ (w B p t rts a u q)(b:Bk w B p t rts a u)(f:Yx rts a)(hz:q<=B):
  E U 51 #[Y (J ⟨B,0,I⟩)] w fun e w'=>(∃T,e=O (Y (J ⟨T,0,I⟩))/\w.heap.size<=T/\X7 q w' T p a (Zx (Zv a) a.length))/\F0 w w':=by
 have x:B<w.heap.size:=bL w _ b.c0;obtain⟨y,z,A⟩:=oL b.ro;subst A;obtain⟨C,c,D⟩:=oL b.lo;subst D;refine AW w B y rts.length z C a.length c a rfl b.l8 (fun k h=>A6 _ _ _ h) (fun r d=>⟨(f.rl r d).mc.1,(f.rl r d).cu.1⟩) (fun r d=>⟨⟨(f.rl r d).bn.1,(f.rl r d).bn.2.1⟩,?_⟩) (by omega) b.c0 b.c1 (fun i r hi=>?_)
 ·obtain⟨j,l,m⟩:=(f.rl r d).bn
  have:10^r.digits<=10^6:=G (by omega) j;omega
 obtain⟨cs,⟨vm,vc,vp,e,j,l,m⟩,F⟩:=b.ru.at' hi
 obtain⟨H,K,L⟩:=oL j;subst L;obtain⟨M,N,P⟩:=oL l;subst P;obtain⟨Q,R,S⟩:=oL m;subst S;have V:=(iG.1 hi).1;obtain⟨g,c',n,hb,W⟩:=b.lo.form (by omega);injection n with n e8 X;subst n X;refine⟨g,H,K,M,N,Q,R,rfl,W,fun o v Z=>?_,oS j (by omega),oS l (by omega),oS m (by omega)⟩;have s:=b.lo.cells (g:=g) rfl _ _ (F o v (by rw[e];exact Z));rw[Yc,Nat.zero_add]at s;exact s
def Pb (x:Except (Nat×Nat) (List Zf×List Ze))(w:X)(e:Ending)(w':X):Prop:=
 match x with
 | .ok p=>(∃T B a b c d,e=O (.tuple #[Y (J ⟨T,0,I⟩),Z K 0,Z K 0])/\w.heap.size<=T/\w'.cell? ⟨T,0,I⟩=J (Y (J ⟨B,0,I⟩))/\w'.cell? ⟨T,1,I⟩=J (Y (J ⟨a,0,I⟩))/\w.heap.size<=B/\Bk w' B b c p.1 p.2 d/\X7 w.heap.size w' a b p.2 (Zx (Zv p.2) p.2.length))/\Below w.heap.size w w'
 | .error f=>e=O (.tuple #[Y I,Z K f.1,Z K f.2])/\Below w.heap.size w w'
theorem Pb.ok {x w w' e p}(h:x=.ok p):Pb x w e w'↔(∃T B a b c d,e=O (.tuple #[Y (J ⟨T,0,I⟩),Z K 0,Z K 0])/\w.heap.size<=T/\w'.cell? ⟨T,0,I⟩=J (Y (J ⟨B,0,I⟩))/\w'.cell? ⟨T,1,I⟩=J (Y (J ⟨a,0,I⟩))/\w.heap.size<=B/\Bk w' B b c p.1 p.2 d/\X7 w.heap.size w' a b p.2 (Zx (Zv p.2) p.2.length))/\Below w.heap.size w w':=by subst h;exact Iff.rfl
theorem Pb.err {x w w' e f}(h:x=.error f):Pb x w e w'↔e=O (.tuple #[Y I,Z K f.1,Z K f.2])/\Below w.heap.size w w':=by subst h;exact Iff.rfl
theorem Hh (s w):E U 32 #[H s] w (Pb (XE s) w):=by
 have o0:∀(fn:Fn)(first cap:Array z8)(w:X),(Instr.makeFunc fn first cap).run U w=.ok (.func fn first cap) w:=fun _ _ _ _=>rfl
 go_enter_defers Tryz.func32,Tryz.ntmps32
 go_wp2_with fail;refine(An s _).mono ?_;intro e G N;obtain⟨m,R,S,T⟩:=B7 w (L #[Y I] 31) (L #[Z K 0] 74) (L #[Z K 0] 3);have V:=m.size;generalize((w.alloc _).alloc _).alloc _=w0 at*
 cases O:XE s with
 |error f=>
  obtain⟨he,hf⟩:=(Sr.err O).1 N;unfold Zj at he;subst he;have b:F0 w0 G:=Fr.of_below hf;refine leaves_cons (f:=57) (args:=#[Y (J ⟨w.heap.size,0,I⟩),Y (J ⟨w.heap.size+1,0,I⟩),Y (J ⟨w.heap.size+1+1,0,I⟩)]) (by simp) (by simp[go_sem]) ?_;refine(OF w.heap.size (w.heap.size+1) (w.heap.size+1+1) f.1 f.2 _ _ _ G (bC (b.whole R) 0 _ rfl) (bC (b.whole S) 0 _ rfl) (bC (b.whole T) 0 _ rfl) (bF (b.whole R) 0) (bF (b.whole S) 0) (bF (b.whole T) 0) (by omega) (by omega) (by omega) (by omega) (by omega) (by omega)).mono ?_;rintro e u' w2 ⟨rfl,rfl,a0,a1,a2,c⟩;have P:=(m.trans b).below (A _) (by simp)|>.trans (c.below (z6 V b.size) (fun k n=>by omega));simp[Leaves,settle,results,Tryz.results32,go_sem,a0,a1,a2];exact(Pb.err rfl).2 ⟨rfl,P⟩
 |ok p=>
  obtain⟨⟨B,vr,vl,xs,rfl,P,n⟩,hf⟩:=(Sr.ok O).1 N;have b:F0 w0 G:=Fr.of_below hf;have b0:=Za (CZ G B vr vl p.1 p.2 xs w0.heap.size n (NZ O) P);have HK:=Za n;have e0:=Za b;have q:=Za m;have r:=Za R;have t:=Za S;have i:=Za T;have f0:=Za P;have HR:=Za O;go_wp2_with fail;refine b0.o.mono ?_;rintro e w2 ⟨⟨z,rfl,p0,g0⟩,l⟩;have g:=e0.o.trans l;have r0:w.heap.size+1+1<w2.heap.size:=nL (iA.1 i.o).1 g.size;have d:=g.alloc (L #[Y (J ⟨B,0,I⟩),Y (J ⟨z,0,I⟩)] 80);have c0:=bC (d.whole r.o) 0 _ rfl;have c1:=bC (d.whole t.o) 0 _ rfl;have c2:=bC (d.whole i.o) 0 _ rfl;have z0:=bF (d.whole r.o) 0;have z1:=bF (d.whole t.o) 0;have z2:=bF (d.whole i.o) 0;have C:M (Bk w2 B vr vl p.1 p.2 xs/\X7 w0.heap.size w2 z vr p.2 (Zx (Zv p.2) p.2.length)):=⟨HK.o.fr l,g0⟩;have HF:=Za (q.o.trans g);have H0:M (w.heap.size+1+1<w0.heap.size/\w.heap.size<=w0.heap.size):=⟨(iA.1 i.o).1,q.o.size⟩;go_wp2_with fail
  have a:∀(v:X)(x y o:Nat)(u:z8),¬x=y->(v.setCell ⟨x,0,I⟩ u).cell? ⟨y,o,I⟩=v.cell? ⟨y,o,I⟩:=fun v x y o u h=>cO _ _ _ _ (fun e=>h (by injection e))
  have N:=bC (aN w2 (L #[Y (J ⟨B,0,I⟩),Y (J ⟨z,0,I⟩)] 80)) 0 _ rfl;have i0:=bC (aN w2 (L #[Y (J ⟨B,0,I⟩),Y (J ⟨z,0,I⟩)] 80)) 1 _ rfl;have Q:Fr (fun j=>j=w.heap.size\/j=w.heap.size+1\/j=w.heap.size+1+1) w2 ((((w2.alloc (L #[Y (J ⟨B,0,I⟩),Y (J ⟨z,0,I⟩)] 80)).setCell ⟨w.heap.size,0,I⟩ (Y (J ⟨w2.heap.size,0,I⟩))).setCell ⟨w.heap.size+1,0,I⟩ (Z K 0)).setCell ⟨w.heap.size+1+1,0,I⟩ (Z K 0)):=(((Zt.alloc _).setCell (F (F rfl)) _).setCell (F (y0 (F rfl))) _).setCell (F (y0 (y0 rfl))) _;have d0:=(a _ (w.heap.size+1+1) w.heap.size 0 (Z K 0) (by omega)).trans ((a _ (w.heap.size+1) w.heap.size 0 (Z K 0) (by omega)).trans (cS _ _ (Y (J ⟨w2.heap.size,0,I⟩)) c0));have d1:=(a _ (w.heap.size+1+1) (w.heap.size+1) 0 (Z K 0) (by omega)).trans (cS _ _ (Z K 0) ((a _ w.heap.size (w.heap.size+1) 0 (Y (J ⟨w2.heap.size,0,I⟩)) (by omega)).trans c1));have d2:=cS _ _ (Z K 0) ((a _ (w.heap.size+1) (w.heap.size+1+1) 0 (Z K 0) (by omega)).trans ((a _ w.heap.size (w.heap.size+1+1) 0 (Y (J ⟨w2.heap.size,0,I⟩)) (by omega)).trans c2));have dT:=(a _ (w.heap.size+1+1) w2.heap.size 0 (Z K 0) (by omega)).trans ((a _ (w.heap.size+1) w2.heap.size 0 (Z K 0) (by omega)).trans ((a _ w.heap.size w2.heap.size 0 (Y (J ⟨w2.heap.size,0,I⟩)) (by omega)).trans N));have D:=(a _ (w.heap.size+1+1) w2.heap.size 1 (Z K 0) (by omega)).trans ((a _ (w.heap.size+1) w2.heap.size 1 (Z K 0) (by omega)).trans ((a _ w.heap.size w2.heap.size 1 (Y (J ⟨w2.heap.size,0,I⟩)) (by omega)).trans i0));generalize((((w2.alloc _).setCell ⟨w.heap.size,0,I⟩ (Y (J ⟨w2.heap.size,0,I⟩))).setCell ⟨w.heap.size+1,0,I⟩ (Z K 0)).setCell ⟨w.heap.size+1+1,0,I⟩ (Z K 0))=W at*
  refine leaves_cons (f:=57) (args:=#[Y (J ⟨w.heap.size,0,I⟩),Y (J ⟨w.heap.size+1,0,I⟩),Y (J ⟨w.heap.size+1+1,0,I⟩)]) (by simp) (by simp[go_sem]) ?_;refine(Fj w.heap.size (w.heap.size+1) (w.heap.size+1+1) W).mono ?_;rintro e u' w3 ⟨rfl,rfl,c⟩;have a0:=(c.cell (p:=⟨w.heap.size,0,I⟩) (bL W _ d0)).trans d0;have a1:=(c.cell (p:=⟨w.heap.size+1,0,I⟩) (bL W _ d1)).trans d1;have a2:=(c.cell (p:=⟨w.heap.size+1+1,0,I⟩) (bL W _ d2)).trans d2;have aT:=(c.cell (p:=⟨w2.heap.size,0,I⟩) (bL W _ dT)).trans dT;have j0:=(c.cell (p:=⟨w2.heap.size,1,I⟩) (bL W _ D)).trans D;obtain⟨h0,k0⟩:=H0.o;have hb:=f0.o;have l0:=(C.o.1.fr Q (fun k n=>by omega)).fr c;have m0:=((C.o.2.fr Q (fun k n=>by omega)).fr c).less k0;have n0:Below w.heap.size w w3:=(HF.o.below (A _)).trans ((Q.below (by omega) (fun k n=>by omega)).trans (c.below (by have:=Q.size;omega)));simp[Leaves,settle,results,Tryz.results32,go_sem,a0,a1,a2];exact(Pb.ok HR.o).2 ⟨⟨_,_,_,_,_,_,rfl,by omega,aT,j0,by omega,l0,m0⟩,n0⟩
abbrev Rd (α:Type):=Nat->Option (α×Nat)
def RR (b:List UInt8)(n:Nat):Rd (List UInt8):=fun i=>if i+n<=b.length then J ((b.drop i).take n,i+n)else I
def Y3 (b:List UInt8)(n:Nat)(lo hi:Int):Rd Nat:=fun i=>match RR b n i with
 |none=>I
 |some (l,j)=>if lo<=Pp l/\(Pp l:Int)<=hi then J (Pp l,j)else I
def WO {α:Type}(one:Rd α):Nat->Rd (List α)
 |0=>fun i=>J ([],i)
 |n+1=>fun i=>match one i with
  |none=>I
  |some (x,j)=>match WO one n j with
   |none=>I
   |some (l,k)=>J (x::l,k)
def YM {α:Type}(b:List UInt8)(lo hi:Int)(one:Rd α):Rd (List α):=fun i=>match Y3 b 1 lo hi i with
 |none=>I
 |some (n,j)=>WO one n j
def Ww (s:ByteArray):Bool:=decide (1<=s.size)&&(decide (s.size<=8)&&(ZJ (ZC s 0)&&(!Y7 s&&s.data.toList.all fun c=>Zq (c.toNat:Int))))
def UD (b:List UInt8):Rd ByteArray:=fun i=>match Y3 b 1 1 8 i with
 |none=>I
 |some (n,j)=>match RR b n j with
  |none=>I
  |some (l,k)=>if Ww ⟨l.toArray⟩then J (⟨l.toArray⟩,k)else I
def Vu (b:List UInt8):Rd Zf:=fun i=>match UD b i with
 |none=>I
 |some (s,j)=>match Y3 b 4 0 1000000 j with
  |none=>I
  |some (x,k)=>match Y3 b 4 0 1000 k with
   |none=>I
   |some (y,l)=>J (⟨s,x,y⟩,l)
def Ow (b:List UInt8)(hi:Int):Rd (List Nat):=YM b 1 4 (Y3 b 2 0 hi)
def U5 (b:List UInt8)(s:Nat)(hi:Int):Rd Zl:=fun i=>match Y3 b 1 1 255 i with
 |none=>I
 |some (x,j)=>match Ow b hi j with
  |none=>I
  |some (l,k)=>J (⟨s,l,0,x⟩,k)
def Hi (b:List UInt8):Rd Zl:=fun i=>match Y3 b 1 1 255 i with
 |none=>I
 |some (x,j)=>match Y3 b 4 0 1000000000 j with
  |none=>I
  |some (y,k)=>match Y3 b 4 y 1000000000 k with
   |none=>I
   |some (z,l)=>J (⟨1,[y,z],0,x⟩,l)
def JK (b:List UInt8)(s a c:Nat):Rd Zl:=fun i=>match Y3 b 1 0 ((c:Int)-1) i with
 |none=>I
 |some (x,j)=>if s=3 then J (⟨3,[],x,0⟩,j)else match Ow b ((a:Int)-1) j with
  |none=>I
  |some (l,k)=>J (⟨s,l,x,0⟩,k)
def V2 (b:List UInt8)(a c:Nat):Rd Zl:=fun i=>match Y3 b 1 0 6 i with
 |none=>I
 |some (s,j)=>if s=0 then U5 b 0 9999 j else if s=1 then Hi b j else if s=2 then U5 b 2 999 j else if s=6 then J (⟨6,[],0,0⟩,j)else JK b s a c j
def Ox (l:List Zl):Bool:=(z9 l.length).all fun k=>match l[k]? with
 |none=>true
 |some s=>decide (k+s.skip<l.length)
def U6 (b:List UInt8)(a c:Nat):Rd (List Zl):=fun i=>match YM b 1 255 (V2 b a c) i with
 |none=>I
 |some (l,j)=>if Ox l then J (l,j)else I
def Xw (b:List UInt8)(np:Nat):Nat->Rd Tr
 |0=>fun _=>I
 |f+1=>fun i=>match Y3 b 1 0 np i with
  |none=>I
  |some (0,j)=>if f=0 then I else match WO (Xw b np f) 10 j with
   |none=>I
   |some (l,k)=>J (.node (fun d=>l.getD d (.leaf 0)),k)
  |some (s+1,j)=>J (.leaf s,j)
def YN (l:List ByteArray):Bool:=(z9 l.length).all fun k=>match l[k]? with
 |none=>true
 |some s=>decide (Uy s 0 l=(k:Int))
structure LK where
 rts:List Zf
 nms:List ByteArray
 prs:List (List Zl)
 root:Tr
def Oy (b:List UInt8):Option LK:=match YM b 0 6 (Vu b) 0 with
 |none=>I
 |some (rts,i)=>match YM b 0 8 (UD b) i with
  |none=>I
  |some (nms,j)=>if YN (rts.map Zf.name)&&YN nms then(match YM b 1 255 (U6 b rts.length nms.length) j with
   |none=>I
   |some (prs,k)=>match Xw b prs.length 7 k with
    |none=>I
    |some (t,l)=>if l=b.length then J ⟨rts,nms,prs,t⟩else I)else I
structure F9 (nr nn:Nat)(s:Zl):Prop where
 so:s.sort<=6
 sk:s.skip<=255
 gd:s.sort<3->1<=s.skip
 nl:s.nums.length<=4
 am:s.sort=1->∃x y,s.nums=[x,y]
 ru:s.sort=3\/s.sort=4\/s.sort=5->s.rule<nn
 pl:s.sort=3\/s.sort=4\/s.sort=5->∀x,x∈s.nums->x<nr
def Tr.lows (n:Nat):Tr->Prop
 | .leaf p=>p<n
 | .node k=>∀d,d<10->(k d).lows n
structure LK.Ok (t:LK):Prop where
 r6:t.rts.length<=6
 rt:∀r,r∈t.rts->r.name.size<=8/\r.base<=1000000/\r.rate<=1000
 n8:t.nms.length<=8
 nm:∀s,s∈t.nms->s.size<=8
 pl:t.prs.length<=255
 pr:∀l,l∈t.prs->1<=l.length/\l.length<=255/\(∀s,s∈l->F9 t.rts.length t.nms.length s)/\∀k s,l[k]?=J s->k+s.skip<l.length
 dp:t.root.deep 0
 lf:t.root.lows t.prs.length
theorem Yp {b n lo hi i x j}(h:Y3 b n lo hi i=J (x,j)):lo<=x/\(x:Int)<=hi:=by
 unfold Y3 at h
 split at h
 ·cases h
 split at h
 ·rename_i a
  injection h with h;injection h with c d;subst c;exact a
 cases h
theorem SX {α:Type}{one:Rd α}{P:α->Prop}(b:∀i x j,one i=J (x,j)->P x):∀(n i:Nat)(l:List α)(j:Nat),WO one n i=J (l,j)->l.length=n/\∀x,x∈l->P x
 |0,i,l,j,h=>by
  simp only[WO,Option.some.injEq,Prod.mk.injEq]at h;rw[<-h.1];exact⟨rfl,by simp⟩
 |n+1,i,l,j,h=>by
  simp only[WO]at h
  split at h
  ·cases h
  rename_i x k c
  split at h
  ·cases h
  rename_i r d e
  injection h with h;injection h with f o;subst f;obtain⟨g,m⟩:=SX b n k r d e;refine⟨by simp[g],fun y a=>?_⟩;rcases List.mem_cons.1 a with rfl|a
  ·exact b _ _ _ c
  exact m y a
theorem X8 {α b lo hi one}{P:α->Prop}(a:∀i x j,one i=J (x,j)->P x){i l j}(h:YM b lo hi one i=J (l,j)):lo<=l.length/\(l.length:Int)<=hi/\∀x,x∈l->P x:=by
 unfold YM at h
 split at h
 ·cases h
 rename_i n k c
 obtain⟨d,e⟩:=SX a _ _ _ _ h;have:=Yp c;rw[d];exact⟨this.1,this.2,e⟩
theorem ME {b hi i l j}(h:Ow b hi i=J (l,j)):l.length<=4/\∀x:Nat,x∈l->(x:Int)<=hi:=by
 obtain⟨_,d,a⟩:=X8 (P:=fun x:Nat=>(x:Int)<=hi) (fun i x j c=>(Yp c).2) h;exact⟨by omega,a⟩
theorem MF {b i s j}(h:UD b i=J (s,j)):s.size<=8:=by
 unfold UD at h
 split at h
 ·cases h
 split at h
 ·cases h
 split at h
 ·rename_i a
  injection h with h;injection h with c d;subst c;unfold Ww at a;simp only[Bool.and_eq_true,decide_eq_true_eq]at a;exact a.2.1
 cases h
theorem Hj {b i r j}(h:Vu b i=J (r,j)):r.name.size<=8/\r.base<=1000000/\r.rate<=1000:=by
 unfold Vu at h
 split at h
 ·cases h
 rename_i s _ a
 split at h
 ·cases h
 rename_i x _ c
 split at h
 ·cases h
 rename_i y _ d
 injection h with h;injection h with e f;subst e;have:=(Yp c).2;have:=(Yp d).2;exact⟨MF a,by show x<=_;omega,by show y<=_;omega⟩
theorem MG {b m d i s j}(h:V2 b m d i=J (s,j)):F9 m d s:=by
 have p:∀(a:Nat)(hi:Int)(i:Nat),(a=0\/a=2)->U5 b a hi i=J (s,j)->F9 m d s:=fun a hi i u h=>by
  unfold U5 at h
  split at h
  ·cases h
  rename_i x _ e
  split at h
  ·cases h
  rename_i l _ n
  injection h with h;injection h with c f;subst c;have q:=Yp e;have g:=ME n;exact⟨by show a<=6;omega,by show x<=255;omega,fun _=>by show 1<=x;omega,g.1,fun h=>by have h:a=1:=h;omega,fun h=>by have h:a=3\/a=4\/a=5:=h;omega,fun h=>by have h:a=3\/a=4\/a=5:=h;omega⟩
 unfold V2 at h
 split at h
 ·cases h
 rename_i t k r
 have v:=(Yp r).2
 split at h
 ·exact p _ _ _ (.inl rfl) h
 split at h
 ·unfold Hi at h
  split at h
  ·cases h
  rename_i x _ e
  split at h
  ·cases h
  split at h
  ·cases h
  injection h with h
  injection h with c f;subst c;have q:=Yp e;exact⟨by show 1<=6;omega,by show x<=255;omega,fun _=>by show 1<=x;omega,by show 2<=4;omega,fun _=>⟨_,_,rfl⟩,fun h=>by have h:1=3\/1=4\/1=5:=h;omega,fun h=>by have h:1=3\/1=4\/1=5:=h;omega⟩
 split at h
 ·exact p _ _ _ (.inr rfl) h
 split at h
 ·injection h with h
  injection h with c f;subst c;exact⟨by show 6<=6;omega,by show 0<=255;omega,fun h=>by have h:6<3:=h;omega,by show 0<=4;omega,fun h=>by have h:6=1:=h;omega,fun h=>by have h:6=3\/6=4\/6=5:=h;omega,fun h=>by have h:6=3\/6=4\/6=5:=h;omega⟩
 rename_i w z n2 A
 unfold JK at h
 split at h
 ·cases h
 rename_i x _ e
 have q:=Yp e
 split at h
 ·injection h with h
  injection h with c f;subst c;exact⟨by show 3<=6;omega,by show 0<=255;omega,fun h=>by have h:3<3:=h;omega,by show 0<=4;omega,fun h=>by have h:3=1:=h;omega,fun _=>by show x<d;omega,fun _ y o=>by simp at o⟩
 split at h
 ·cases h
 rename_i l _ n
 injection h with h;injection h with c f;subst c;have g:=ME n;exact⟨by show t<=6;omega,by show 0<=255;omega,fun h=>by have h:t<3:=h;omega,g.1,fun h=>by have h:t=1:=h;omega,fun _=>by show x<d;omega,fun _ y o=>by have:=g.2 y o;omega⟩
theorem Ea {b a c i l j}(h:U6 b a c i=J (l,j)):1<=l.length/\l.length<=255/\(∀s,s∈l->F9 a c s)/\∀k s,l[k]?=J s->k+s.skip<l.length:=by
 unfold U6 at h
 split at h
 ·cases h
 rename_i l' _ e
 split at h
 ·rename_i f
  injection h with h;injection h with g p;subst g;obtain⟨q,r,m⟩:=X8 (P:=F9 a c) (fun i x j n=>MG n) e;refine⟨by omega,by omega,m,fun k s d=>?_⟩;have o:=(iG.1 d).1;have:=List.all_eq_true.1 f k (List.mem_range.2 o);rw[d]at this
  simpa using this
 cases h
theorem MH {b:List UInt8}{np:Nat}:∀(f i:Nat)(t:Tr)(j:Nat),f<=7->Xw b np f i=J (t,j)->t.deep (7-f)/\t.lows np
 |0,_,_,_,_,h=>by cases h
 |f+1,i,t,j,hf,h=>by
  unfold Xw at h
  split at h
  ·cases h
  ·split at h
   ·cases h
   rename_i p
   split at h
   ·cases h
   rename_i l _ k
   injection h with h;injection h with c m;subst c;obtain⟨q,g⟩:=SX (P:=fun t:Tr=>t.deep (7-f)/\t.lows np) (fun i x j n=>MH f i x j (by omega) n) _ _ _ _ k
   have e:∀d,d<10->l.getD d (.leaf 0)∈l:=fun d e=>by
    rw[Q,gE (by omega)];exact List.getElem_mem _
   refine⟨⟨by omega,fun d a=>?_⟩,fun d a=>(g _ (e d a)).2⟩;rw[show 7-(f+1)+1=7-f from by omega];exact(g _ (e d a)).1
  rename_i s _ o
  injection h with h;injection h with c m;subst c;have:=(Yp o).2;exact⟨trivial,by show s<np;omega⟩
theorem zn {b t}(h:Oy b=J t):t.Ok:=by
 unfold Oy at h
 split at h
 ·cases h
 rename_i rts i e
 split at h
 ·cases h
 rename_i a j f
 split at h
 ·split at h
  ·cases h
  rename_i d k g
  split at h
  ·cases h
  rename_i v l m
  split at h
  ·injection h with h
   subst h;obtain⟨w,y,n⟩:=X8 (P:=fun r:Zf=>r.name.size<=8/\r.base<=1000000/\r.rate<=1000) (fun i x j c=>Hj c) e;obtain⟨z,A,o⟩:=X8 (P:=fun s:ByteArray=>s.size<=8) (fun i x j c=>MF c) f;obtain⟨c1,B,p⟩:=X8 (P:=fun l:List Zl=>1<=l.length/\l.length<=255/\(∀s,s∈l->F9 rts.length a.length s)/\∀k s,l[k]?=J s->k+s.skip<l.length) (fun i x j c=>Ea c) g;obtain⟨q,u⟩:=MH 7 _ _ _ (by omega) m;exact⟨by show rts.length<=6;omega,n,by show a.length<=8;omega,o,by show d.length<=255;omega,p,q,u⟩
  cases h
 cases h
def Tb:Ending:=.panicked [{v:=.iface 223 (.agg #[]),recovered:=false}]
structure Yg (w:X)(B:Nat)(s:ByteArray)(i TT:Nat):Prop where
 bx:w.heap[B]?=J (L #[H s,Z K (i:Nat),Y (J ⟨TT,0,I⟩)] 158)
 le:i<=s.size
 sz:s.size<=200000
theorem Yg.fr {w w' B i a s S}(h:Yg w B s i a)(b:Fr S w w')(c:¬S B:=by simp):Yg w' B s i a:=⟨b.whole h.bx c,h.le,h.sz⟩
theorem Yg.move {w B i c s}(h:Yg w B s i c)(j)(d:j<=s.size):∀a b,Yg (((w.drewN a).setCell ⟨B,1,I⟩ (Z K (j:Nat))).drewN b) B s j c/\Fr (fun k=>k=B) w (((w.drewN a).setCell ⟨B,1,I⟩ (Z K (j:Nat))).drewN b):=fun a b=>by
 have f:Fr (fun k=>k=B) w (w.drewN a):=⟨rfl,rfl,rfl,A _,fun _ _ _=>rfl⟩;have g:=f.setCell (p:=⟨B,1,I⟩) (F rfl) (Z K (j:Nat));have e:=heap_setCell_same (w.drewN a) B 1 _ _ (Z K (j:Nat)) h.bx;exact⟨⟨e,d,h.sz⟩,g.trans ⟨rfl,rfl,rfl,A _,fun _ _ _=>rfl⟩⟩
def PU {α:Type}(w:X)(B:Nat)(s:ByteArray)(a:Nat)(r:Option (α×Nat))(V:X->z8->α->Prop)(e:Ending)(w':X):Prop:=match r with
 |none=>e=Tb/\Fr (fun k=>k=B) w w'
 |some (x,j)=>(∃v,e=O v/\V w' v x)/\Yg w' B s j a/\Fr (fun k=>k=B) w w'
theorem WP (w):E U 76 #[C true] w fun e w'=>e=O (.tuple #[])/\w'=w:=by
 go_enter Tryz.func76,Tryz.ntmps76;go_wp2
 go_end0
 exact⟨rfl,rfl⟩
theorem Wo (w):E U 76 #[C false] w fun e w'=>e=Tb/\w'=w:=by
 go_enter Tryz.func76,Tryz.ntmps76;go_wp2;exact⟨rfl,rfl,rfl⟩
theorem C0 (w B s i a n)(b:Int)(h:Yg w B s i a)(d:i+n<=s.size)(f:b=n):
  E U 177 #[Y (J ⟨B,0,I⟩),Z K b] w fun e w'=>e=O (H (s.extract i (i+n)))/\Yg w' B s (i+n) a/\Fr (fun k=>k=B) w w':=by
 subst f;have g:=Za h;have j:=h.sz;have m:=Zc h.bx 0;have c1:=Zc h.bx 1;have p:=bF h.bx 1
 have l:M (∀W,E U 76 #[C true] W fun e w'=>e=O (.tuple #[])/\w'=W):=fun W=>WP W
 have q:decide ((n:Int)<=(s.size:Int)-(i:Int))=true:=by simp;omega
 go_enter Tryz.func177,Tryz.ntmps177;go_wp2_with fail
 go_quiet ((go_at_call 76;exact Calls.quiet_of_same (l.o _)))
 go_wp2_with fail
 go_quiet (fail)
 go_wp2_with fail;go_ret;have c:=g.o.move (i+n) d;rw[Int.natCast_add]at c;exact⟨rfl,c _ _⟩
theorem zo (w B s i c n)(a:Int)(h:Yg w B s i c)(m:s.size<i+n)(d:a=n):
  E U 177 #[Y (J ⟨B,0,I⟩),Z K a] w fun e w'=>e=Tb/\Fr (fun k=>k=B) w w':=by
 subst d;have f:=h.sz;have g:=h.le;have j:=Zc h.bx 0;have c1:=Zc h.bx 1;have o:z3.wrap ((s.size:Int)-(i:Int))=(s.size:Int)-(i:Int):=IntWalk.i64_in _ (by constructor<;>omega)
 have p:decide ((n:Int)<=(s.size:Int)-(i:Int))=false:=by simp;omega
 go_enter Tryz.func177,Tryz.ntmps177;go_wp2_with fail;refine wp_region_held_drew (S:=fun W=>W.cell? ⟨B,0,I⟩=J (H s)/\W.cell? ⟨B,1,I⟩=J (Z K (i:Nat))) (by kernel_rfl) ⟨by simpa using j,by simpa using c1⟩ (fun l=>?_)
 iterate 12 (refine YO 0 l ?_;try go_frame)
 refine Vv 12 (fun q r=>?_);go_simp;refine(Wo _).mono ?_;rintro e t ⟨b,rfl⟩;unfold Tb at b;subst b;exact⟨rfl,rfl,Zt.drew⟩
theorem KA (w B s)(i a n:Nat)(b:Int)(h:Yg w B s i a)(d:b=n):
  E U 177 #[Y (J ⟨B,0,I⟩),Z K b] w (PU w B s a (RR s.data.toList n i) fun _ v l=>v=H ⟨l.toArray⟩):=by
 have f:s.data.toList.length=s.size:=by simp
 unfold RR;by_cases c:i+n<=s.size
 ·rw[if_pos (by rw[f];exact c)]
  refine(C0 w B s i a n b h c d).mono ?_;rintro e w' ⟨rfl,g,j⟩;refine⟨⟨_,rfl,?_⟩,g,j⟩
  congr 1
  apply ByteArray.ext;apply Array.toList_inj.1;simp[ByteArray.data_extract]
 rw[if_neg (by rw[f];exact c)]
 exact zo w B s i a n b h (by omega) d
theorem zq (l:List UInt8)(k c)(a:l[k]?=J c):Pp (l.take (k+1))=Pp (l.take k)+2^(8*k)*c.toNat:=by
 have b:=(iG.1 a).1;rw[List.take_add_one,a,ET,D,z5 (by omega)];simp[Pp]
theorem OV (a b:Nat)(e:a<9223372036854775808)(f:b<9223372036854775808):bits .or K (a:Int) (b:Int)=((a|||b:Nat):Int):=by
 have g:a|||b<2^63:=Nat.or_lt_two_pow (by omega) (by omega)
 have c:(BitVec.ofInt 64 (a:Int)).toNat=a:=by
  rw[BitVec.ofInt_natCast,BitVec.toNat_ofNat];exact z4 (by omega)
 have d:(BitVec.ofInt 64 (b:Int)).toNat=b:=by
  rw[BitVec.ofInt_natCast,BitVec.toNat_ofNat];exact z4 (by omega)
 show z3.wrap ((BitVec.ofInt 64 (a:Int)|||BitVec.ofInt 64 (b:Int)).toNat:Int)=_
 rw[BitVec.toNat_or,c,d];exact IntWalk.i64_in _ (by constructor<;>omega)
theorem vG (x c k:Nat)(a:x<2^(8*k))(g:c<256)(h:k<=3):bits BinOp.or z3 (x:Int) (wrap64 ((c:Int)*2^(8*k)))=((x+2^(8*k)*c:Nat):Int):=by
 have b:2^(8*k)<=16777216:=G (n:=2) (by decide) (show 8*k<=24 by omega);have j:2^(8*k)*c<=16777216*255:=Nat.mul_le_mul b (by omega)
 have e:((c:Int)*2^(8*k))=((2^(8*k)*c:Nat):Int):=by rw[Int.natCast_mul,Int.natCast_pow,Int.mul_comm];rfl
 rw[e];have d:wrap64 ((2^(8*k)*c:Nat):Int)=((2^(8*k)*c:Nat):Int):=IntWalk.wrap64_in _ (by constructor<;>omega);rw[d,OV x (2^(8*k)*c) (by omega) (by omega),<-Ja a]
 congr 1
 apply Nat.eq_of_testBit_eq;intro i;rw[Nat.testBit_or,Nat.testBit_xor,Nat.testBit_two_pow_mul];by_cases hi:8*k<=i
 ·have f:x<2^i:=nL a (G (by decide) hi)
  simp[Nat.testBit_lt_two_pow f]
 simp[hi]
theorem Z1 (w B s)(i u n:Nat)(nv lo hi:Int)(h:Yg w B s i u)(hn:n<=4)(hv:nv=n):
  E U 176 #[Y (J ⟨B,0,I⟩),Z K nv,Z K lo,Z K hi] w (PU w B s u (Y3 s.data.toList n lo hi i) fun _ v x=>v=Z K (x:Nat)):=by
 subst hv;have y:=Za (KA w B s i u n _ h rfl);obtain⟨N,z⟩:∃N,Y3 s.data.toList n lo hi i=N:=⟨_,rfl⟩;rw[z];unfold Y3 at z;obtain⟨r,hr⟩:∃r,RR s.data.toList n i=r:=⟨_,rfl⟩;rw[hr]at y z;have A:=Za z;have HR:=Za hr;go_enter Tryz.func176,Tryz.ntmps176;go_wp2_with fail;refine y.o.mono ?_;intro e f hp
 cases r with
 |none=>
  obtain⟨b,C⟩:=hp;have F:=A.o.symm;subst F;unfold Tb at b;subst b;exact⟨rfl,rfl,C⟩
 |some lj=>
  obtain⟨l,j⟩:=lj;obtain⟨⟨v,rfl,rfl⟩,hR,C⟩:=hp;have G:=Za hR;have H:=Za C;obtain⟨S,hS⟩:∃S:ByteArray,(⟨l.toArray⟩:ByteArray)=S:=⟨_,rfl⟩
  have g:S.data.toList=l:=by rw[<-hS]
  have L:=Za g
  have O:l.length=n:=by
   have e:=HR.o;unfold RR at e
   split at e
   ·injection e with e
    injection e with F e2;rw[<-F,D,List.length_drop];omega
   cases e
  have R:S.size=n:=by rw[<-O,<-g];simp
  rw[hS]
  have T:=fun w=>Lib.run_convert_string_bytes (P:=U) w 9 50 5 S Tryz.underlying9 Tryz.underlying50 Tryz.underlying5
  rw[R]at T;go_wp2_with fail;have V:M (Fr (fun k=>k=B) w (Lib.bytesWorld f 5 S)):=H.o.trans ((Wk _ _ _).mono);have X:M (Yg (Lib.bytesWorld f 5 S) B s j u):=G.o.fr (S:=fun _=>False) (Wk _ _ _)
  have d:∀k,k<n->(Lib.bytesWorld f 5 S).cell? ⟨f.heap.size,k,I⟩=J (Z .u8 (ZC S k)):=fun k hk=>by
   have:=Lib.bytesWorld_cell f 5 S k (by omega)
   simpa[ZC]using this
  have HC:=Za d;generalize Lib.bytesWorld f 5 S=W at*;generalize grownCap _ _ _ _=cap at*
  go_loop [9,17] (fun xv iv=>∃k:Nat,k<=n/\iv=Z K k/\∃x:Nat,xv=Z K (x:Nat)/\M (x=Pp (l.take k))) (fun _ iv=>n-(intOf iv).toNat)
  case atStart=>exact⟨0,z7 _,rfl,0,rfl,rfl⟩
  obtain⟨k,hk,rfl,x,rfl,HX⟩:=hrel;by_cases a0:k<n
  ·have hc:=HC.o k a0
   have b0:(k:Int)<(n:Int):=by omega
   obtain⟨c,m⟩:∃c,l[k]?=J c:=⟨_,gE (by omega)⟩;have y:=Za (zq l k c m)
   have c0:ZC S k=(c.toNat:Int):=by unfold ZC;rw[L.o];simp[Q,m]
   rw[c0]at hc;have d0:=c.toNat_lt;generalize c.toNat=cn at*;have HE:=Za (vG x cn k (by rw[HX.o];have:=Ad (l.take k);rw[D,z5 (by omega)]at this;exact this) d0 (by omega));go_wp2_with fail;refine⟨⟨k+1,by omega,by go_num,x+2^(8*k)*cn,by rw[HE.o],by show _=_;rw[y.o,HX.o]⟩,by simp[intOf];omega⟩
  have b0:¬(k:Int)<(n:Int):=by omega
  have ex:x=Pp l:=by rw[HX.o,List.take_of_length_le (by omega)]
  subst ex;by_cases p:lo<=(Pp l:Int)
  ·by_cases q:(Pp l:Int)<=hi
   ·have t:N=J (Pp l,j):=by rw[<-A.o,if_pos ⟨p,q⟩]
    subst t;go_wp2_with fail;refine(WP _).mono ?_;rintro e w2 ⟨rfl,a⟩;replace a:=a.symm;subst a;go_wp2_with fail;go_ret;exact⟨⟨_,rfl,rfl⟩,X.o,V.o⟩
   have t:N=I:=by rw[<-A.o,if_neg (fun h=>q h.2)]
   subst t;go_wp2_with fail;refine(Wo _).mono ?_;rintro e w2 ⟨b,a⟩;replace a:=a.symm;subst a;unfold Tb at b;subst b;exact⟨rfl,rfl,V.o⟩
  have t:N=I:=by rw[<-A.o,if_neg (fun h=>p h.1)]
  subst t;go_wp2_with fail;refine(Wo _).mono ?_;rintro e w2 ⟨b,a⟩;replace a:=a.symm;subst a;unfold Tb at b;subst b;exact⟨rfl,rfl,V.o⟩
def Vj (s:ByteArray)(k:Nat):Bool:=(s.data.toList.drop k).all fun c=>Zq (c.toNat:Int)
theorem LL (s k)(h:k<s.size):Vj s k=(Zq (ZC s k)&&Vj s (k+1)):=by
 have a:k<s.data.toList.length:=by simpa using h
 unfold Vj;rw[dC a,List.all_cons]
 congr 2
 simp[ZC,Q,h]
theorem Eb (s w)(hs:s.size<=200000):
  E U 95 #[H s] w fun e w'=>e=O (C (Ww s))/\F0 w w':=by
 have n:=fun w=>Lib.run_convert_string_bytes (P:=U) w 9 50 5 s Tryz.underlying9 Tryz.underlying50 Tryz.underlying5
 have HS:M (∀c W,E U 150 #[Z .u8 c] W fun e w'=>e=O (C (ZJ c))/\w'=W):=fun c W=>Tf c W
 have T:M (∀W,E U 151 #[H s] W fun e w'=>e=O (C (Y7 s))/\w'=W):=fun W=>RB s W
 have R:M (∀c W,E U 152 #[Z .u8 c] W fun e w'=>e=O (C (Zq c))/\w'=W):=fun c W=>Nf c W
 obtain⟨b,m⟩:∃b,Ww s=b:=⟨_,rfl⟩;rw[m];unfold Ww at m;by_cases t:s.size=0
 ·have V:s.toList.isEmpty=true:=by
   rw[ByteArray.toList_eq]
   have:s.data.toList.length=0:=by simpa using t
   rw[List.length_eq_zero_iff.1 this];rfl
  have d:b=false:=by rw[<-m];simp[t]
  subst d;clear m n t;go_enter Tryz.func95,Tryz.ntmps95;go_wp2_with fail;go_ret;exact⟨rfl,Zt⟩
 have V:s.toList.isEmpty=false:=by
  rw[ByteArray.toList_eq]
  cases X:s.data.toList with
  |nil=>
   have Y:s.data.toList.length=0:=by rw[X];rfl
   exact absurd (by simpa using Y) t
  |cons _ _=>rfl
 by_cases h8:8<s.size
 ·have y:(8:Int)<(s.size:Int):=by omega
  have d:b=false:=by rw[<-m];simp;omega
  subst d;clear m n t;go_enter Tryz.func95,Tryz.ntmps95;go_wp2_with fail;go_ret;exact⟨rfl,Zt⟩
 have y:¬(8:Int)<(s.size:Int):=by omega
 have u:(ZJ (ZC s 0)&&(!Y7 s&&Vj s 0))=b:=by
  rw[<-m,show Vj s 0=s.data.toList.all (fun c=>Zq (c.toNat:Int))from rfl];simp[show 1<=s.size from by omega,show s.size<=8 from by omega]
 have x:0<s.size:=by omega
 have z:M (∀W,E U 150 #[Z .u8 ((s[0]'x).toNat:Int)] W fun e w'=>e=O (C (ZJ (ZC s 0)))/\w'=W):=fun W=>by
  have e:=Tf ((s[0]'x).toNat:Int) W
  have e2:ZC s 0=((s[0]'x).toNat:Int):=by
   have A:0<s.data.toList.length:=by simpa using x
   unfold ZC;rw[Q,gE A,Option.getD_some];rfl
  rw[e2];exact e
 have B:=Za u;clear m u t h8;go_enter Tryz.func95,Tryz.ntmps95;go_wp2_with fail;refine(z.o _).mono ?_;rintro e w1 ⟨rfl,a⟩;replace a:=a.symm;subst a
 cases p:ZJ (ZC s 0)with
 |false=>
  have d:b=false:=by rw[<-B.o,p];rfl
  subst d;go_wp2_with fail;go_ret;exact⟨rfl,Zt⟩
 |true=>
  have q:M ((!Y7 s&&Vj s 0)=b):=by show _=_;rw[<-B.o,p,Bool.true_and]
  clear p B;go_wp2_with fail;refine(T.o _).mono ?_;rintro e w1 ⟨rfl,a⟩;replace a:=a.symm;subst a
  cases r:Y7 s with
  |true=>
   have d:b=false:=by rw[<-q.o,r];rfl
   subst d;go_wp2_with fail;go_ret;exact⟨rfl,Zt⟩
  |false=>
   have D:M (Vj s 0=b):=by show _=_;rw[<-q.o,r];rfl
   clear r q;go_wp2_with fail;have S:M (F0 w (Lib.bytesWorld w 5 s)):=Wk _ _ _
   have f:∀j,j<s.size->(Lib.bytesWorld w 5 s).cell? ⟨w.heap.size,j,I⟩=J (Z .u8 (ZC s j)):=fun j hj=>by
    have:=Lib.bytesWorld_cell w 5 s j hj
    simpa[ZC]using this
   have HC:=Za f;clear f n;generalize Lib.bytesWorld w 5 s=W at*;generalize grownCap _ _ _ _=cap at*
   go_loop [4,25] (fun _ i=>∃k:Nat,k<=s.size/\i=Z K k/\M (Vj s k=b)) (fun _ i=>s.size-(intOf i).toNat)
   case atStart=>exact⟨0,z7 _,rfl,D⟩
   obtain⟨k,hk,rfl,F⟩:=hrel;by_cases v:k<s.size
   ·have hc:=HC.o k v
    have G:(k:Int)<(s.size:Int):=by omega
    have h:=Za (LL s k v);generalize ZC s k=L at*
    cases l:Zq L with
    |true=>
     rw[l]at h
     have N:M (Vj s (k+1)=b):=by show _=_;rw[<-F.o,h.o,Bool.true_and]
     have g:=Za (R.o L);rw[l]at g;go_wp2_with fail;refine(g.o _).mono ?_;rintro e w2 ⟨rfl,a⟩;replace a:=a.symm;subst a;go_wp2;exact⟨⟨k+1,by omega,by go_num,N⟩,by simp[intOf];omega⟩
    |false=>
     rw[l]at h
     have d:b=false:=by rw[<-F.o,h.o,Bool.false_and]
     subst d;have g:=Za (R.o L);rw[l]at g;go_wp2_with fail;refine(g.o _).mono ?_;rintro e w2 ⟨rfl,a⟩;replace a:=a.symm;subst a;go_wp2;go_ret;exact⟨rfl,S.o⟩
   have G:¬(k:Int)<(s.size:Int):=by omega
   have d:b=true:=by
    rw[<-F.o];unfold Vj;rw[dL (by simpa using(by omega:s.size<=k))];rfl
   subst d;go_wp2;go_ret;exact⟨rfl,S.o⟩
theorem KB (w B s i t)(h:Yg w B s i t):
  E U 122 #[Y (J ⟨B,0,I⟩)] w (PU w B s t (UD s.data.toList i) fun _ v x=>v=H x):=by
 have HH:=Za (Z1 w B s i t 1 1 1 8 h (by decide) rfl);have a0:=h.sz;obtain⟨N,Z⟩:∃N,UD s.data.toList i=N:=⟨_,rfl⟩;rw[Z];have y:=Za Z;go_enter Tryz.func122,Tryz.ntmps122;go_wp2_with fail;refine HH.o.mono ?_;intro e w1 a
 cases u:Y3 s.data.toList 1 1 8 i with
 |none=>
  rw[u]at a;obtain⟨b,z⟩:=a
  have d:N=I:=by rw[<-y.o];unfold UD;rw[u]
  subst d;unfold Tb at b;subst b;exact⟨rfl,rfl,z⟩
 |some nj=>
  obtain⟨n,j⟩:=nj;rw[u]at a;obtain⟨⟨v,rfl,rfl⟩,A,C⟩:=a;have HT:=Za (KA w1 B s j t n _ A rfl);have g:=Za C;have F:=Za u;go_wp2_with fail;refine HT.o.mono ?_;intro e w2 a
  cases c:RR s.data.toList n j with
  |none=>
   rw[c]at a;obtain⟨b,z⟩:=a
   have d:N=I:=by rw[<-y.o];unfold UD;rw[F.o];simp only[c]
   subst d;unfold Tb at b;subst b;exact⟨rfl,rfl,(g.o.trans z)⟩
  |some lk=>
   obtain⟨l,k⟩:=lk;rw[c]at a;obtain⟨⟨v,rfl,rfl⟩,G,K⟩:=a;have L:=Za G;have P:=Za (g.o.trans K);have H2:=Za c
   have b0:n<=8:=by have:=(Yp F.o).2;omega
   have Q:l.length<=8:=by
    unfold RR at c
    split at c
    ·injection c with e2
     injection e2 with e3 e4;rw[<-e3,D];omega
    cases c
   obtain⟨S,R⟩:∃S:ByteArray,(⟨l.toArray⟩:ByteArray)=S:=⟨_,rfl⟩
   have c0:S.size<=8:=by rw[<-R];exact Q
   have m:M ((if Ww S then J (S,k)else I)=N):=by show _=_;rw[<-y.o];unfold UD;rw[F.o];simp only[H2.o,R]
   have HI:=Za (Eb S w2 (by omega))
   have HC:M (∀W,E U 96 #[H S] W fun e w'=>e=O (H S)/\F0 W w'):=fun W=>Vz S W (by omega)
   rw[R];go_wp2_with fail;refine HI.o.mono ?_;rintro e w3 ⟨rfl,p⟩;have q:=Za (P.o.trans (p.mono));have T:=Za (L.o.fr p)
   cases hb:Ww S with
   |false=>
    have d:N=I:=by rw[<-m.o,hb];rfl
    subst d;go_wp2_with fail;refine(Wo _).mono ?_;rintro e w4 ⟨b,f⟩;replace f:=f.symm;subst f;unfold Tb at b;subst b;exact⟨rfl,rfl,q.o⟩
   |true=>
    have d:N=J (S,k):=by rw[<-m.o,hb];rfl
    subst d;go_wp2_with fail;refine(WP _).mono ?_;rintro e w4 ⟨rfl,f⟩;replace f:=f.symm;subst f;go_wp2_with fail;refine(HC.o _).mono ?_;rintro e w4 ⟨rfl,r⟩;have V:=Za (q.o.trans (r.mono));have X:=Za (T.o.fr r);go_wp2_with fail;go_ret;exact⟨⟨_,rfl,rfl⟩,X.o,V.o⟩
