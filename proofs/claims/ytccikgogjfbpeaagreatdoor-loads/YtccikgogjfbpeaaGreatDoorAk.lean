import Derived.Test.YtccikgogjfbpeaaGreatDoorAj
open Option renaming some->I,none->J
open Go.Value renaming int->V,pointer->Z,string->U,slice->E,bool->M,bool->A,agg->y3
open Go.IntKind renaming i64->Y,u8->z6,i64->y2
open Go.Proofs.Tryz renaming prog->K
open Go.Ending renaming returned->O,returned->N
open Go.RowKit renaming Hid->H
open _root_.ByteArray renaming empty->D
open Go renaming Calls->G,World->C,Value->z8
open Go.Obj renaming cells->L
open Or renaming inl->z4,inr->z9
open Nat renaming zero_le->z5,le_trans->z7,zero_add->y0,le_refl->y1
namespace Go.Proofs.YtccikgogjfbpeaaGreatDoor
set_option maxRecDepth 30000
set_option maxHeartbeats 8000000
open Go.RowKit
theorem Xm.less {b a:Nat}{w:C}(h:a<=b):∀{l:List Zl}{d:List z8},Xm b w l d->Xm a w l d
 |[],_,e=>e
 |_::_,_,⟨c,rest,e,⟨vn,e1,h1⟩,h2⟩=>⟨c,rest,e,⟨vn,e1,oS h1 h⟩,Xm.less h h2⟩
theorem Wc.less {f d w T g R e}(h:Wc f w T g R e)(c:d<=f):Wc d w T g R e:=by
 obtain⟨i,k,a,b,l,n,⟨o,p,q⟩,r⟩:=h.bx;refine⟨z7 c h.tz,i,k,a,b,l,oS n c,⟨o,oS p c,fun j m s=>?_⟩,Xf.low c _ _ r⟩;obtain⟨t,u,v,x,y⟩:=q j m s;exact⟨t,u,v,oS x c,y.less c⟩
theorem CV (w B p t rts a u q)(b:Bk w B p t rts a u)(f:Yy rts a)(Y:q<=B):
  G K 51 #[Z (I ⟨B,0,J⟩)] w fun e w'=>(∃T,e=O (Z (I ⟨T,0,J⟩))/\w.heap.size<=T/\Wc q w' T p a (Zx (Zv a) a.length))/\F0 w w':=by
 have x:B<w.heap.size:=bL w _ b.c0;obtain⟨y,z,A⟩:=oL b.ro;subst A;obtain⟨C,c,D⟩:=oL b.lo;subst D;refine zd w B y rts.length z C a.length c a rfl b.l8 (fun k h=>ze _ _ _ h) (fun r d=>⟨(f.rl r d).mc.1,(f.rl r d).cu.1⟩) (fun r d=>⟨⟨(f.rl r d).bn.1,(f.rl r d).bn.2.1⟩,?_⟩) (by omega) b.c0 b.c1 (fun i r hi=>?_)
 ·obtain⟨j,l,m⟩:=(f.rl r d).bn
  have:10^r.digits<=10^6:=Nat.pow_le_pow_right (by omega) j;omega
 obtain⟨cs,⟨vm,vc,vp,e,j,l,m⟩,E⟩:=b.ru.at' hi
 obtain⟨F,H,L⟩:=oL j;subst L;obtain⟨M,N,P⟩:=oL l;subst P;obtain⟨Q,R,S⟩:=oL m;subst S;have U:=(iG.1 hi).1;obtain⟨g,c',n,hb,V⟩:=b.lo.form (by omega);injection n with n e8 W;subst n W;refine⟨g,F,H,M,N,Q,R,rfl,V,fun o v X=>?_,oS j (by omega),oS l (by omega),oS m (by omega)⟩;have s:=b.lo.cells (g:=g) rfl _ _ (E o v (by rw[e];exact X));rw[Yd,y0]at s;exact s
def Q8 (x:Except (Nat×Nat) (List Zf×List Ze))(w:C)(e:Ending)(w':C):Prop:=
 match x with
 | .ok p=>(∃T B a b c d,e=O (.tuple #[Z (I ⟨T,0,J⟩),V Y 0,V Y 0])/\w.heap.size<=T/\w'.cell? ⟨T,0,J⟩=I (Z (I ⟨B,0,J⟩))/\w'.cell? ⟨T,1,J⟩=I (Z (I ⟨a,0,J⟩))/\w.heap.size<=B/\Bk w' B b c p.1 p.2 d/\Wc w.heap.size w' a b p.2 (Zx (Zv p.2) p.2.length))/\Below w.heap.size w w'
 | .error f=>e=O (.tuple #[Z J,V Y f.1,V Y f.2])/\Below w.heap.size w w'
theorem Q8.ok {x w w' e p}(h:x=.ok p):Q8 x w e w'↔(∃T B a b c d,e=O (.tuple #[Z (I ⟨T,0,J⟩),V Y 0,V Y 0])/\w.heap.size<=T/\w'.cell? ⟨T,0,J⟩=I (Z (I ⟨B,0,J⟩))/\w'.cell? ⟨T,1,J⟩=I (Z (I ⟨a,0,J⟩))/\w.heap.size<=B/\Bk w' B b c p.1 p.2 d/\Wc w.heap.size w' a b p.2 (Zx (Zv p.2) p.2.length))/\Below w.heap.size w w':=by subst h;exact Iff.rfl
theorem Q8.err {x w w' e f}(h:x=.error f):Q8 x w e w'↔e=O (.tuple #[Z J,V Y f.1,V Y f.2])/\Below w.heap.size w w':=by subst h;exact Iff.rfl
theorem Hc (s w):G K 32 #[U s] w (Q8 (XG s) w):=by
 have o0:∀(fn:Fn)(first cap:Array z8)(w:C),(Instr.makeFunc fn first cap).run K w=.ok (.func fn first cap) w:=fun _ _ _ _=>rfl
 go_enter_defers Tryz.func32,Tryz.ntmps32
 go_wp2_with fail;refine(AF s _).mono ?_;intro e E F;obtain⟨m,P,Q,R⟩:=Ac w (L #[Z J] 31) (L #[V Y 0] 74) (L #[V Y 0] 3);have S:=m.size;generalize((w.alloc _).alloc _).alloc _=w0 at*
 cases M:XG s with
 |error f=>
  obtain⟨he,T⟩:=(Sv.err M).1 F;unfold Zj at he;subst he;have b:F0 w0 E:=Fr.of_below T;refine leaves_cons (f:=57) (args:=#[Z (I ⟨w.heap.size,0,J⟩),Z (I ⟨w.heap.size+1,0,J⟩),Z (I ⟨w.heap.size+1+1,0,J⟩)]) (by simp) (by simp[go_sem]) ?_;refine(OQ w.heap.size (w.heap.size+1) (w.heap.size+1+1) f.1 f.2 _ _ _ E (bC (b.whole P) 0 _ rfl) (bC (b.whole Q) 0 _ rfl) (bC (b.whole R) 0 _ rfl) (bF (b.whole P) 0) (bF (b.whole Q) 0) (bF (b.whole R) 0) (by omega) (by omega) (by omega) (by omega) (by omega) (by omega)).mono ?_;rintro e u' w2 ⟨rfl,rfl,X,a1,a2,c⟩;have N:=(m.trans b).below (y1 _) (by simp)|>.trans (c.below (z7 S b.size) (fun k n=>by omega));simp[Leaves,settle,results,Tryz.results32,go_sem,X,a1,a2];exact(Q8.err rfl).2 ⟨rfl,N⟩
 |ok p=>
  obtain⟨⟨B,vr,vl,xs,rfl,N,n⟩,T⟩:=(Sv.ok M).1 F;have b:F0 w0 E:=Fr.of_below T;have b0:=Za (CV E B vr vl p.1 p.2 xs w0.heap.size n (NS M) N);have HK:=Za n;have e0:=Za b;have q:=Za m;have r:=Za P;have t:=Za Q;have i:=Za R;have f0:=Za N;have HR:=Za M;go_wp2_with fail;refine b0.o.mono ?_;rintro e w2 ⟨⟨z,rfl,p0,g0⟩,l⟩;have g:=e0.o.trans l;have r0:w.heap.size+1+1<w2.heap.size:=nL (iA.1 i.o).1 g.size;have d:=g.alloc (L #[Z (I ⟨B,0,J⟩),Z (I ⟨z,0,J⟩)] 80);have c0:=bC (d.whole r.o) 0 _ rfl;have c1:=bC (d.whole t.o) 0 _ rfl;have c2:=bC (d.whole i.o) 0 _ rfl;have z0:=bF (d.whole r.o) 0;have z1:=bF (d.whole t.o) 0;have z2:=bF (d.whole i.o) 0;have A:H (Bk w2 B vr vl p.1 p.2 xs/\Wc w0.heap.size w2 z vr p.2 (Zx (Zv p.2) p.2.length)):=⟨HK.o.fr l,g0⟩;have HF:=Za (q.o.trans g);have H0:H (w.heap.size+1+1<w0.heap.size/\w.heap.size<=w0.heap.size):=⟨(iA.1 i.o).1,q.o.size⟩;go_wp2_with fail
  have a:∀(v:C)(x y o:Nat)(u:z8),¬x=y->(v.setCell ⟨x,0,J⟩ u).cell? ⟨y,o,J⟩=v.cell? ⟨y,o,J⟩:=fun v x y o u h=>cO _ _ _ _ (fun e=>h (by injection e))
  have F:=bC (aN w2 (L #[Z (I ⟨B,0,J⟩),Z (I ⟨z,0,J⟩)] 80)) 0 _ rfl;have i0:=bC (aN w2 (L #[Z (I ⟨B,0,J⟩),Z (I ⟨z,0,J⟩)] 80)) 1 _ rfl;have O:Fr (fun j=>j=w.heap.size\/j=w.heap.size+1\/j=w.heap.size+1+1) w2 ((((w2.alloc (L #[Z (I ⟨B,0,J⟩),Z (I ⟨z,0,J⟩)] 80)).setCell ⟨w.heap.size,0,J⟩ (Z (I ⟨w2.heap.size,0,J⟩))).setCell ⟨w.heap.size+1,0,J⟩ (V Y 0)).setCell ⟨w.heap.size+1+1,0,J⟩ (V Y 0)):=(((Zt.alloc _).setCell (z4 (z4 rfl)) _).setCell (z4 (z9 (z4 rfl))) _).setCell (z4 (z9 (z9 rfl))) _;have d0:=(a _ (w.heap.size+1+1) w.heap.size 0 (V Y 0) (by omega)).trans ((a _ (w.heap.size+1) w.heap.size 0 (V Y 0) (by omega)).trans (cS _ _ (Z (I ⟨w2.heap.size,0,J⟩)) c0));have d1:=(a _ (w.heap.size+1+1) (w.heap.size+1) 0 (V Y 0) (by omega)).trans (cS _ _ (V Y 0) ((a _ w.heap.size (w.heap.size+1) 0 (Z (I ⟨w2.heap.size,0,J⟩)) (by omega)).trans c1));have d2:=cS _ _ (V Y 0) ((a _ (w.heap.size+1) (w.heap.size+1+1) 0 (V Y 0) (by omega)).trans ((a _ w.heap.size (w.heap.size+1+1) 0 (Z (I ⟨w2.heap.size,0,J⟩)) (by omega)).trans c2));have dT:=(a _ (w.heap.size+1+1) w2.heap.size 0 (V Y 0) (by omega)).trans ((a _ (w.heap.size+1) w2.heap.size 0 (V Y 0) (by omega)).trans ((a _ w.heap.size w2.heap.size 0 (Z (I ⟨w2.heap.size,0,J⟩)) (by omega)).trans F));have D:=(a _ (w.heap.size+1+1) w2.heap.size 1 (V Y 0) (by omega)).trans ((a _ (w.heap.size+1) w2.heap.size 1 (V Y 0) (by omega)).trans ((a _ w.heap.size w2.heap.size 1 (Z (I ⟨w2.heap.size,0,J⟩)) (by omega)).trans i0));generalize((((w2.alloc _).setCell ⟨w.heap.size,0,J⟩ (Z (I ⟨w2.heap.size,0,J⟩))).setCell ⟨w.heap.size+1,0,J⟩ (V Y 0)).setCell ⟨w.heap.size+1+1,0,J⟩ (V Y 0))=W at*
  refine leaves_cons (f:=57) (args:=#[Z (I ⟨w.heap.size,0,J⟩),Z (I ⟨w.heap.size+1,0,J⟩),Z (I ⟨w.heap.size+1+1,0,J⟩)]) (by simp) (by simp[go_sem]) ?_;refine(FG w.heap.size (w.heap.size+1) (w.heap.size+1+1) W).mono ?_;rintro e u' w3 ⟨rfl,rfl,c⟩;have X:=(c.cell (p:=⟨w.heap.size,0,J⟩) (bL W _ d0)).trans d0;have a1:=(c.cell (p:=⟨w.heap.size+1,0,J⟩) (bL W _ d1)).trans d1;have a2:=(c.cell (p:=⟨w.heap.size+1+1,0,J⟩) (bL W _ d2)).trans d2;have aT:=(c.cell (p:=⟨w2.heap.size,0,J⟩) (bL W _ dT)).trans dT;have j0:=(c.cell (p:=⟨w2.heap.size,1,J⟩) (bL W _ D)).trans D;obtain⟨h0,k0⟩:=H0.o;have hb:=f0.o;have l0:=(A.o.1.fr O (fun k n=>by omega)).fr c;have m0:=((A.o.2.fr O (fun k n=>by omega)).fr c).less k0;have n0:Below w.heap.size w w3:=(HF.o.below (y1 _)).trans ((O.below (by omega) (fun k n=>by omega)).trans (c.below (by have:=O.size;omega)));simp[Leaves,settle,results,Tryz.results32,go_sem,X,a1,a2];exact(Q8.ok HR.o).2 ⟨⟨_,_,_,_,_,_,rfl,by omega,aT,j0,by omega,l0,m0⟩,n0⟩
theorem X9.frS {w w' B q body rts i S}(h:X9 w B q body rts i)(b:Fr S w w')(l:∀k,S k->k<B):X9 w' B q body rts i:=by
 obtain⟨⟨a,c,u,x⟩,d,y,z,m,A,C,D,o,E,F,G,H,I⟩:=h
 have j:∀k,B<=k->¬S k:=fun k r K=>by have:=l k K;omega
 have f:∀k,S k->k<m:=fun k r=>nL (l k r) o
 refine⟨⟨a,c,(b.cell (p:=⟨q,0,J⟩) d.2 (j q d.1)).trans u,fun L=>?_⟩,⟨d.1,nL d.2 b.size⟩,y,z,m,A,C,D,o,(b.cell (p:=⟨q,1,J⟩) d.2 (j q d.1)).trans E,(b.cell (p:=⟨q,2,J⟩) d.2 (j q d.1)).trans F,oF G b f,oF H b f,TD.keep (fun v n O M=>oF M b f) I⟩;obtain⟨g,e,s,t,N⟩:=x L;exact⟨g,e,s,nL t b.size,N.fr b t (j g s)⟩
theorem X9.less {w B f q body rts b}(h:X9 w B q body rts b)(d:f<=B):X9 w f q body rts b:=by
 obtain⟨⟨a,c,j,k⟩,i,l,m,n,o,p,r,s,t,u,v,x,y⟩:=h;refine⟨⟨a,c,j,fun z=>?_⟩,⟨z7 d i.1,i.2⟩,l,m,n,o,p,r,z7 d s,t,u,v,x,y⟩;obtain⟨g,e,A,C,D⟩:=k z;exact⟨g,e,z7 d A,C,D⟩
theorem TW:(K.info? 93).map (fun i=>(i.zero,i.size,i.bytes))=I (I (Z J),1,8):=by kernel_rfl
def uo:z8->Nat
 |U t=>t.size
 |_=>0
theorem FU {t}(g:1<t.size)(f:ZD t 0=48):Yk t.data.toList=Yk (t.extract 1 t.size).data.toList:=by
 rw[Lib.extract_data]
 have c:t.data.toList.length=t.size:=by simp
 have d:t.data.toList.getD 0 0=48:=by
  unfold ZD at f;rw[<-UInt8.toNat_inj];have:(48:UInt8).toNat=48:=rfl;omega
 match e:t.data.toList,c with
 |[],c=>simp at c;omega
 |[_],c=>simp at c;omega
 |a::b::r,c=>
  rw[e]at d;simp at d;subst d;rw[VF,List.drop_succ_cons,List.drop_zero,List.take_of_length_le (by simp at c ⊢;omega)]
theorem Mq {t}(h:t.size<=1\/ZD t 0≠48):Yk t.data.toList=t.data.toList:=by
 have c:t.data.toList.length=t.size:=by simp
 match e:t.data.toList,c with
 |[],_=>rfl
 |[a],_=>exact Uh a
 |a::b::r,c=>
  refine VR a _ (fun d=>?_);rcases h with h|h
  ·simp at c;omega
  apply h
  unfold ZD;rw[e,d];rfl
theorem CW (s w)(h:s.size<=3000):
  G K 83 #[U s] w fun e w'=>(∃t,e=O (U t)/\t.data.toList=Yk s.data.toList)/\w'=w:=by
 go_enter Tryz.func83,Tryz.ntmps83;go_wp2_with fail
 go_loop [0] (fun v=>∃t:ByteArray,v=U t/\t.size<=3000/\H (Yk t.data.toList=Yk s.data.toList)) uo
 case atStart=>exact⟨s,rfl,h,rfl⟩
 obtain⟨t,rfl,l,d⟩:=hrel;by_cases i:1<t.size
 ·have f:(1:Int)<(t.size:Int):=by omega
  have g:=fun w=>VK (P:=K) Tryz.underlying9 t 0 (0:Int) rfl (by omega) w
  have j:(1:Int)<=(t.size:Int):=by omega
  by_cases b:ZD t 0=48
  ·have a:=Za ((FU i b).symm.trans d.o)
   rw[b]at g;go_wp2;exact⟨⟨_,rfl,by rw[ByteArray.size_extract];omega,a⟩,by simp[uo];omega⟩
  have a:=Za ((Mq (z9 b)).symm.trans d.o)
  have k:(ZD t 0==48)=false:=by simp[b]
  generalize ZD t 0=c at*;go_wp2;go_ret;exact⟨⟨t,rfl,a.o⟩,rfl⟩
 have f:¬(1:Int)<(t.size:Int):=by omega
 have a:=Za ((Mq (z4 (by omega))).symm.trans d.o);go_wp2;go_ret;exact⟨⟨t,rfl,a.o⟩,rfl⟩
theorem CX (w q a c body)(hq:w.cell? ⟨q,0,J⟩=I (E a body.length c))(i:0<body.length->∃g,a=I ⟨g,0,J⟩/\wl w g body)(hb:body.length<=3000)(N:∀t,t∈body->t.text.size<=3000):
  G K 45 #[Z (I ⟨q,0,J⟩)] w fun e w'=>(∃t,e=O (U t)/\t.data.toList=VT body body.length)/\w'=w:=by
 have W:=Za i;have q0:=Za N;obtain⟨n,hn⟩:∃n,body.length=n:=⟨_,rfl⟩;rw[hn]at hq hb ⊢;have HN:=Za hn;clear i N hn;go_enter Tryz.func45,Tryz.ntmps45;go_wp2_with fail
 go_loop [3,4,5,6] (fun o fb gb ix=>∃k l F L,k<=n/\o=U l/\fb=M F/\gb=M L/\ix=V Y (k:Nat)/\l.size<=k*3002/\H (l.data.toList++ZT F L (Yo body k (n-k))=VT body n)) (fun _ _ _ ix=>n-(intOf ix).toNat)
 case atStart=>exact⟨0,⟨#[]⟩,true,false,z5 _,rfl,rfl,rfl,rfl,by decide,by show _=_;rfl⟩
 obtain⟨k,l,F,L,hk,rfl,rfl,rfl,rfl,X,HR⟩:=hrel;by_cases s0:k<n
 ·obtain⟨t,N⟩:∃t,body[k]?=I t:=⟨_,gE (by have:=HN.o;omega)⟩
  obtain⟨g,hg,i⟩:=W.o (by have:=HN.o;omega);rw[hg]at hq;obtain⟨r0,r1,r2⟩:=i k t N;have HT:=Za (Vp N);have a0:=Za i;have b0:=Za (q0.o t (mG N))
  have t0:(k:Int)<(n:Int):=by omega
  obtain⟨dg,c0⟩:∃dg,SG body k=dg:=⟨_,rfl⟩;have p:=Za c0;clear i N hg c0 r2;go_upto_region 8 with fail
  go_cut [8]from 10 to 118 (fun s8 y=>s8=M dg/\y=w)
  case first=>
   clear r0 r1;by_cases k0:k=0
   ·have d0:decide ((0:Int)<(k:Int))=false:=by simp;omega
    have r:decide (0<k)=false:=by simp;omega
    have d2:decide ((2:Int)<(k:Int))=false:=by simp;omega
    have u:decide (2<k)=false:=by simp;omega
    have e:dg=false:=by rw[<-p.o];unfold SG;rw[r,u];rfl
    subst e;clear k0;go_wp2_with fail;go_meet;exact⟨rfl,rfl⟩
   have d0:decide ((0:Int)<(k:Int))=true:=by simp;omega
   have r:decide (0<k)=true:=by simp;omega
   obtain⟨tp,S⟩:∃tp,body[k-1]?=I tp:=⟨_,gE (by have:=HN.o;omega)⟩;obtain⟨p0,_,_⟩:=a0.o (k-1) tp S;have z:=Za (Vp S);obtain⟨m,T⟩:∃m,k-1=m:=⟨_,rfl⟩;rw[T]at p0
   have H0:y2.wrap ((k:Int)-1)=((m:Nat):Int):=by rw[IntWalk.i64_in _ (by omega)];omega
   have I0:(m:Int)<(n:Int):=by omega
   have HM:=Za T
   cases A:(tp.text.toList==[98,105,110])with
   |true=>
    have e:dg=true:=by rw[<-p.o];unfold SG Lp;rw[z.o,A,r];rfl
    subst e;clear k0 T S;go_wp2_with fail;go_meet;exact⟨rfl,rfl⟩
   |false=>
    by_cases k2:2<k
    ·have d2:decide ((2:Int)<(k:Int))=true:=by simp;omega
     have u:decide (2<k)=true:=by simp;omega
     cases e0:(tp.text.toList==[46,46])with
     |false=>
      have e:dg=false:=by rw[<-p.o];unfold SG Lp;rw[z.o,A,e0,r,u];rfl
      subst e;clear k0 T S k2;go_wp2_with fail;go_meet;exact⟨rfl,rfl⟩
     |true=>
      obtain⟨tq,P⟩:∃tq,body[k-3]?=I tq:=⟨_,gE (by have:=HN.o;omega)⟩;obtain⟨p3,_,_⟩:=a0.o (k-3) tq P;have v0:=Za (Vp P);obtain⟨m3,f0⟩:∃m3,k-3=m3:=⟨_,rfl⟩;rw[f0]at p3
      have J0:y2.wrap ((k:Int)-3)=((m3:Nat):Int):=by rw[IntWalk.i64_in _ (by omega)];omega
      have F0:(m3:Int)<(n:Int):=by omega
      have e:dg=(tq.text.toList==[98,105,110]):=by rw[<-p.o];unfold SG Lp;rw[z.o,v0.o,A,e0,r,u];rfl
      subst e;clear k0 T S k2 f0 P;go_wp2_with fail;go_meet;exact⟨rfl,rfl⟩
    have d2:decide ((2:Int)<(k:Int))=false:=by simp;omega
    have u:decide (2<k)=false:=by simp;omega
    have e:dg=false:=by rw[<-p.o];unfold SG Lp;rw[z.o,A,r,u];rfl
    subst e;clear k0 T S k2;go_wp2_with fail;go_meet;exact⟨rfl,rfl⟩
  obtain⟨rfl,d⟩:=hcut;replace d:=d.symm;subst d;have f1:=wm t
  have g0:Xc body k=if decide (t.sort=1)&&!dg then Yk t.text.data.toList else t.text.data.toList:=by unfold Xc;rw[HT.o,p.o]
  have v:=Za g0;clear g0;obtain⟨bs,i0⟩:∃bs,decide (t.sort=1)=bs:=⟨_,rfl⟩;rw[i0]at f1 v;clear i0;generalize UE t=KD at*;go_upto_region 9 with fail
  go_cut [81]from 10 to 118 (fun w0 y=>w0=M (bs&&!dg)/\y=w)
  case first=>
   cases bs with
   |false=>
    go_wp2_with fail;go_meet;exact⟨rfl,rfl⟩
   |true=>
    go_wp2_with fail;go_meet;exact⟨rfl,rfl⟩
  obtain⟨rfl,d⟩:=hcut;replace d:=d.symm;subst d;obtain⟨bd,j0⟩:∃bd,(bs&&!dg)=bd:=⟨_,rfl⟩;rw[j0]at v ⊢;clear j0 f1 r0 r1
  go_upto_if 81 with fail
  go_cut [7]from 10 to 118 (fun s7 y=>(∃f:ByteArray,s7=U f/\H (f.data.toList=Xc body k))/\y=w)
  case first=>
   cases bd with
   |false=>
    have HE:H (t.text.data.toList=Xc body k):=by show _=_;rw[v.o];rfl
    go_wp2_with fail;go_meet;exact⟨⟨t.text,rfl,HE⟩,rfl⟩
   |true=>
    go_wp2_with fail;refine(CW t.text w b0.o).mono ?_;rintro e w1 ⟨⟨t',rfl,h⟩,he⟩;replace he:=he.symm;subst he
    have HE:H (t'.data.toList=Xc body k):=by show _=_;rw[v.o,h];rfl
    clear h;go_wp2_with fail;go_meet;exact⟨⟨t',rfl,HE⟩,rfl⟩
  obtain⟨⟨f,rfl,l0⟩,d⟩:=hcut;replace d:=d.symm;subst d
  have x0:H (l.data.toList++ZT F L (Xc body k::Yo body (k+1) (n-(k+1)))=VT body n):=by have e:=HR.o;rw[NE s0]at e;exact e
  obtain⟨x,B⟩:∃x,Uy f.data.toList=x:=⟨_,rfl⟩;have y0:=Za B;obtain⟨C,Q⟩:∃b,(f.toList==[59])=b:=⟨_,rfl⟩;obtain⟨D,m0⟩:∃b,(f.toList==[46,46])=b:=⟨_,rfl⟩
  have A0:H ((f.data.toList==[59])=C):=by show _=_;rw[<-ByteArray.toList_eq];exact Q
  have B0:H ((f.data.toList==[46,46])=D):=by show _=_;rw[<-ByteArray.toList_eq];exact m0
  have j:((f.toList==[59])||(f.toList==[44])||(f.toList==[58])||(f.toList==[46,46]))=x:=by rw[<-B];unfold Uy;rw[ByteArray.toList_eq]
  go_upto_region 11 with fail
  go_cut [9]from 10 to 118 (fun s9 y=>s9=M x/\y=w)
  case first=>
   clear B
   cases C with
   |true=>
    have e:x=true:=by rw[<-j,Q];rfl
    subst e;go_wp2_with fail;go_meet;exact⟨rfl,rfl⟩
   |false=>
    cases n0:(f.toList==[44])with
    |true=>
     have e:x=true:=by rw[<-j,n0];simp
     subst e;go_wp2_with fail;go_meet;exact⟨rfl,rfl⟩
    |false=>
     cases o0:(f.toList==[58])with
     |true=>
      have e:x=true:=by rw[<-j,o0];simp
      subst e;go_wp2_with fail;go_meet;exact⟨rfl,rfl⟩
     |false=>
      have e:x=D:=by rw[<-j,Q,n0,o0,m0];rfl
      subst e;go_wp2_with fail;go_meet;exact⟨rfl,rfl⟩
  obtain⟨rfl,d⟩:=hcut;replace d:=d.symm;subst d;clear B j;go_upto_region 12 with fail
  go_cut [107]from 10 to 118 (fun s y=>s=M (!F&&!L&&!x)/\y=w)
  case first=>
   cases F with
   |true=>go_wp2_with fail;go_meet;exact⟨rfl,rfl⟩
   |false=>
    cases L with
    |true=>go_wp2_with fail;go_meet;exact⟨rfl,rfl⟩
    |false=>go_wp2_with fail;go_meet;exact⟨rfl,rfl⟩
  obtain⟨rfl,d⟩:=hcut;replace d:=d.symm;subst d;obtain⟨sp,R⟩:∃sp,(!F&&!L&&!x)=sp:=⟨_,rfl⟩;rw[R]
  have C0:H (ZT F L (Xc body k::Yo body (k+1) (n-(k+1)))=(if sp then[32]else[])++(f.data.toList++(if C then 10::ZT true D (Yo body (k+1) (n-(k+1)))else ZT false D (Yo body (k+1) (n-(k+1)))))):=by
   show _=_
   rw[<-l0.o];simp only[ZT];rw[y0.o,R,A0.o,B0.o]
  clear R
  have K0:f.size<=3000:=by
   have e1:f.data.toList.length=f.size:=by simp
   have e2:(Xc body k).length<=t.text.size:=by
    rw[v.o]
    have e3:t.text.data.toList.length=t.text.size:=by simp
    split
    ·rcases Nat.eq_zero_or_pos t.text.data.toList.length with h0|h0
     ·rw[List.length_eq_zero_iff.1 h0];simp[Yk]
     have:=(Qg t.text.data.toList (fun e=>by rw[e]at h0;simp at h0)).2
     omega
    omega
   rw[l0.o]at e1;have:=b0.o;omega
  have G0:l.size<=10000000:=by omega
  have z1:(l++(⟨#[32]⟩:ByteArray)).size=l.size+1:=by rw[ByteArray.size_append];rfl
  have z2:(l++(⟨#[32]⟩:ByteArray)++f).size=l.size+1+f.size:=by rw[ByteArray.size_append,z1]
  have z3:(l++f).size=l.size+f.size:=by rw[ByteArray.size_append]
  have D0:=Za X;have z0:(⟨#[32]⟩:ByteArray).size=1:=rfl;have E0:(⟨#[10]⟩:ByteArray).size=1:=rfl;clear X
  cases sp
  all_goals
   cases C
   all_goals
    go_wp2;refine⟨⟨k+1,_,_,_,by omega,rfl,rfl,rfl,by go_num,by have:=D0.o;simp only[ByteArray.size_append,z0,E0];omega,?_⟩,by simp[intOf];omega⟩
    show _=_
    rw[<-x0.o,C0.o];simp
 have t0:¬(k:Int)<(n:Int):=by omega
 have HE:H (l.data.toList=VT body n):=by
  have e:=HR.o;rw[show n-k=0 from by omega]at e;simp only[Yo,ZT,List.append_nil]at e;exact e
 go_wp2;go_ret;exact⟨⟨l,rfl,HE.o⟩,rfl⟩
def Dl (k d:Int)(s a:ByteArray)(b e c:Int)(f:Option Addr)(g h:Nat)(i:Bool):z8:=
 y3 #[V Y k,V Y d,U s,U a,V Y b,V Y e,V Y c,E f g h,M i]
def Sk (k d:Int)(s a:ByteArray)(b e c:Int)(f:Option Addr)(g h:Nat)(i:Bool):Obj:=
 L #[V Y k,V Y d,U s,U a,V Y b,V Y e,V Y c,E f g h,M i] 62
def PR (n:Int):Nat->List Nat->Int
 |_,[]=> -1
 |i,x::r=>if(n==(x:Int))=true then(i:Int)else PR n (i+1) r
theorem Dm (n:Int):∀(l:List Nat)(i:Nat),decide (0<=PR n i l)=Uo l n
 |[],_=>rfl
 |x::r,i=>by
  unfold PR Uo;rw[List.any_cons];by_cases h:n=(x:Int)
  ·have a:=h.symm
   simp[h]
  have a:¬(x:Int)=n:=fun e=>h e.symm
  have e:(n==(x:Int))=false:=by simpa using h
  rw[e,if_neg (by simp),Dm n r (i+1)];simp[a,Uo]
def UB (s:ByteArray):Nat->List ByteArray->Int
 |_,[]=> -1
 |i,x::r=>if(s.toList==x.toList)=true then(i:Int)else UB s (i+1) r
def JH (l:List ByteArray)(s:ByteArray):Bool:=l.any (fun x=>s.toList==x.toList)
theorem Dn (s:ByteArray):∀(l:List ByteArray)(i:Nat),decide (0<=UB s i l)=JH l s
 |[],_=>rfl
 |x::r,i=>by
  unfold UB JH;rw[List.any_cons]
  cases h:(s.toList==x.toList)with
  |true=>simp
  |false=>
   rw[if_neg (by simp),Dn s r (i+1)];simp[JH]
def Zu (w:C)(a:Option Addr)(l:List Nat):Prop:=∀k x,l[k]?=I x->∃g,a=I ⟨g,0,J⟩/\w.cell? ⟨g,k,J⟩=I (V Y (x:Nat))
theorem Zu.of {w base c a l}(h:w.ownsRow base 3 1 (E a l.length c) l.length (Zg l)):Zu w a l:=by
 intro k x b;have i:=(iG.1 b).1;obtain⟨g,j,e,_,_⟩:=h.form (by omega);injection e with f m n;subst f;refine⟨g,rfl,?_⟩;have d:=h.cells (g:=g) rfl k (V Y (x:Nat)) (by unfold Zg;rw[List.getElem?_map,b];rfl);rw[Yd,y0]at d;exact d
def Yf (w:C)(a:Option Addr)(l:List ByteArray):Prop:=∀k s,l[k]?=I s->∃g o,a=I ⟨g,o,J⟩/\w.cell? ⟨g,o+k,J⟩=I (U s)
theorem Yf.fr {w w' S a l}(h:Yf w a l)(d:Fr S w w')(e:∀g o,a=I ⟨g,o,J⟩->¬S g:=by simp):Yf w' a l:=by
 intro k s f;obtain⟨g,o,b,c⟩:=h k s f;exact⟨g,o,b,(d.cell (p:=⟨g,o+k,J⟩) (bL w _ c) (e g o b)).trans c⟩
theorem FV (w a c l n)(h:Zu w a l)(t:l.length<=4000):
  G K 241 #[E a l.length c,V Y n] w fun e w'=>e=O (V Y (PR n 0 l))/\w'=w:=by
 have u:=Za h;obtain⟨m,j⟩:∃m,l.length=m:=⟨_,rfl⟩;have p:=Za j;rw[j]at t ⊢;go_enter Tryz.func241,Tryz.ntmps241;go_wp2_with fail
 go_loop [5,8] (fun _ i=>∃k:Nat,k<=m/\i=V Y k/\H (PR n 0 l=PR n k (l.drop k))) (fun _ i=>m-(intOf i).toNat)
 case atStart=>exact⟨0,z5 _,rfl,rfl⟩
 obtain⟨k,A,rfl,d⟩:=hrel;by_cases v:k<m
 ·have f:(k:Int)<(m:Int):=by omega
  obtain⟨x,q⟩:∃x,l[k]?=I x:=⟨_,gE (by have:=p.o;omega)⟩;obtain⟨g,rfl,B⟩:=u.o k x q
  have r:H (l.drop k=x::l.drop (k+1)):=by
   obtain⟨y,z⟩:=iG.1 q
   show _=_
   rw[dC y,z]
  cases s:(n==(x:Int))with
  |true=>
   have b:H (PR n 0 l=(k:Int)):=by show _=_;rw[d.o,r.o];simp only[PR];rw[if_pos s]
   go_wp2;go_ret;exact⟨ZP b.o.symm,rfl⟩
  |false=>
   have b:H (PR n 0 l=PR n (k+1) (l.drop (k+1))):=by show _=_;rw[d.o,r.o];simp only[PR];rw[if_neg (by simp[s])]
   go_wp2;exact⟨⟨k+1,by omega,by go_num,b⟩,by simp[intOf];omega⟩
 have f:¬(k:Int)<(m:Int):=by omega
 have b:H (PR n 0 l= -1):=by show _=_;rw[d.o,dL (by have:=p.o;omega)];rfl
 go_wp2;go_ret;exact⟨ZP b.o.symm,rfl⟩
theorem LG (w a c l n)(h:Zu w a l)(f:l.length<=4000):
  G K 207 #[E a l.length c,V Y n] w fun e w'=>e=O (M (Uo l n))/\w'=w:=by
 have g:=Za (FV w a c l n h f);have i:=Za (Dm n l 0);generalize PR n 0 l=x at*;go_enter Tryz.func207,Tryz.ntmps207;go_wp2_with fail;refine g.o.mono ?_;rintro e j ⟨rfl,d⟩;replace d:=d.symm;subst d;go_wp2;go_ret;exact⟨congrArg (fun b=>N (A b)) i.o,rfl⟩
theorem Mr (w a c l s)(h:Yf w a l)(j:l.length<=maxLen):
  G K 66 #[E a l.length c,U s] w fun e w'=>e=O (V Y (UB s 0 l))/\w'=w:=by
 have u:=Za h;unfold maxLen at j;obtain⟨m,n⟩:∃m,l.length=m:=⟨_,rfl⟩;have p:=Za n;rw[n]at j ⊢
 have v:(m:Int)<=9223372036854775807:=by omega
 go_enter Tryz.func66,Tryz.ntmps66;go_wp2_with fail
 go_loop [5,8] (fun _ i=>∃k:Nat,k<=m/\i=V Y k/\H (UB s 0 l=UB s k (l.drop k))) (fun _ i=>m-(intOf i).toNat)
 case atStart=>exact⟨0,z5 _,rfl,rfl⟩
 obtain⟨k,B,rfl,d⟩:=hrel;by_cases y:k<m
 ·have f:(k:Int)<(m:Int):=by omega
  obtain⟨x,q⟩:∃x,l[k]?=I x:=⟨_,gE (by have:=p.o;omega)⟩;obtain⟨g,o,rfl,C⟩:=u.o k x q
  have r:H (l.drop k=x::l.drop (k+1)):=by
   obtain⟨z,A⟩:=iG.1 q
   show _=_
   rw[dC z,A]
  cases t:(s.toList==x.toList)with
  |true=>
   have b:H (UB s 0 l=(k:Int)):=by show _=_;rw[d.o,r.o];simp only[UB];rw[if_pos t]
   go_wp2;go_ret;exact⟨ZP b.o.symm,rfl⟩
  |false=>
   have b:H (UB s 0 l=UB s (k+1) (l.drop (k+1))):=by show _=_;rw[d.o,r.o];simp only[UB];rw[if_neg (by simp[t])]
   go_wp2;exact⟨⟨k+1,by omega,by go_num,b⟩,by simp[intOf];omega⟩
 have f:¬(k:Int)<(m:Int):=by omega
 have b:H (UB s 0 l= -1):=by show _=_;rw[d.o,dL (by have:=p.o;omega)];rfl
 go_wp2;go_ret;exact⟨ZP b.o.symm,rfl⟩
theorem LH (w a c l s)(h:Yf w a l)(f:l.length<=maxLen):
  G K 38 #[E a l.length c,U s] w fun e w'=>e=O (M (JH l s))/\w'=w:=by
 have g:=Za (Mr w a c l s h f);have i:=Za (Dn s l 0);generalize UB s 0 l=x at*;go_enter Tryz.func38,Tryz.ntmps38;go_wp2_with fail;refine g.o.mono ?_;rintro e j ⟨rfl,d⟩;replace d:=d.symm;subst d;go_wp2;go_ret;exact⟨congrArg (fun b=>N (A b)) i.o,rfl⟩
theorem CY (w n m):
  G K 111 #[V Y n,V Y m] w fun e w'=>e=O (M (decide (0<=n)&&decide (n<=m)))/\w'=w:=by
 by_cases a:0<=n
 ·by_cases c:n<=m
  all_goals
   go_enter Tryz.func111,Tryz.ntmps111;go_wp2;go_ret;exact⟨congrArg (fun b=>N (A b)) (by simp[a,c]),rfl⟩
 go_enter Tryz.func111,Tryz.ntmps111
 go_wp2;go_ret;exact⟨congrArg (fun b=>N (A b)) (by simp;omega),rfl⟩
def Xv (s:ByteArray)(k:Nat):Bool:=(s.data.toList.drop k).all (fun c=>decide (48<=c.toNat)&&decide (c.toNat<=57))
theorem Q9 (s k)(h:k<s.size):Xv s k=(iD (ZD s k)&&Xv s (k+1)):=by
 unfold Xv
 have a:k<s.data.toList.length:=by simpa using h
 rw[dC a,List.all_cons]
 congr 1
 unfold iD ZD;rw[gD,gE a];simp only[Option.getD_some];rw[<-Bool.decide_and]
 congr 1
 apply propext;omega
theorem Ow (s k)(h:s.size<=k):Xv s k=true:=by
 unfold Xv;rw[dL (by simpa using h)];rfl
theorem LI (s w)(t:s.size<=3000):
  G K 164 #[U s] w fun e w'=>e=O (M (Xv s 0))/\F0 w w':=by
 have h:=fun w=>Lib.run_convert_string_bytes (P:=K) w 9 50 5 s Tryz.underlying9 Tryz.underlying50 Tryz.underlying5
 go_enter Tryz.func164,Tryz.ntmps164;go_wp2_with fail;have n:H (F0 w (Lib.bytesWorld w 5 s)):=Wn _ _ _
 have a:∀j,j<s.size->(Lib.bytesWorld w 5 s).cell? ⟨w.heap.size,j,J⟩=I (V z6 (ZD s j)):=fun j q=>by
  have:=Lib.bytesWorld_cell w 5 s j q
  simpa[ZD]using this
 have r:=Za a;clear a h;generalize Lib.bytesWorld w 5 s=W at*;generalize grownCap _ _ _ _=cap at*
 go_loop [4,8] (fun _ i=>∃k:Nat,k<=s.size/\i=V Y k/\H (Xv s 0=Xv s k)) (fun _ i=>s.size-(intOf i).toNat)
 case atStart=>exact⟨0,z5 _,rfl,rfl⟩
 obtain⟨k,u,rfl,l⟩:=hrel;by_cases d:k<s.size
 ·have v:=r.o k d
  have m:(k:Int)<(s.size:Int):=by omega
  have f:=Za (Q9 s k d)
  have g:H (∀W,G K 188 #[V z6 (ZD s k)] W fun e w'=>e=O (M (iD (ZD s k)))/\w'=W):=fun W=>Tj _ W
  generalize ZD s k=b at*
  cases p:iD b with
  |true=>
   rw[p]at g f;go_wp2_with fail;refine(g.o _).mono ?_;rintro e w2 ⟨rfl,c⟩;replace c:=c.symm;subst c;go_wp2;exact⟨⟨k+1,by omega,by go_num,by show _=_;rw[l.o,f.o,Bool.true_and]⟩,by simp[intOf];omega⟩
  |false=>
   rw[p]at g f;go_wp2_with fail;refine(g.o _).mono ?_;rintro e w2 ⟨rfl,c⟩;replace c:=c.symm;subst c;go_wp2;go_ret;exact⟨congrArg (fun b=>N (A b)) (by rw[l.o,f.o,Bool.false_and]),n.o⟩
 have m:¬(k:Int)<(s.size:Int):=by omega
 go_wp2;go_ret;exact⟨congrArg (fun b=>N (A b)) (by rw[l.o,Ow s k (by omega)]),n.o⟩
theorem CZ (s w)(h:s.size<=maxLen):
  G K 110 #[U s] w fun e w'=>e=O (M (XT s))/\F0 w w':=by
 have c:XT s=(decide (6<=s.size)&&(decide (s.size<=19)&&Xv s 0)):=rfl;unfold maxLen at h
 have k:(s.size:Int)<=9223372036854775807:=by omega
 by_cases d:6<=s.size
 ·have i:(6:Int)<=(s.size:Int):=by omega
  by_cases a:s.size<=19
  ·have f:(s.size:Int)<=19:=by omega
   have l:H (∀W,G K 164 #[U s] W fun e w'=>e=O (M (Xv s 0))/\F0 W w'):=fun W=>LI s W (by omega)
   have g:H (XT s=Xv s 0):=by show _=_;rw[c];simp[d,a]
   clear h c d a;go_enter Tryz.func110,Tryz.ntmps110;go_wp2_with fail;refine(l.o _).mono ?_;rintro e w2 ⟨rfl,j⟩;have m:=Za j;clear j;go_wp2;go_ret;exact⟨congrArg (fun b=>N (A b)) g.o.symm,m.o⟩
  have f:¬(s.size:Int)<=19:=by omega
  have g:H (XT s=false):=by show _=_;rw[c];simp[a]
  clear h c d a;go_enter Tryz.func110,Tryz.ntmps110;go_wp2;go_ret;exact⟨congrArg (fun b=>N (A b)) g.o.symm,Fr.refl _ _⟩
 have i:¬(6:Int)<=(s.size:Int):=by omega
 have g:H (XT s=false):=by show _=_;rw[c];simp[d]
 clear h c d;go_enter Tryz.func110,Tryz.ntmps110;go_wp2;go_ret;exact⟨congrArg (fun b=>N (A b)) g.o.symm,Zt⟩
def UF (b:Nat)(p:WF)(a:Nat->Bool)(k:Nat)(done:Bool)(o:Nat×ByteArray×ByteArray):Obj:=
 L #[Z (I ⟨b,0,J⟩),U p.pan,V Y p.mcc,V Y p.am,V Y p.cur,M (a 0),M (a 1),M (a 2),M (a 3),M (a 4),M (a 5),V Y (k:Nat),M done,V Y (o.1:Nat),U o.2.1,U o.2.2] 127
theorem Do {w:C}{Q a k p b d o}(h:w.heap[Q]?=I (UF a p b k d o))(k'):(w.setCell ⟨Q,11,J⟩ (V Y (k':Nat))).heap[Q]?=I (UF a p b k' d o):=by
 have e:=heap_setCell_same w Q 11 _ _ (V Y (k':Nat)) h
 simpa[UF]using e
theorem vy {w:C}{Q a k p b d o}(h:w.heap[Q]?=I (UF a p b k d o)):(w.setCell ⟨Q,12,J⟩ (M true)).heap[Q]?=I (UF a p b k true o):=by
 have e:=heap_setCell_same w Q 12 _ _ (M true) h
 simpa[UF]using e
theorem vz {w:C}{Q b k p c d o}(h:w.heap[Q]?=I (UF b p c k d o))(a):(((w.setCell ⟨Q,13,J⟩ (V Y (a.1:Nat))).setCell ⟨Q,14,J⟩ (U a.2.1)).setCell ⟨Q,15,J⟩ (U a.2.2)).heap[Q]?=I (UF b p c k d a):=by
 have e:=heap_setCell_same _ Q 15 _ _ (U a.2.2) (heap_setCell_same _ Q 14 _ _ (U a.2.1) (heap_setCell_same w Q 13 _ _ (V Y (a.1:Nat)) h))
 simpa[UF]using e
def Lr (b:Nat)(a:Option Addr)(n c d e:Nat):z8:=y3 #[V z6 (b:Nat),E a n c,V Y (d:Nat),V Y (e:Nat)]
theorem Hd (w Q l k p m o v a n c x d b)(h:w.heap[Q]?=I (UF l p m k false o))(z:k<=100000)(A:d<=100000):
  G K 206 #[Z (I ⟨Q,0,J⟩),Lr v a n c x d,M b] w fun e w'=>e=O (.tuple #[])/\w'.heap[Q]?=I (UF l p m (if b then k+1 else k+d) false o)/\Fr (fun j=>j=Q) w w':=by
 obtain⟨q,y⟩:=VA w (L #[V z6 (v:Nat),E a n c,V Y (x:Nat),V Y (d:Nat)] 208);have B:=(iA.1 h).1;have f:=q.o.whole h
 have g:Q≠w.heap.size:=by omega
 unfold Lr
 cases b with
 |true=>
  go_enter Tryz.func206,Tryz.ntmps206;go_upto_region 2 with fail;generalize w.alloc _=W at*;have r:=Za f;have s:=Zc f 11;have t:=bF f 11;have u:=Zc y.o 3;obtain⟨X,i⟩:∃X,w.heap.size=X:=⟨_,rfl⟩;rw[i]at u g;rw[i];go_wp2
  go_end0
  refine⟨rfl,?_,(q.o.mono).trans ((Fr.refl (fun j=>j=Q) W).setCell (p:=⟨Q,11,J⟩) (z4 rfl) _)⟩;have e:=Do r.o (k+1)
  simpa using e
 |false=>
  go_enter Tryz.func206,Tryz.ntmps206;go_upto_region 3 with fail;generalize w.alloc _=W at*;have r:=Za f;have s:=Zc f 11;have t:=bF f 11;have u:=Zc y.o 3;obtain⟨X,i⟩:∃X,w.heap.size=X:=⟨_,rfl⟩;rw[i]at u g;rw[i]
  go_region
  go_wp2
  go_end0
  refine⟨rfl,?_,((q.o.mono).trans ((Fr.refl (fun j=>j=Q) W).setCell (p:=⟨Q,11,J⟩) (z4 rfl) _)).drew⟩;have e:=Do r.o (k+d);exact(by simpa using e:(W.setCell ⟨Q,11,J⟩ (V Y ((k:Int)+(d:Int)))).heap[Q]?=I (UF l p m (k+d) false o))
theorem Zu.fr {w w' S a l}(h:Zu w a l)(d:Fr S w w')(e:∀g,a=I ⟨g,0,J⟩->¬S g:=by simp):Zu w' a l:=by
 intro k x f;obtain⟨g,b,c⟩:=h k x f;exact⟨g,b,(d.cell (p:=⟨g,k,J⟩) (bL w _ c) (e g b)).trans c⟩
theorem zh (F x w Q q k p r o i a l c m f)(h:w.heap[Q]?=I (UF q p r k false o))(U:k<=100000)(hs:f<=100000)(hi:Zu w a l)(hl:l.length<=4000)(hF:F=165/\x=p.mcc\/F=167/\x=p.cur):
  G K F #[Z (I ⟨Q,0,J⟩),Lr i a l.length c m f] w fun e w'=>e=O (.tuple #[])/\w'.heap[Q]?=I (UF q p r (if Uo l x then k+1 else k+f) false o)/\Fr (fun j=>j=Q) w w':=by
 obtain⟨W,eW,z,P⟩:=sy w (L #[V z6 (i:Nat),E a l.length c,V Y (m:Nat),V Y (f:Nat)] 208);have hQ:=(iA.1 h).1;have A:=z.o.whole h
 have s:Q≠w.heap.size:=by omega
 have HI:=Za (hi.fr z.o);unfold Lr;obtain⟨k',t⟩:∃k',(if Uo l x=true then k+1 else k+f)=k':=⟨_,rfl⟩;have B:=Za t;rw[t];obtain⟨X,u⟩:∃X,H (w.heap.size=X):=⟨_,rfl⟩;rw[u.o]at P s
 have n:H (∀d,Fr (fun j=>j=Q) W d->(∃k',d.heap[Q]?=I (UF q p r k' false o))->d.cell? ⟨X,0,J⟩=I (V z6 (i:Nat))/\d.cell? ⟨X,1,J⟩=I (E a l.length c)/\d.cell? ⟨X,2,J⟩=I (V Y (m:Nat))/\d.cell? ⟨X,3,J⟩=I (V Y (f:Nat))/\d.cell? ⟨Q,2,J⟩=I (V Y p.mcc)/\d.cell? ⟨Q,4,J⟩=I (V Y p.cur)):=by
  intro d g ⟨k',R⟩;have y:=g.whole P.o (fun e=>s e.symm);exact⟨Zc y 0,Zc y 1,Zc y 2,Zc y 3,Zc R 2,Zc R 4⟩
 have HC:H (∀d,H (F0 W d)->G K 207 #[E a l.length c,V Y x] d fun e w'=>e=O (M (Uo l x))/\H (F0 W w')/\w'.cell? ⟨X,0,J⟩=I (V z6 (i:Nat))/\w'.cell? ⟨X,1,J⟩=I (E a l.length c)/\w'.cell? ⟨X,2,J⟩=I (V Y (m:Nat))/\w'.cell? ⟨X,3,J⟩=I (V Y (f:Nat))/\w'.cell? ⟨Q,2,J⟩=I (V Y p.mcc)/\w'.cell? ⟨Q,4,J⟩=I (V Y p.cur)):=by
  intro d g;refine(LG d a c l x (HI.o.fr g.o) hl).mono ?_;rintro e w' ⟨C,rfl⟩;exact⟨C,g,n.o _ (g.o.mono) ⟨k,g.o.whole A⟩⟩
 have HG:H (∀d,H (F0 W d)->G K 206 #[Z (I ⟨Q,0,J⟩),y3 #[V z6 (i:Nat),E a l.length c,V Y (m:Nat),V Y (f:Nat)],M (Uo l x)] d fun e w'=>e=O (.tuple #[])/\H (w'.heap[Q]?=I (UF q p r k' false o)/\Fr (fun j=>j=Q) W w')/\w'.cell? ⟨X,0,J⟩=I (V z6 (i:Nat))/\w'.cell? ⟨X,1,J⟩=I (E a l.length c)/\w'.cell? ⟨X,2,J⟩=I (V Y (m:Nat))/\w'.cell? ⟨X,3,J⟩=I (V Y (f:Nat))/\w'.cell? ⟨Q,2,J⟩=I (V Y p.mcc)/\w'.cell? ⟨Q,4,J⟩=I (V Y p.cur)):=by
  intro d g;refine(Hd d Q q k p r o i a l.length c m f (Uo l x) (g.o.whole A) U hs).mono ?_;rintro e w' ⟨C,D,h3⟩;rw[B.o]at D;have S:=(g.o.mono (T:=fun j=>j=Q)).trans h3;exact⟨C,⟨D,S⟩,n.o _ S ⟨_,D⟩⟩
 have hS:=n.o W Zt ⟨k,A⟩;have a0:H (F0 W W.drew):=Zt.drew;generalize Uo l x=b at*;rcases hF with⟨rfl,rfl⟩|⟨rfl,rfl⟩
 case' inl=>go_enter Tryz.func165,Tryz.ntmps165
 case' inr=>go_enter Tryz.func167,Tryz.ntmps167
 all_goals
  go_upto_region 1 with fail;rw[eW.o,u.o]
  go_region_held3 (fun d=>d.cell? ⟨X,0,J⟩=I (V z6 (i:Nat))/\d.cell? ⟨X,1,J⟩=I (E a l.length c)/\d.cell? ⟨X,2,J⟩=I (V Y (m:Nat))/\d.cell? ⟨X,3,J⟩=I (V Y (f:Nat))/\d.cell? ⟨Q,2,J⟩=I (V Y p.mcc)/\d.cell? ⟨Q,4,J⟩=I (V Y p.cur)) (first|assumption|go_keep) (first
   |(go_at_call 207;refine(HC.o _ (by assumption)).mono ?_;rintro e w7 ⟨rfl,b0,N⟩)
   |(go_at_call 206;refine(HG.o _ (by assumption)).mono ?_;rintro e w7 ⟨rfl,v,N⟩))
  go_wp2_with fail
  go_end0
  exact⟨rfl,v.o.1,(z.o.mono).trans v.o.2⟩
theorem Va {P l Q e S}(i){f d b a w}(hi:B4 l i=I f)(g:Region.noSelect l.toArray=true)(j:Region.free e l.toArray b i=true)(k:(Region.ready e l.toArray b).contains i=true)(m:∀c a w,Q (.panic c) (a.put f.dst undef) w->Q (.panic c) a w)(n:Region.wanted f (yielded l.toArray a.tmps)=false)(o:S w)(h:wpAnyH P e l.toArray Q S d (b.setIfInBounds i true) (a.put f.dst undef) w):wpAnyH P e l.toArray Q S (d+1) b a w:=
 wpAnyH_take ((Jd l i).trans hi) g j k m (z9 ⟨n,rfl⟩) o h
theorem LJ (w Q s k p u o n a d m c q i)(h:w.heap[Q]?=I (UF s p u k false o))(hk:k<=100000)(hs:i<=100000)(hi:Zu w a [d,m]):
  G K 166 #[Z (I ⟨Q,0,J⟩),Lr n a 2 c q i] w fun e w'=>e=O (.tuple #[])/\w'.heap[Q]?=I (UF s p u (if decide ((d:Int)<=p.am)&&decide (p.am<=(m:Int))then k+1 else k+i) false o)/\Fr (fun j=>j=Q) w w':=by
 obtain⟨F,HX⟩:=VA w (L #[V z6 (n:Nat),E a 2 c,V Y (q:Nat),V Y (i:Nat)] 208);have hQ:=(iA.1 h).1;have U:=F.o.whole h
 have v:Q≠w.heap.size:=by omega
 have x:=hi.fr F.o;obtain⟨g,rfl,l⟩:=x 0 d rfl;obtain⟨g',y,a0⟩:=x 1 m rfl;injection y with y;injection y with y _ _;subst y;unfold Lr;obtain⟨k',z⟩:∃k',(if(decide ((d:Int)<=p.am)&&decide (p.am<=(m:Int)))=true then k+1 else k+i)=k':=⟨_,rfl⟩;have b0:=Za z;rw[z];go_enter Tryz.func166,Tryz.ntmps166;go_upto_region 1 with fail;generalize w.alloc _=W at*;obtain⟨X,hX⟩:∃X,w.heap.size=X:=⟨_,rfl⟩;rw[hX]at HX v;rw[hX];have A:=bL W _ l
 have B:g≠Q:=by
  intro e;subst e;rw[show W.cell? ⟨g,0,J⟩=I (Z (I ⟨s,0,J⟩))from Zc U 0]at l
  cases l
 have C:H (∀b,Fr (fun j=>j=Q) W b->(∃k',b.heap[Q]?=I (UF s p u k' false o))->b.cell? ⟨X,0,J⟩=I (V z6 (n:Nat))/\b.cell? ⟨X,1,J⟩=I (E (I ⟨g,0,J⟩) 2 c)/\b.cell? ⟨X,2,J⟩=I (V Y (q:Nat))/\b.cell? ⟨X,3,J⟩=I (V Y (i:Nat))/\b.cell? ⟨Q,3,J⟩=I (V Y p.am)/\b.cell? ⟨g,0,J⟩=I (V Y (d:Nat))/\b.cell? ⟨g,1,J⟩=I (V Y (m:Nat))):=by
  intro b t ⟨k',hq⟩;have N:=t.whole HX.o (fun e=>v e.symm);exact⟨Zc N 0,Zc N 1,Zc N 2,Zc N 3,Zc hq 3,(t.cell (p:=⟨g,0,J⟩) A B).trans l,(t.cell (p:=⟨g,1,J⟩) A B).trans a0⟩
 have P:H (∀b,H (F0 W b)->G K 206 #[Z (I ⟨Q,0,J⟩),y3 #[V z6 (n:Nat),E (I ⟨g,0,J⟩) 2 c,V Y (q:Nat),V Y (i:Nat)],M (decide ((d:Int)<=p.am)&&decide (p.am<=(m:Int)))] b fun e w'=>e=O (.tuple #[])/\H (w'.heap[Q]?=I (UF s p u k' false o)/\Fr (fun j=>j=Q) W w')/\w'.cell? ⟨X,0,J⟩=I (V z6 (n:Nat))/\w'.cell? ⟨X,1,J⟩=I (E (I ⟨g,0,J⟩) 2 c)/\w'.cell? ⟨X,2,J⟩=I (V Y (q:Nat))/\w'.cell? ⟨X,3,J⟩=I (V Y (i:Nat))/\w'.cell? ⟨Q,3,J⟩=I (V Y p.am)/\w'.cell? ⟨g,0,J⟩=I (V Y (d:Nat))/\w'.cell? ⟨g,1,J⟩=I (V Y (m:Nat))):=by
  intro b t;refine(Hd b Q s k p u o n (I ⟨g,0,J⟩) 2 c q i _ (t.o.whole U) hk hs).mono ?_;rintro e w' ⟨he,h2,h3⟩;rw[b0.o]at h2;have h4:=(t.o.mono (T:=fun j=>j=Q)).trans h3;exact⟨he,⟨h2,h4⟩,C.o _ h4 ⟨_,h2⟩⟩
 have hS:=C.o W Zt ⟨k,U⟩;have D:H (F0 W W.drew):=Zt.drew;refine wp_region_held_drew (S:=fun b=>b.cell? ⟨X,0,J⟩=I (V z6 (n:Nat))/\b.cell? ⟨X,1,J⟩=I (E (I ⟨g,0,J⟩) 2 c)/\b.cell? ⟨X,2,J⟩=I (V Y (q:Nat))/\b.cell? ⟨X,3,J⟩=I (V Y (i:Nat))/\b.cell? ⟨Q,3,J⟩=I (V Y p.am)/\b.cell? ⟨g,0,J⟩=I (V Y (d:Nat))/\b.cell? ⟨g,1,J⟩=I (V Y (m:Nat))) (by kernel_rfl) hS (fun R=>?_)
 iterate 11 (refine YP 0 R ?_;try go_frame)
 by_cases h0:(d:Int)<=p.am
 ·rw[show decide ((d:Int)<=p.am)=true from decide_eq_true h0,Bool.true_and]at P
  iterate 13 (refine YP 0 R ?_;try go_frame)
  refine Vy 24 (fun K2 hK=>?_);go_simp;refine(P.o _ D).mono ?_;rintro e w7 ⟨rfl,f,r⟩;refine hK.out _ _ r (fun _=>?_)
  try go_frame
  refine wpAnyH_done (by kernel_rfl) ?_ _;go_wp2_with fail
  go_end0
  exact⟨rfl,f.o.1,(F.o.mono).trans f.o.2⟩
 rw[show decide ((d:Int)<=p.am)=false from decide_eq_false h0,Bool.false_and]at P
 iterate 13 ((first|refine YP 0 R ?_|refine wP 0 R ?_);try go_frame)
 refine Vy 24 (fun K2 hK=>?_);go_simp;refine(P.o _ D).mono ?_;rintro e w7 ⟨rfl,f,r⟩;refine hK.out _ _ r (fun _=>?_)
 try go_frame
 refine wpAnyH_done (by kernel_rfl) ?_ _;go_wp2_with fail
 go_end0
 exact⟨rfl,f.o.1,(F.o.mono).trans f.o.2⟩
theorem Pb (w Q n k p q o d b rt)(h:w.heap[Q]?=I (UF n p q k false o))(r:b.size<=3000)(s:rt.size<=3000):
  G K 208 #[Z (I ⟨Q,0,J⟩),V Y (d:Nat),U b,U rt] w fun e w'=>e=O (.tuple #[])/\w'.heap[Q]?=I (UF n p q k true (d,b,rt))/\Fr (fun j=>j=Q) w w':=by
 have t:=Zc h 12;have u:=bF h 12
 have f:H (∀W,G K 96 #[U b] W fun e w'=>e=O (U b)/\F0 W w'):=fun W=>VD b W r
 have g:H (∀W,G K 96 #[U rt] W fun e w'=>e=O (U rt)/\F0 W w'):=fun W=>VD rt W s
 have v:=Za (vy h);have x:H (Fr (fun j=>j=Q) w (w.setCell ⟨Q,12,J⟩ (M true))):=(Fr.refl (fun j=>j=Q) w).setCell (p:=⟨Q,12,J⟩) (z4 rfl) _;go_enter Tryz.func208,Tryz.ntmps208;go_wp2_with fail;generalize w.setCell ⟨Q,12,J⟩ (M true)=W at*;refine(f.o _).mono ?_;rintro e E ⟨rfl,i⟩;have l:=Za i;go_wp2_with fail;refine(g.o _).mono ?_;rintro e w2 ⟨rfl,m⟩;have c:=Za (l.o.trans m);have a:=Za (c.o.whole v.o);have y:=Zc a.o 13;have z:=Zc a.o 14;have A:=Zc a.o 15;have B:=bF a.o 13;have C:=bF a.o 14;have D:=bF a.o 15;go_wp2_with fail
 go_end0
 refine⟨rfl,vz a.o (d,b,rt),?_⟩;exact(x.o.trans (c.o.mono)).trans ((((Fr.refl (fun j=>j=Q) w2).setCell (p:=⟨Q,13,J⟩) (z4 rfl) _).setCell (p:=⟨Q,14,J⟩) (z4 rfl) _).setCell (p:=⟨Q,15,J⟩) (z4 rfl) _)
theorem Ms (w Q b k p d o f a n c g i)(h:w.heap[Q]?=I (UF b p d k false o)):
  G K 171 #[Z (I ⟨Q,0,J⟩),Lr f a n c g i] w fun e w'=>e=O (.tuple #[])/\w'.heap[Q]?=I (UF b p d k true (2,D,D))/\Fr (fun j=>j=Q) w w':=by
 have l:=(VA w (L #[V z6 (f:Nat),E a n c,V Y (g:Nat),V Y (i:Nat)] 208)).1;have m:=Za (Pb _ Q b k p d o 2 D D (l.o.whole h) (by decide) (by decide));unfold Lr;go_enter Tryz.func171,Tryz.ntmps171;go_wp2_with fail;refine m.o.mono ?_;rintro e u ⟨rfl,q,r⟩;have s:=Za q;have t:=Za ((l.o.mono).trans r);go_wp2_with fail
 go_end0
 exact⟨rfl,s.o,t.o⟩
structure OT (w:C)(TT Q:Nat)(ru:Nat)(nm:ByteArray)(g m nc:Nat):Prop where
 c1:w.cell? ⟨TT,1,J⟩=I (E (I ⟨g,0,J⟩) m nc)
 lt:ru<m
 ce:w.cell? ⟨g,ru,J⟩=I (U nm)
 sz:nm.size<=3000
 nt:TT≠Q
 ng:g≠Q
theorem OT.fr {w w' a Q b c g m d}(h:OT w a Q b c g m d)(e:Fr (fun j=>j=Q) w w'):OT w' a Q b c g m d:=
 ⟨(e.cell (p:=⟨a,1,J⟩) (bL w _ h.c1) h.nt).trans h.c1,h.lt,(e.cell (p:=⟨g,b,J⟩) (bL w _ h.ce) h.ng).trans h.ce,h.sz,h.nt,h.ng⟩
theorem JI (w:C)(Q f k:Nat)(p:WF)(r:Nat->Bool)(o:Nat×ByteArray×ByteArray)(z:Nat)(a:Option Addr)(n c i A:Nat)(l:ByteArray)(g m v:Nat)(h:w.heap[Q]?=I (UF f p r k false o))(B:OT w f Q i l g m v):
  G K 168 #[Z (I ⟨Q,0,J⟩),Lr z a n c i A] w fun e w'=>e=O (.tuple #[])/\w'.heap[Q]?=I (UF f p r k true (3,l,D))/\Fr (fun j=>j=Q) w w':=by
 obtain⟨x,F⟩:=VA w (L #[V z6 (z:Nat),E a n c,V Y (i:Nat),V Y (A:Nat)] 208);have hQ:=(iA.1 h).1;have M:=x.o.whole h
 have s:Q≠w.heap.size:=by omega
 have y:=Za (B.fr (x.o.mono))
 have a0:(i:Int)<(m:Int):=by have:=B.lt;omega
 unfold Lr;go_enter Tryz.func168,Tryz.ntmps168;go_upto_region 1 with fail;generalize w.alloc _=W at*;obtain⟨X,N⟩:∃X,w.heap.size=X:=⟨_,rfl⟩;rw[N]at F s;rw[N]
 have t:H (∀b,Fr (fun j=>j=Q) W b->(∃d P,b.heap[Q]?=I (UF f p r k d P))->b.cell? ⟨X,2,J⟩=I (V Y (i:Nat))/\b.cell? ⟨Q,0,J⟩=I (Z (I ⟨f,0,J⟩))/\b.cell? ⟨f,1,J⟩=I (E (I ⟨g,0,J⟩) m v)/\b.cell? ⟨g,i,J⟩=I (U l)):=by
  intro b q ⟨d,P,hq⟩;have hx:=q.whole F.o (fun e=>s e.symm);exact⟨Zc hx 2,Zc hq 0,(y.o.fr q).c1,(y.o.fr q).ce⟩
 have HG:H (∀b,H (F0 W b)->G K 208 #[Z (I ⟨Q,0,J⟩),V Y 3,U l,U ⟨#[]⟩] b fun e w'=>e=O (.tuple #[])/\H (w'.heap[Q]?=I (UF f p r k true (3,l,D))/\Fr (fun j=>j=Q) W w')/\w'.cell? ⟨X,2,J⟩=I (V Y (i:Nat))/\w'.cell? ⟨Q,0,J⟩=I (Z (I ⟨f,0,J⟩))/\w'.cell? ⟨f,1,J⟩=I (E (I ⟨g,0,J⟩) m v)/\w'.cell? ⟨g,i,J⟩=I (U l)):=by
  intro b q;refine(Pb b Q f k p r o 3 l D (q.o.whole M) y.o.sz (by decide)).mono ?_;rintro e w' ⟨he,R,h3⟩;have S:=(q.o.mono (T:=fun j=>j=Q)).trans h3;exact⟨he,⟨R,S⟩,t.o _ S ⟨_,_,R⟩⟩
 have hS:=t.o W Zt ⟨_,_,M⟩;have b0:H (F0 W W.drew):=Zt.drew
 go_region_held3 (fun b=>b.cell? ⟨X,2,J⟩=I (V Y (i:Nat))/\b.cell? ⟨Q,0,J⟩=I (Z (I ⟨f,0,J⟩))/\b.cell? ⟨f,1,J⟩=I (E (I ⟨g,0,J⟩) m v)/\b.cell? ⟨g,i,J⟩=I (U l)) (first|assumption|go_keep) (first
  |(go_at_call 208;refine(HG.o _ (by assumption)).mono ?_;rintro e w7 ⟨rfl,u,c0⟩))
 go_wp2_with fail
 go_end0
 exact⟨rfl,u.o.1,(x.o.mono).trans u.o.2⟩
theorem Ox (w:C)(Q f k:Nat)(p:WF)(r:Nat->Bool)(o:Nat×ByteArray×ByteArray)(z:Nat)(a:Option Addr)(n c i A:Nat)(l:ByteArray)(g m v:Nat)(h:w.heap[Q]?=I (UF f p r k false o))(B:OT w f Q i l g m v):
  G K 210 #[Z (I ⟨Q,0,J⟩),Lr z a n c i A] w fun e w'=>e=O (.tuple #[])/\w'.heap[Q]?=I (UF f p r k true (4,l,D))/\Fr (fun j=>j=Q) w w':=by
 obtain⟨x,F⟩:=VA w (L #[V z6 (z:Nat),E a n c,V Y (i:Nat),V Y (A:Nat)] 208);have hQ:=(iA.1 h).1;have M:=x.o.whole h
 have s:Q≠w.heap.size:=by omega
 have y:=Za (B.fr (x.o.mono))
 have a0:(i:Int)<(m:Int):=by have:=B.lt;omega
 unfold Lr;go_enter Tryz.func210,Tryz.ntmps210;go_upto_region 1 with fail;generalize w.alloc _=W at*;obtain⟨X,N⟩:∃X,w.heap.size=X:=⟨_,rfl⟩;rw[N]at F s;rw[N]
 have t:H (∀b,Fr (fun j=>j=Q) W b->(∃d P,b.heap[Q]?=I (UF f p r k d P))->b.cell? ⟨X,2,J⟩=I (V Y (i:Nat))/\b.cell? ⟨Q,0,J⟩=I (Z (I ⟨f,0,J⟩))/\b.cell? ⟨f,1,J⟩=I (E (I ⟨g,0,J⟩) m v)/\b.cell? ⟨g,i,J⟩=I (U l)):=by
  intro b q ⟨d,P,hq⟩;have hx:=q.whole F.o (fun e=>s e.symm);exact⟨Zc hx 2,Zc hq 0,(y.o.fr q).c1,(y.o.fr q).ce⟩
 have HG:H (∀b,H (F0 W b)->G K 208 #[Z (I ⟨Q,0,J⟩),V Y 4,U l,U ⟨#[]⟩] b fun e w'=>e=O (.tuple #[])/\H (w'.heap[Q]?=I (UF f p r k true (4,l,D))/\Fr (fun j=>j=Q) W w')/\w'.cell? ⟨X,2,J⟩=I (V Y (i:Nat))/\w'.cell? ⟨Q,0,J⟩=I (Z (I ⟨f,0,J⟩))/\w'.cell? ⟨f,1,J⟩=I (E (I ⟨g,0,J⟩) m v)/\w'.cell? ⟨g,i,J⟩=I (U l)):=by
  intro b q;refine(Pb b Q f k p r o 4 l D (q.o.whole M) y.o.sz (by decide)).mono ?_;rintro e w' ⟨he,R,h3⟩;have S:=(q.o.mono (T:=fun j=>j=Q)).trans h3;exact⟨he,⟨R,S⟩,t.o _ S ⟨_,_,R⟩⟩
 have hS:=t.o W Zt ⟨_,_,M⟩;have b0:H (F0 W W.drew):=Zt.drew
 go_region_held3 (fun b=>b.cell? ⟨X,2,J⟩=I (V Y (i:Nat))/\b.cell? ⟨Q,0,J⟩=I (Z (I ⟨f,0,J⟩))/\b.cell? ⟨f,1,J⟩=I (E (I ⟨g,0,J⟩) m v)/\b.cell? ⟨g,i,J⟩=I (U l)) (first|assumption|go_keep) (first
  |(go_at_call 208;refine(HG.o _ (by assumption)).mono ?_;rintro e w7 ⟨rfl,u,c0⟩))
 go_wp2_with fail
 go_end0
 exact⟨rfl,u.o.1,(x.o.mono).trans u.o.2⟩
structure PS (w:C)(TT Q:Nat)(rts:List Zf)(ra:Option Addr)(rc:Nat):Prop where
 c0:w.cell? ⟨TT,0,J⟩=I (E ra rts.length rc)
 nt:TT≠Q
 rt:∀i t,rts[i]?=I t->∃g,ra=I ⟨g,0,J⟩/\g≠Q/\w.cell? ⟨g,i*3,J⟩=I (U t.name)/\w.cell? ⟨g,i*3+1,J⟩=I (V Y (t.base:Nat))/\w.cell? ⟨g,i*3+2,J⟩=I (V Y (t.rate:Nat))
 sz:∀t,t∈rts->LB t
theorem PS.fr {w w' c Q rts e f}(h:PS w c Q rts e f)(a:Fr (fun j=>j=Q) w w'):PS w' c Q rts e f:=by
 refine⟨(a.cell (p:=⟨c,0,J⟩) (bL w _ h.c0) h.nt).trans h.c0,h.nt,fun i t hi=>?_,h.sz⟩;obtain⟨g,l,b,k,m,n⟩:=h.rt i t hi;have d:=bL w _ k;exact⟨g,l,b,(a.cell (p:=⟨g,i*3,J⟩) d b).trans k,(a.cell (p:=⟨g,i*3+1,J⟩) d b).trans m,(a.cell (p:=⟨g,i*3+2,J⟩) d b).trans n⟩
theorem Ku (w Q f k p u o so a n c i sk l g m B rts ra C x t)(h:w.heap[Q]?=I (UF f p u k false o))(hn:OT w f Q i l g m B)(F:PS w f Q rts ra C)(r:rts[x]?=I t):
  G K 209 #[Z (I ⟨Q,0,J⟩),Lr so a n c i sk,V Y (x:Nat)] w fun e w'=>e=O (.tuple #[])/\w'.heap[Q]?=I (UF f p u k true (0,l,t.name))/\Fr (fun j=>j=Q) w w':=by
 obtain⟨D,HX⟩:=VA w (L #[V z6 (so:Nat),E a n c,V Y (i:Nat),V Y (sk:Nat)] 208);have hQ:=(iA.1 h).1;have H1:=D.o.whole h
 have v:Q≠w.heap.size:=by omega
 have M:=Za (hn.fr (D.o.mono));have HR:=Za (F.fr (D.o.mono))
 have b0:(i:Int)<(m:Int):=by have:=hn.lt;omega
 have N:(x:Int)<(rts.length:Int):=by have:=(iG.1 r).1;omega
 have P:=Za r;have R:=Za ((F.sz t (mG r)).1);obtain⟨s,S,_⟩:=F.rt x t r;subst S;unfold Lr;go_enter Tryz.func209,Tryz.ntmps209;go_upto_region 1 with fail;generalize w.alloc _=W at*;obtain⟨X,hX⟩:∃X,w.heap.size=X:=⟨_,rfl⟩;rw[hX]at HX v;rw[hX]
 have y:H (∀b,Fr (fun j=>j=Q) W b->(∃d o',b.heap[Q]?=I (UF f p u k d o'))->b.cell? ⟨X,2,J⟩=I (V Y (i:Nat))/\b.cell? ⟨Q,0,J⟩=I (Z (I ⟨f,0,J⟩))/\b.cell? ⟨f,1,J⟩=I (E (I ⟨g,0,J⟩) m B)/\b.cell? ⟨g,i,J⟩=I (U l)/\b.cell? ⟨f,0,J⟩=I (E (I ⟨s,0,J⟩) rts.length C)/\b.cell? ⟨s,x*3,J⟩=I (U t.name)):=by
  intro b q ⟨d,o',hq⟩;have r:=q.whole HX.o (fun e=>v e.symm);obtain⟨d0,z,_,e3,_,_⟩:=(HR.o.fr q).rt x t P.o;injection z with z;injection z with z _ _;subst z;exact⟨Zc r 2,Zc hq 0,(M.o.fr q).c1,(M.o.fr q).ce,(HR.o.fr q).c0,e3⟩
 have HG:H (∀b,H (F0 W b)->G K 208 #[Z (I ⟨Q,0,J⟩),V Y 0,U l,U t.name] b fun e w'=>e=O (.tuple #[])/\H (w'.heap[Q]?=I (UF f p u k true (0,l,t.name))/\Fr (fun j=>j=Q) W w')/\w'.cell? ⟨X,2,J⟩=I (V Y (i:Nat))/\w'.cell? ⟨Q,0,J⟩=I (Z (I ⟨f,0,J⟩))/\w'.cell? ⟨f,1,J⟩=I (E (I ⟨g,0,J⟩) m B)/\w'.cell? ⟨g,i,J⟩=I (U l)/\w'.cell? ⟨f,0,J⟩=I (E (I ⟨s,0,J⟩) rts.length C)/\w'.cell? ⟨s,x*3,J⟩=I (U t.name)):=by
  intro b q;refine(Pb b Q f k p u o 0 l t.name (q.o.whole H1) M.o.sz R.o).mono ?_;rintro e w' ⟨he,h2,h3⟩;have h4:=(q.o.mono (T:=fun j=>j=Q)).trans h3;exact⟨he,⟨h2,h4⟩,y.o _ h4 ⟨_,_,h2⟩⟩
 have hS:=y.o W Zt ⟨_,_,H1⟩;have e0:H (F0 W W.drew):=Zt.drew;obtain⟨rn,a0⟩:∃rn,rts.length=rn:=⟨_,rfl⟩;rw[a0]at hS HG N
 go_region_held3 (fun b=>b.cell? ⟨X,2,J⟩=I (V Y (i:Nat))/\b.cell? ⟨Q,0,J⟩=I (Z (I ⟨f,0,J⟩))/\b.cell? ⟨f,1,J⟩=I (E (I ⟨g,0,J⟩) m B)/\b.cell? ⟨g,i,J⟩=I (U l)/\b.cell? ⟨f,0,J⟩=I (E (I ⟨s,0,J⟩) rn C)/\b.cell? ⟨s,x*3,J⟩=I (U t.name)) (first|assumption|go_keep) (first
  |(go_at_call 208;refine(HG.o _ (by assumption)).mono ?_;rintro e w7 ⟨rfl,A,f0⟩))
 go_wp2_with fail
 go_end0
 exact⟨rfl,A.o.1,(D.o.mono).trans A.o.2⟩
theorem Dp (w Q j k p y o rts z A x t)(h:w.heap[Q]?=I (UF j p y k false o))(l:PS w j Q rts z A)(i:rts[x]?=I t)(r:0<=p.am)(B:p.am<=1000000000):
  G K 211 #[Z (I ⟨Q,0,J⟩),V Y (x:Nat)] w fun e w'=>e=O (V Y (XR rts p.am x))/\F0 w w':=by
 have m:H (XR rts p.am x=(t.base:Int)+(t.rate:Int)*p.am):=by show _=_;unfold XR;rw[i]
 have f:=l.sz t (mG i)
 have C:(t.base:Int)<1000000000:=by have:=f.2.1;omega
 have D:(t.rate:Int)<1000000000:=by have:=f.2.2;omega
 have E:(0:Int)<=(t.rate:Int)*p.am:=Int.mul_nonneg (by omega) r
 have F:(t.rate:Int)*p.am<=1000000000000000000:=by
  have:=Int.mul_le_mul (a:=(t.rate:Int)) (b:=p.am) (c:=1000000000) (d:=1000000000) (by omega) B r (by omega);omega
 have n:(x:Int)<(rts.length:Int):=by have:=(iG.1 i).1;omega
 have M:=l.c0;have S:w.cell? ⟨Q,0,J⟩=I (Z (I ⟨j,0,J⟩)):=Zc h 0;have N:w.cell? ⟨Q,3,J⟩=I (V Y p.am):=Zc h 3;have P:=(iA.1 h).1;obtain⟨g,rfl,_,T,e4,e5⟩:=l.rt x t i;obtain⟨s,q⟩:∃s,rts.length=s:=⟨_,rfl⟩;rw[q]at M n;have u:=(VA w (L #[U t.name,V Y (t.base:Nat),V Y (t.rate:Nat)] 148)).1;have v:=aN w (L #[U t.name,V Y (t.base:Nat),V Y (t.rate:Nat)] 148);have x1:=Zc v 1;have x2:=Zc v 2;have R:=(u.o.cell (p:=⟨Q,3,J⟩) P).trans N;rw[m.o];go_enter Tryz.func211,Tryz.ntmps211;go_upto_region 2 with fail;generalize w.alloc _=W at*;generalize w.heap.size=X at*
 go_region
 go_wp2_with fail;go_ret;exact⟨rfl,u.o.drew⟩
def Mt (rts:List Zf)(a:ByteArray):Option Nat->Nat×ByteArray×ByteArray
 |none=>(4,a,D)
 |some x=>(0,a,Mp rts x)
theorem Dq {w:C}{Q b k p a d o}(h:w.heap[Q]?=I (UF b p a k d o))(x)(c:x<6):w.cell? ⟨Q,5+x,J⟩=I (M (a x)):=by
 have:x=0\/x=1\/x=2\/x=3\/x=4\/x=5:=by omega
 rcases this with rfl|rfl|rfl|rfl|rfl|rfl
 ·exact Zc h 5
 ·exact Zc h 6
 ·exact Zc h 7
 ·exact Zc h 8
 ·exact Zc h 9
 exact Zc h 10
theorem LK (w:C)(Q s k:Nat)(p:WF)(d:Nat->Bool)(o:Nat×ByteArray×ByteArray)(A:Nat)(a:Option Addr)(l:List Nat)(c v B:Nat)(f:ByteArray)(g m U:Nat)(rts:List Zf)(ra:Option Addr)(rc:Nat)(h:w.heap[Q]?=I (UF s p d k false o))(hn:OT w s Q v f g m U)(hr:PS w s Q rts ra rc)(hi:Zu w a l)(hl:l.length<=4000)(y:∀x,x∈l->x<rts.length)(h6:rts.length<=6)(a0:0<=p.am/\p.am<=1000000000):
  G K 169 #[Z (I ⟨Q,0,J⟩),Lr A a l.length c v B] w fun e w'=>e=O (.tuple #[])/\w'.heap[Q]?=I (UF s p d k true (Mt rts f (YL false (XR rts p.am) d l J)))/\Fr (fun j=>j=Q) w w':=by
 obtain⟨u,z⟩:=VA w (L #[V z6 (A:Nat),E a l.length c,V Y (v:Nat),V Y (B:Nat)] 208);have T:=Za (u.o.whole h);have HI:=Za (hi.fr u.o);have HN:=Za (hn.fr (u.o.mono));have HR:=Za (hr.fr (u.o.mono))
 have b0:H (∀x,x∈l->x<rts.length/\x<6):=fun x h=>⟨y x h,by have:=y x h;omega⟩
 have g0:=Za a0;obtain⟨n,F⟩:∃n,l.length=n:=⟨_,rfl⟩;have M:=Za F;rw[F]at u z T HI HN HR hl ⊢;obtain⟨b,r⟩:∃b,YL false (XR rts p.am) d l J=b:=⟨_,rfl⟩;have N:=Za r;rw[r];unfold Lr;go_enter Tryz.func169,Tryz.ntmps169;go_upto_region 1 with fail;generalize w.alloc _=W at*;obtain⟨X,hX⟩:∃X,w.heap.size=X:=⟨_,rfl⟩;rw[hX]at z;rw[hX];have x0:=Zc z.o 0;have x1:=Zc z.o 1;have x2:=Zc z.o 2;have x3:=Zc z.o 3;go_wp2_with fail
 go_loop [5,9] (fun _ i=>∃j:Nat,j<=n/\i=V Y j/\H (YL false (XR rts p.am) d (l.drop j) J=b)) (fun _ i=>n-(intOf i).toNat)
 case atStart=>exact⟨0,z5 _,rfl,N⟩
 obtain⟨j,hj,rfl,HB⟩:=hrel;by_cases h0:j<n
 ·have c0:(j:Int)<(n:Int):=by omega
  obtain⟨x,y⟩:∃x,l[j]?=I x:=⟨_,gE (by have:=M.o;omega)⟩;obtain⟨ga,rfl,hc⟩:=HI.o j x y
  have hd:l.drop j=x::l.drop (j+1):=by
   obtain⟨P,R⟩:=iG.1 y;rw[dC P,R]
  rw[hd]at HB;obtain⟨d0,e0⟩:=b0.o x (mG y)
  have f0:(x:Int)<6:=by omega
  have S:=Dq T.o x e0;have q:H (YL false (XR rts p.am) d (l.drop (j+1)) (if d x then J else I x)=b):=HB.o
  cases hq:d x with
  |true=>
   rw[hq]at S q;go_wp2_with fail;exact⟨⟨j+1,by omega,by go_num,q⟩,by simp[intOf];omega⟩
  |false=>
   rw[hq]at S q;obtain⟨t,ht⟩:∃t,rts[x]?=I t:=⟨_,gE d0⟩;have HE:H (G K 209 #[Z (I ⟨Q,0,J⟩),y3 #[V z6 (A:Nat),E (I ⟨ga,0,J⟩) n c,V Y (v:Nat),V Y (B:Nat)],V Y (x:Nat)] W fun e w'=>e=O (.tuple #[])/\w'.heap[Q]?=I (UF s p d k true (0,f,t.name))/\Fr (fun j=>j=Q) W w'):=Ku W Q s k p d o A _ n c v B f g m U rts ra rc x t T.o HN.o HR.o ht
   have HO:H (Mt rts f b=(0,f,t.name)):=by
    show _=_
    have e:=q.o;rw[if_neg (by simp),Mo]at e;rw[<-e];simp only[Mt,Mp,ht]
   go_wp2_with fail;refine HE.o.mono ?_;rintro e w7 ⟨rfl,P,R⟩;have H1:=Za P;have H2:=Za ((u.o.mono).trans R);go_wp2_with fail
   (try simp only[Exit.inBlock,Exit.then])
   refine bodyPost_ret (results_none rfl _ _ _) rfl ?_;exact⟨rfl,by rw[HO.o];exact H1.o,H2.o⟩
 have c0:¬(j:Int)<(n:Int):=by omega
 have HE:=Za (Ox W Q s k p d o A a n c v B f g m U T.o HN.o)
 have HO:H (Mt rts f b=(4,f,D)):=by
  show _=_
  have e:=HB.o;rw[dL (by have:=M.o;omega)]at e;rw[<-e];rfl
 go_wp2_with fail;refine HE.o.mono ?_;rintro e w7 ⟨rfl,P,R⟩;have H1:=Za P;have H2:=Za ((u.o.mono).trans R);go_wp2_with fail
 go_end0
 exact⟨rfl,by rw[HO.o];exact H1.o,H2.o⟩
def V0:Option Nat->Int
 |none=> -1
 |some x=>(x:Nat)
theorem PT (w:C)(Q B k:Nat)(p:WF)(q:Nat->Bool)(o:Nat×ByteArray×ByteArray)(so:Nat)(a:Option Addr)(l:List Nat)(c T sk:Nat)(R:ByteArray)(g m nc:Nat)(rts:List Zf)(ra:Option Addr)(rc:Nat)(h:w.heap[Q]?=I (UF B p q k false o))(hn:OT w B Q T R g m nc)(hr:PS w B Q rts ra rc)(hi:Zu w a l)(hl:l.length<=4000)(S:∀x,x∈l->x<rts.length)(h6:rts.length<=6)(l0:0<=p.am/\p.am<=1000000000):
  G K 170 #[Z (I ⟨Q,0,J⟩),Lr so a l.length c T sk] w fun e w'=>e=O (.tuple #[])/\w'.heap[Q]?=I (UF B p q k true (Mt rts R (YL true (XR rts p.am) q l J)))/\Fr (fun j=>j=Q) w w':=by
 obtain⟨F,HX⟩:=VA w (L #[V z6 (so:Nat),E a l.length c,V Y (T:Nat),V Y (sk:Nat)] 208);have HH:=Za (F.o.whole h);have HI:=Za (hi.fr F.o);have HN:=Za (hn.fr (F.o.mono));have HR:=Za (hr.fr (F.o.mono))
 have m0:H (∀x,x∈l->x<rts.length/\x<6):=fun x h=>⟨S x h,by have:=S x h;omega⟩
 have v:=Za l0;obtain⟨n,U⟩:∃n,l.length=n:=⟨_,rfl⟩;have a0:=Za U;rw[U]at F HX HH HI HN HR hl ⊢;obtain⟨f,D⟩:∃f,YL true (XR rts p.am) q l J=f:=⟨_,rfl⟩;have b0:=Za D;rw[D];unfold Lr;go_enter Tryz.func170,Tryz.ntmps170;go_upto_region 1 with fail;generalize w.alloc _=W at*;obtain⟨X,hX⟩:∃X,w.heap.size=X:=⟨_,rfl⟩;rw[hX]at HX;rw[hX];have x1:=Zc HX.o 1;go_wp2_with fail
 go_loopg [4,6,10] n (fun mm bb _ i wr=>∃j b,j<=n/\mm=n-j/\bb=V Y (V0 b)/\i=V Y (j:Nat)/\H (YL true (XR rts p.am) q (l.drop j) b=f)/\H (F0 W wr)/\H (∀y,b=I y->y<rts.length/\y<6))
 case atStart=>exact⟨0,J,z5 _,rfl,rfl,rfl,b0,Zt,fun y h=>by cases h⟩
 obtain⟨j,b,hj,rfl,rfl,rfl,HB,d,z⟩:=hrel;have s:=Za (d.o.whole HH.o);have c0:=Za (HN.o.fr (d.o.mono));have M:=Za (HR.o.fr (d.o.mono));have A:=Za (d.o.whole HX.o);by_cases y0:j<n
 ·have n0:(j:Int)<(n:Int):=by omega
  obtain⟨x,S⟩:∃x,l[j]?=I x:=⟨_,gE (by have:=a0.o;omega)⟩;obtain⟨ga,rfl,hc⟩:=(HI.o.fr d.o) j x S
  have hd:l.drop j=x::l.drop (j+1):=by
   obtain⟨h1,h2⟩:=iG.1 S;rw[dC h1,h2]
  rw[hd]at HB;obtain⟨d0,e0⟩:=m0.o x (mG S)
  have w0:(x:Int)<6:=by omega
  have f0:=Dq s.o x e0;have g0:H (x<rts.length/\x<6):=⟨d0,e0⟩
  cases hq:q x with
  |true=>
   have r:H (YL true (XR rts p.am) q (l.drop (j+1)) b=f):=by have e:=HB.o;unfold YL at e;rw[hq,if_pos rfl]at e;exact e
   rw[hq]at f0;obtain⟨bi,h0⟩:∃bi,V0 b=bi:=⟨_,rfl⟩;have o0:=Za h0;rw[h0];go_wp2_with fail;go_roundg (n-(j+1))
   case measure=>omega
   exact⟨j+1,b,by omega,rfl,by rw[o0.o],by go_num,r,d,z⟩
  |false=>
   rw[hq]at f0
   cases b with
   |none=>
    have r:H (YL true (XR rts p.am) q (l.drop (j+1)) (I x)=f):=by have e:=HB.o;unfold YL at e;rw[hq,if_neg (by simp)]at e;exact e
    unfold V0;go_wp2_with fail;go_roundg (n-(j+1))
    case measure=>omega
    exact⟨j+1,I x,by omega,rfl,rfl,by go_num,r,d,fun y h=>by injection h with h;subst h;exact g0.o⟩
   |some y=>
    have r:H (YL true (XR rts p.am) q (l.drop (j+1)) (if decide (XR rts p.am x<XR rts p.am y)then I x else I y)=f):=by have e:=HB.o;unfold YL at e;rw[hq,if_neg (by simp)]at e;exact e
    obtain⟨N,_⟩:=z.o y rfl;obtain⟨t,ht⟩:∃t,rts[x]?=I t:=⟨_,gE d0⟩;obtain⟨t2,p0⟩:∃t,rts[y]?=I t:=⟨_,gE N⟩
    have q0:H (∀u,F0 wr u->G K 211 #[Z (I ⟨Q,0,J⟩),V Y (x:Nat)] u fun e w'=>e=O (V Y (XR rts p.am x))/\F0 u w'):=fun u hf=>Dp u Q B k p q o rts ra rc x t (hf.whole s.o) (M.o.fr (hf.mono)) ht v.o.1 v.o.2
    have r0:H (∀u,F0 wr u->G K 211 #[Z (I ⟨Q,0,J⟩),V Y (y:Nat)] u fun e w'=>e=O (V Y (XR rts p.am y))/\F0 u w'):=fun u hf=>Dp u Q B k p q o rts ra rc y t2 (hf.whole s.o) (M.o.fr (hf.mono)) p0 v.o.1 v.o.2
    unfold V0
    have s0:¬(y:Int)<0:=by omega
    generalize XR rts p.am x=fx at*;generalize XR rts p.am y=fy at*;go_wp2_with fail;refine(q0.o _ Zt).mono ?_;rintro e w5 ⟨rfl,t0⟩;have i0:=Za t0;go_wp2_with fail;refine(r0.o _ i0.o).mono ?_;rintro e w6 ⟨rfl,v0⟩;have j0:=Za ((d.o.trans i0.o).trans v0);by_cases k0:fx<fy
    ·have P:H (YL true (XR rts p.am) q (l.drop (j+1)) (I x)=f):=by have e:=r.o;rw[if_pos (by simpa using k0)]at e;exact e
     go_wp2_with fail;go_roundg (n-(j+1))
     case measure=>omega
     exact⟨j+1,I x,by omega,rfl,rfl,by go_num,P,j0,fun y h=>by injection h with h;subst h;exact g0.o⟩
    have P:H (YL true (XR rts p.am) q (l.drop (j+1)) (I y)=f):=by have e:=r.o;rw[if_neg (by simpa using k0)]at e;exact e
    go_wp2_with fail;go_roundg (n-(j+1))
    case measure=>omega
    exact⟨j+1,I y,by omega,rfl,rfl,by go_num,P,j0,z⟩
 have n0:¬(j:Int)<(n:Int):=by omega
 have hb:b=f:=by
  have e:=HB.o;rw[dL (by have:=a0.o;omega)]at e;exact e
 subst hb;have x0:=Zc A.o 0;have x1:=Zc A.o 1;have x2:=Zc A.o 2;have x3:=Zc A.o 3
 cases b with
 |none=>
  have HE:=Za (Ox wr Q B k p q o so a n c T sk R g m nc s.o c0.o);unfold V0;go_wp2_with fail;refine HE.o.mono ?_;rintro e w7 ⟨rfl,h1,h2⟩;have H1:=Za h1;have H2:=Za (((F.o.trans d.o).mono).trans h2);go_wp2_with fail
  go_end0
  exact⟨rfl,H1.o,H2.o⟩
 |some y=>
  obtain⟨N,_⟩:=z.o y rfl;obtain⟨t,ht⟩:∃t,rts[y]?=I t:=⟨_,gE N⟩;have HE:=Za (Ku wr Q B k p q o so a n c T sk R g m nc rts ra rc y t s.o c0.o M.o ht)
  have HO:H (Mt rts R (I y)=(0,R,t.name)):=by
   show _=_
   simp only[Mt,Mp,ht]
  unfold V0
  have s0:¬(y:Int)<0:=by omega
  go_wp2_with fail;refine HE.o.mono ?_;rintro e w7 ⟨rfl,h1,h2⟩;have H1:=Za h1;have H2:=Za (((F.o.trans d.o).mono).trans h2);go_wp2_with fail
  go_end0
  exact⟨rfl,by rw[HO.o];exact H1.o,H2.o⟩
