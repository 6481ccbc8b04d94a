import Derived.Test.YtccikgogjfbpeaaGreatDoorQd
open Go renaming World->I,Value->U,Calls->L
open Go.Value renaming int->J,string->Z,bool->O,pointer->G,slice->N,oneCell'->X
open Go.IntKind renaming i64->P
open Option renaming none->V,some->Y
open Or renaming inl->H,inr->W
open Go.Obj renaming cells->B
open Go.RowKit renaming Hid->D
open Go.Proofs.Tryz renaming prog->M
open Go.Ending renaming returned->R
namespace Go.Proofs.YtccikgogjfbpeaaGreatDoor
set_option maxRecDepth 30000
set_option maxHeartbeats 8000000
open Go.RowKit
def Zo {α:Type}(r:Except Nat (α×Nat))(b:α->U->I->Prop)(w:I)(p g cap:Nat)(ts:List Tk)(e:Ending)(w':I):Prop:=
 match r with
 | .ok (a,i)=>(∃v,e=R v/\b a v w')/\Pa w' p g cap ts i/\Fr (fun k=>k=p) w w'
 | .error l=>e=Zj 3 l/\Fr (fun k=>k=p) w w'
theorem Zo.ok {α:Type}{r:Except Nat (α×Nat)}{b:α->U->I->Prop}{w:I}{p g cap:Nat}{ts:List Tk}{e:Ending}{w':I}{a:α}{i:Nat}(c:r=.ok (a,i)):
  Zo r b w p g cap ts e w'↔(∃v,e=R v/\b a v w')/\Pa w' p g cap ts i/\Fr (fun k=>k=p) w w':=by subst c;exact Iff.rfl
theorem Zo.err {α:Type}{r:Except Nat (α×Nat)}{a:α->U->I->Prop}{w:I}{p g cap:Nat}{ts:List Tk}{e:Ending}{w':I}{l:Nat}(b:r=.error l):
  Zo r a w p g cap ts e w'↔e=Zj 3 l/\Fr (fun k=>k=p) w w':=by subst b;exact Iff.rfl
theorem Pa.at {w:I}{p g cap:Nat}{ts:List Tk}{i:Nat}(h:Pa w p g cap ts i):ts[i]?=Y (Zs ts i):=by
 unfold Zs;rw[gD,gE h.lt];rfl
theorem Vs (w:I)(p g cap:Nat)(ts:List Tk)(i a:Nat)(c:Int)(h:Pa w p g cap ts i)(j:a≠3)(f:c=a):
  L M 229 #[G (Y ⟨p,0,V⟩),J P c] w (Zo (Ya ts i a) (fun t v _=>v=SY t) w p g cap ts):=by
 by_cases d:(Zs ts i).sort=a
 ·exact(Eg w p g cap ts i (Zs ts i) a c h h.at d j f).mono fun e w' b=>(Zo.ok (by unfold Ya;rw[if_pos d])).2 ⟨⟨_,b.1,rfl⟩,b.2⟩
 ·exact(DP w p g cap ts i (Zs ts i) a c h h.at d f).mono fun e w' b=>(Zo.err (by unfold Ya;rw[if_neg d])).2 ⟨b.1,b.2.mono (by simp)⟩
theorem VQ (w:I)(p g cap:Nat)(ts:List Tk)(i:Nat)(m:ByteArray)(h:Pa w p g cap ts i):
  L M 158 #[G (Y ⟨p,0,V⟩),Z m] w (Zo (ZG ts i m) (fun _ v _=>v=.tuple #[]) w p g cap ts):=by
 cases b:Zq (Zs ts i) m with
 |true=>exact(Jp w p g cap ts i (Zs ts i) m h h.at b).mono fun e w' a=>(Zo.ok (by unfold ZG;rw[if_pos b])).2 ⟨⟨_,a.1,rfl⟩,a.2⟩
 |false=>exact(Gs w p g cap ts i (Zs ts i) m h h.at b).mono fun e w' a=>(Zo.err (by unfold ZG;rw[b];rfl)).2 ⟨a.1,a.2.mono (by simp)⟩
theorem bC {w:I}{g:Nat}{a:Array U}{t:TypeId}(h:w.heap[g]?=Y (B a t))(j:Nat)(v:U)(b:a[j]?=Y v):w.cell? ⟨g,j,V⟩=Y v:=by
 rw[cell_of_row w g j a t (0,0) h];exact b
theorem bF {w:I}{g:Nat}{a:Array U}{t:TypeId}(h:w.heap[g]?=Y (B a t))(j:Nat):w.frozen? ⟨g,j,V⟩=false:=by
 simp[World.frozen?,h]
theorem Fr.whole {S:Nat->Prop}{w w':I}(h:Fr S w w'){g:Nat}{o:Obj}(b:w.heap[g]?=Y o)(c:¬S g):w'.heap[g]?=Y o:=by
 have a:g<w.heap.size:=(iA.1 b).1;rw[h.block g a c];exact b
def Uy (a:Tk×Tk):U:=.agg #[J P a.1.sort,Z a.1.text,J P a.1.line,J P a.2.sort,Z a.2.text,J P a.2.line]
theorem LF (w:I)(p g cap:Nat)(ts:List Tk)(i:Nat)(h:Pa w p g cap ts i):
  L M 230 #[G (Y ⟨p,0,V⟩)] w (Zo (Uu ts i) (fun ab v _=>v=Uy ab) w p g cap ts):=by
 have HP:=Za h;have T:p<w.heap.size:=bL w _ h.c0;clear h;go_enter Tryz.func230,Tryz.ntmps230;go_wp2_with fail;refine(Vs _ p g cap ts i 1 _ (HP.o.fr (S:=fun _=>False) ((Fr.refl _ _).alloc _) (by simp)) (by decide) (by rfl)).mono ?_;intro e f j
 cases z:Ya ts i 1 with
 |error l=>
  obtain⟨t,b⟩:=(Zo.err z).1 j;unfold Zj at t;subst t;exact⟨rfl,(Zo.err (by unfold Uu;rw[z])).2 ⟨rfl,((Fr.refl _ _).alloc _).trans b⟩⟩
 |ok r=>
  obtain⟨a,i1⟩:=r;obtain⟨⟨v,rfl,rfl⟩,A,b⟩:=(Zo.ok z).1 j;clear j;have U:=Za A;have x:=Za (((Fr.refl _ _).alloc _).trans b);have W:=Za (b.whole (aN w _) (by omega));have f0:p<f.heap.size:=nL T x.o.size
  have g0:w.heap.size<f.heap.size:=by have:=b.size;simp at this;omega
  have y:=Za z;clear z A b;simp only[SY];go_wp2_with fail;refine(VQ _ p g cap ts i1 Vb (U.o.fr (S:=fun _=>False) ((Fr.refl _ _).alloc _) (by simp))).mono ?_;intro e w2 j
  cases B:ZG ts i1 Vb with
  |error l=>
   obtain⟨t,b⟩:=(Zo.err B).1 j;unfold Zj at t;subst t;exact⟨rfl,(Zo.err (by unfold Uu;rw[y.o];simp only;rw[B])).2 ⟨rfl,x.o.trans (((Fr.refl _ _).alloc _).trans b)⟩⟩
  |ok r=>
   obtain⟨u,i2⟩:=r;obtain⟨⟨v,rfl,rfl⟩,C,b⟩:=(Zo.ok B).1 j;have X:=Za C;have D:=Za (x.o.trans (((Fr.refl _ _).alloc _).trans b));have R:=Za (b.whole (aN f _) (by omega));have b0:=Za (b.whole (((Fr.refl (fun _=>False) _).alloc _).whole W.o (by simp)) (by omega));have E:=Za B;clear j B C b;have a0:=bC R.o 0 _ rfl;have a1:=bC R.o 1 _ rfl;have a2:=bC R.o 2 _ rfl;go_wp2_with fail;refine wp_region_held_drew (S:=fun w'=>w'.cell? ⟨f.heap.size,0,V⟩=Y (J P a.sort)/\w'.cell? ⟨f.heap.size,1,V⟩=Y (Z a.text)/\w'.cell? ⟨f.heap.size,2,V⟩=Y (J P a.line)) (by kernel_rfl) ?_ (fun q=>?_)
   ·exact⟨by simpa using a0,by simpa using a1,by simpa using a2⟩
   refine Zf 0 q ?_;go_frame;refine Zf 1 q ?_;go_frame;refine SX 2 (fun K F=>?_);go_simp;refine(Vs _ p g cap ts i2 1 _ (X.o.fr (S:=fun _=>False) (Fr.refl _ _).drew (by simp)) (by decide) (by rfl)).mono ?_;intro e w3 j
   cases m:Ya ts i2 1 with
   |error l=>
    obtain⟨t,b⟩:=(Zo.err m).1 j;unfold Zj at t;subst t;exact⟨rfl,(Zo.err (by unfold Uu;rw[y.o];simp only;rw[E.o];simp only;rw[m])).2 ⟨rfl,D.o.trans ((Fr.refl _ _).drew.trans b)⟩⟩
   |ok r=>
    obtain⟨c,i3⟩:=r;obtain⟨⟨v,rfl,rfl⟩,N,b⟩:=(Zo.ok m).1 j;have d0:=Za N;have e0:=Za (D.o.trans ((Fr.refl _ _).drew.trans b));have s:=b.whole (g:=f.heap.size) R.o (by omega);have d:=b.whole (g:=w.heap.size) b0.o (by omega);have O:=Za m;clear j m N b a0 a1 a2 q;refine F.out _ _ ⟨bC s 0 _ rfl,bC s 1 _ rfl,bC s 2 _ rfl⟩ (fun q=>?_);clear F K s;have r0:=bC d 0 _ rfl;have r1:=bC d 1 _ rfl;have r2:=bC d 2 _ rfl;have r3:=bC d 3 _ rfl;have r4:=bC d 4 _ rfl;have r5:=bC d 5 _ rfl;have rf:=bF d;clear d;simp only[SY]
    try go_frame
    refine Zf 3 q ?_;go_frame;refine SX 4 (fun K F=>?_);go_simp;have Q:=((((((Fr.refl (fun k=>k=w.heap.size) w3).setCell (p:=⟨w.heap.size,0,V⟩) (H rfl) (J P a.sort)).setCell (p:=⟨w.heap.size,1,V⟩) (H rfl) (Z a.text)).setCell (p:=⟨w.heap.size,2,V⟩) (H rfl) (J P a.line)).setCell (p:=⟨w.heap.size,3,V⟩) (H rfl) (J P c.sort)).setCell (p:=⟨w.heap.size,4,V⟩) (H rfl) (Z c.text)).setCell (p:=⟨w.heap.size,5,V⟩) (H rfl) (J P c.line);have n:f.heap.size<w3.heap.size:=bL w3 _ q.1;have HW:=Za Q;refine F.out _ _ ⟨(Q.cell (p:=⟨f.heap.size,0,V⟩) n (by simp;omega)).trans q.1,(Q.cell (p:=⟨f.heap.size,1,V⟩) n (by simp;omega)).trans q.2.1,(Q.cell (p:=⟨f.heap.size,2,V⟩) n (by simp;omega)).trans q.2.2⟩ (fun _=>?_);clear F K Q
    try go_frame
    refine wpAnyH_done (by kernel_rfl) ?_ _;go_wp2;have h0:=HP.o.gl;have hn:=d0.o.fr HW.o (fun k hk=>by omega);exact bodyPost_ret (v:=Uy (a,c)) (by simp[results,Tryz.results230,go_sem,Uy, *]) rfl ((Zo.ok (by unfold Uu;rw[y.o];simp only;rw[E.o];simp only;rw[O.o])).2 ⟨⟨_,rfl,rfl⟩,hn,e0.o.monoNew HW.o (fun k hk=>by omega)⟩)
theorem oF {w w':I}{S:Nat->Prop}{base:Nat}{e:TypeId}{a:Nat}{v:U}{n:Nat}{f:List U}(h:w.ownsRow base e a v n f)(i:Fr S w w')(j:∀k,S k->k<base):w'.ownsRow base e a v n f:=by
 refine⟨h.1,?_⟩;rcases h.2 with l|⟨g,cap,c,rfl,m,d,b⟩
 ·exact .inl l
 ·refine .inr ⟨g,cap,c,rfl,m,?_,b⟩
  exact i.whole d (fun o=>by have:=j g o;omega)
theorem oS {w:I}{base a:Nat}{e:TypeId}{b:Nat}{v:U}{n:Nat}{d:List U}(h:w.ownsRow base e b v n d)(j:a<=base):w.ownsRow a e b v n d:=
 ⟨h.1,h.2.imp id (fun⟨g,cap,c,f,k,i⟩=>⟨g,cap,c,f,by omega,i⟩)⟩
theorem Fr.grown {S:Nat->Prop}{a w w':I}{row:Option Nat}(h:Fr S a w)(b:w.grownBy w' row)(c:∀k,row=Y k->S k\/a.heap.size<=k):Fr S a w':=
 h.monoNew (T:=fun k=>row=Y k) ⟨b.os,b.tape,b.output,b.size,fun k d f=>b.block k d (fun e=>f e.symm)⟩ c
theorem Eh {ts:List Tk}{i a:Nat}{b:List Tk}(h:Zq (Zs ts i) Yq=false):We ts i a b=.ok (b,i):=by
 rw[We,dif_neg (by simp[h])]
theorem Gt {ts:List Tk}{i a:Nat}{b:List Tk}{l:Nat}(h:Zq (Zs ts i) Yq=true)(c:Ya ts (i+1) a=.error l):We ts i a b=.error l:=by
 rw[We,dif_pos h];split<;>simp_all
theorem Ei {ts:List Tk}{i a:Nat}{b:List Tk}{t:Tk}{c:Nat}(h:Zq (Zs ts i) Yq=true)(d:Ya ts (i+1) a=.ok (t,c)):We ts i a b=We ts c a (b++[t]):=by
 rw[We,dif_pos h];split<;>simp_all
theorem PP (w:I)(p g cap:Nat)(ts:List Tk)(i b:Nat)(i1:Int)(h:Pa w p g cap ts i)(hw:b≠3)(e1:i1=b):
  L M 231 #[G (Y ⟨p,0,V⟩),J P i1] w (Zo (Xi ts i b) (fun l v w'=>w'.ownsRow w.heap.size 263 3 v l.length (Yb l)) w p g cap ts):=by
 subst e1;have HP:=Za h;have s0:p<w.heap.size:=bL w _ h.c0;have p0:ts.length<=4000:=h.few;obtain⟨ii,hi,a0,b0,d0⟩:=info_parts Ux;clear h;go_enter Tryz.func231,Tryz.ntmps231;go_wp2_with fail;refine(Vs _ p g cap ts i b _ HP.o hw (by rfl)).mono ?_;intro e w1 z
 cases B:Ya ts i b with
 |error l=>
  obtain⟨C,d⟩:=(Zo.err B).1 z;unfold Zj at C;subst C;exact⟨rfl,(Zo.err (by unfold Xi;rw[B])).2 ⟨rfl,d⟩⟩
 |ok r=>
  obtain⟨a,U⟩:=r;obtain⟨⟨v,rfl,rfl⟩,E,d⟩:=(Zo.ok B).1 z;have e0:=Za E;have F:=Za d
  have f0:D (Xi ts i b=We ts U b [a]):=by show _=_;unfold Xi;rw[B]
  have g0:=(YI B).2.2
  have HJ:D (1<=U):=by show _<=_;omega
  clear B E d z g0;simp only[SY];go_wp2_with fail
  go_loopg [5] (ts.length-U) (fun m l wr=>∃j f,m=ts.length-j/\D (Pa wr p g cap ts j)/\D (Fr (fun k=>k=p) w wr)/\D (wr.ownsRow w.heap.size 263 3 l f.length (Yb f))/\D (f.length<=j)/\D (Xi ts i b=We ts j b f))
  case atStart=>
   refine⟨U,[a],rfl,e0.o.fr (S:=fun _=>False) ((Fr.refl _ _).alloc _) (by simp),F.o.alloc _,?_,HJ.o,f0.o⟩;exact World.ownsRow_lit (base:=w.heap.size) w1 #[J P a.sort,Z a.text,J P a.line] 1 F.o.size (by unfold maxLen;decide) rfl
  case round=>
   obtain⟨j,f,rfl,t,K,HO,HL,HR⟩:=hrel
   cases N:Zq (Zs ts j) Yq with
   |false=>
    go_wp2_with fail;refine(RA wr p g cap ts j _ Yq t.o t.o.at N).mono ?_;rintro e w2 ⟨rfl,d⟩;have q:=Za d;clear d;go_wp2;go_ret;exact(Zo.ok (HR.o.trans (Eh N))).2 ⟨⟨_,rfl,oF HO.o q.o (by simp)⟩,t.o.fr q.o (by simp),K.o.trans (q.o.mono (by simp))⟩
   |true=>
    go_wp2_with fail;refine(TX wr p g cap ts j _ Yq t.o t.o.at N).mono ?_;rintro e w2 ⟨rfl,A,d⟩;have h0:=Za A;have q:=Za (K.o.trans d);have i0:=Za (oF HO.o d (fun k x=>by omega));have O:=Za N;have t0:j+1<ts.length:=A.lt;clear A d N;go_wp2_with fail;refine(Vs _ p g cap ts (j+1) b _ h0.o hw (by rfl)).mono ?_;intro e w3 z
    cases s:Ya ts (j+1) b with
    |error l=>
     obtain⟨C,d⟩:=(Zo.err s).1 z;unfold Zj at C;subst C;exact⟨rfl,(Zo.err (HR.o.trans (Gt O.o s))).2 ⟨rfl,q.o.trans d⟩⟩
    |ok r=>
     obtain⟨c,j3⟩:=r;obtain⟨⟨v,rfl,rfl⟩,Q,d⟩:=(Zo.ok s).1 z;have j0:=Za Q;have R:=Za (q.o.trans d);have T:=Za (oF i0.o d (fun k x=>by omega));have v0:=(YI s).2.2;have k0:=Za (HR.o.trans (Ei O.o s));have q0:=HL.o;clear z s Q d;simp only[SY]
     go_wp2_with (at_builtin;refine wpList_append_lies _ rfl (.tmp 12) (.tmp 16) 193 rfl w.heap.size 263 ii _ 3 32 Tryz.underlying193 hi a0 b0 d0 rfl (by decide) _ f.length (Yb f) rfl ?h1 ⟨w3.heap.size,0,V⟩ 1 1 [J P c.sort,Z c.text,J P c.line] rfl rfl ?h2 ?h3 (by decide) ?h4 ?h5 ?h6 _ rfl ?h7)
     case h1=>exact T.o.alloc _
     case h2=>exact World.news_of_block (aN w3 _)
     case h3=>simp[X]
     case h4=>unfold maxLen;omega
     case h5=>omega
     case h6=>simp;have:=R.o.size;omega
     case h7=>
      intro g2 r0 w4 y n _ _;have l0:=Za y
      have u:∀k,u5.ownBlock=Y k->w.heap.size<=k:=fun k x=>(T.o.lt k x).1
      have m0:=Za ((R.o.alloc _).grown n (fun k x=>W (u k x)));have n0:=HP.o.gl;have o0:=Za (j0.o.fr (S:=fun k=>w.heap.size<=k) (((Fr.refl _ _).alloc _).grown n (fun k x=>H (u k x))) (fun k x=>by omega));clear n y u n0;go_wp2;go_roundg (ts.length-j3)
      case measure=>omega
      case rel=>
       refine⟨j3,f++[c],rfl,o0.o,m0.o,?_,?_,k0.o⟩
       ·show World.ownsRow _ _ _ _ _ _ _
        rw[Tm,lA];exact l0.o
       ·show _<=_
        simp;omega
theorem Yl {w:I}{g:Nat}{a:Array U}{t:TypeId}(h:w.heap[g]?=Y (B a t))(j:Nat)(u:U):(w.setCell ⟨g,j,V⟩ u).heap[g]?=Y (B (a.setIfInBounds j u) t):=by
 simp[World.setCell,Array.getElem?_modify,h]
theorem Vt (w:I)(a b:Obj):((w.alloc a).alloc b).heap[w.heap.size+1]?=Y b:=by
 have h:(w.alloc a).heap.size=w.heap.size+1:=by simp
 rw[<-h];exact aN _ _
def V7 (w:I)(g j:Nat)(t:Tk):I:=((w.setCell ⟨g,j,V⟩ (J P t.sort)).setCell ⟨g,j+1,V⟩ (Z t.text)).setCell ⟨g,j+2,V⟩ (J P t.line)
theorem Wg (w:I)(g j:Nat)(t:Tk):Fr (fun k=>k=g) w (V7 w g j t):=
  (((Fr.refl (fun k=>k=g) w).setCell (p:=⟨g,j,V⟩) (H rfl) _).setCell (p:=⟨g,j+1,V⟩) (H rfl) _).setCell (p:=⟨g,j+2,V⟩) (H rfl) _
theorem Vg {w:I}{g:Nat}{a:Array U}{t:TypeId}(h:w.heap[g]?=Y (B a t))(j:Nat)(x:Tk):
  (V7 w g j x).heap[g]?=Y (B (((a.setIfInBounds j (J P x.sort)).setIfInBounds (j+1) (Z x.text)).setIfInBounds (j+2) (J P x.line)) t):=
 Yl (Yl (Yl h j _) (j+1) _) (j+2) _
def Uz (r:Vp):U:=.agg #[J P r.name.sort,Z r.name.text,J P r.name.line,J P r.base.sort,Z r.base.text,J P r.base.line,J P r.rate.sort,Z r.rate.text,J P r.rate.line]
def IZ:Array U:=#[J P 0,Z ⟨#[]⟩,J P 0,J P 0,Z ⟨#[]⟩,J P 0,J P 0,Z ⟨#[]⟩,J P 0]
theorem Gu (w:I)(p g cap:Nat)(ts:List Tk)(i:Nat)(h:Pa w p g cap ts i):
    L M 192 #[G (Y ⟨p,0,V⟩)] w (Zo (WE ts i) (fun r v _=>v=Uz r) w p g cap ts):=by
  have HP:D (Pa w p g cap ts i):=h;have h0:p<w.heap.size:=bL w _ h.c0;have i0:g<w.heap.size:=h.gl;clear h;go_enter Tryz.func192,Tryz.ntmps192;go_wp2_with fail;refine(Vs _ p g cap ts i 0 _ (HP.o.fr (S:=fun _=>False) (((Fr.refl _ _).alloc _).alloc _) (by simp)) (by decide) (by rfl)).mono ?_;intro e t s
  cases m:Ya ts i 0 with
  | error l=>
    obtain⟨x,j⟩:=(Zo.err m).1 s;unfold Zj at x;subst x;exact⟨rfl,(Zo.err (by unfold WE;rw[Z9 m])).2 ⟨rfl,(((Fr.refl _ _).alloc _).alloc _).trans j⟩⟩
  | ok r=>
    obtain⟨a,y⟩:=r;obtain⟨⟨v,rfl,rfl⟩,A,j⟩:=(Zo.ok m).1 s;have C:D (Pa t p g cap ts y):=A;have E:D (Fr (fun k=>k=p) w t):=(((Fr.refl _ _).alloc _).alloc _).trans j;have F:D (t.heap[w.heap.size]?=Y (B IZ 290)):=j.whole (((Fr.refl (fun _=>False) _).alloc _).whole (aN w _) (by simp)) (by omega);have n:D (t.heap[w.heap.size+1]?=Y (B IZ 290)):=j.whole (Vt w _ _) (by omega);have hA:D (Ya ts i 0=.ok (a,y)):=m;have e0:=bC n.o 0 _ rfl;have e1:=bC n.o 1 _ rfl;have e2:=bC n.o 2 _ rfl;have ef:=bF n.o;clear m s A j;simp only[SY];go_wp2_with fail;clear e0 e1 e2 ef
    change L _ _ _ (V7 t (w.heap.size+1) 0 a) _
    have b0:D (Pa (V7 t (w.heap.size+1) 0 a) p g cap ts y):=C.o.fr (Wg _ _ _ _) (fun k u=>by omega);have H:D (Fr (fun k=>k=p) w (V7 t (w.heap.size+1) 0 a)):=E.o.monoNew (Wg _ _ _ _) (fun k u=>by omega);have K:D ((V7 t (w.heap.size+1) 0 a).heap[w.heap.size+1]?=Y (B #[J P a.sort,Z a.text,J P a.line,J P 0,Z ⟨#[]⟩,J P 0,J P 0,Z ⟨#[]⟩,J P 0] 290)):=Vg n.o 0 a;have N:D ((V7 t (w.heap.size+1) 0 a).heap[w.heap.size]?=Y (B IZ 290)):=(Wg _ _ _ _).whole F.o (by omega);generalize V7 t (w.heap.size+1) 0 a=j0 at*;refine(Vs _ p g cap ts y 1 _ b0.o (by decide) (by rfl)).mono ?_;intro e w2 s
    cases m:Ya ts y 1 with
    | error l=>
      obtain⟨x,j⟩:=(Zo.err m).1 s;unfold Zj at x;subst x;exact⟨rfl,(Zo.err (by unfold WE;rw[Zh hA.o,Z9 m])).2 ⟨rfl,H.o.trans j⟩⟩
    | ok r=>
      obtain⟨b,z⟩:=r;obtain⟨⟨v,rfl,rfl⟩,O,j⟩:=(Zo.ok m).1 s;have Q:D (Pa w2 p g cap ts z):=O;have R:D (Fr (fun k=>k=p) w w2):=H.o.trans j;have T:D (w2.heap[w.heap.size]?=_):=j.whole N.o (by omega);have q:D (w2.heap[w.heap.size+1]?=_):=j.whole K.o (by omega);have hB:D (Ya ts y 1=.ok (b,z)):=m;have e3:=bC q.o 3 _ rfl;have e4:=bC q.o 4 _ rfl;have e5:=bC q.o 5 _ rfl;have ef:=bF q.o;clear m s O j F n K N C E;simp only[SY];go_wp2_with fail;clear e3 e4 e5 ef
      change L _ _ _ (V7 w2 (w.heap.size+1) 3 b) _
      have d0:D (Pa (V7 w2 (w.heap.size+1) 3 b) p g cap ts z):=Q.o.fr (Wg _ _ _ _) (fun k u=>by omega);have U:D (Fr (fun k=>k=p) w (V7 w2 (w.heap.size+1) 3 b)):=R.o.monoNew (Wg _ _ _ _) (fun k u=>by omega);have W:D ((V7 w2 (w.heap.size+1) 3 b).heap[w.heap.size+1]?=Y (B #[J P a.sort,Z a.text,J P a.line,J P b.sort,Z b.text,J P b.line,J P 0,Z ⟨#[]⟩,J P 0] 290)):=Vg q.o 3 b;have X:D ((V7 w2 (w.heap.size+1) 3 b).heap[w.heap.size]?=Y (B IZ 290)):=(Wg _ _ _ _).whole T.o (by omega);generalize V7 w2 (w.heap.size+1) 3 b=k0 at*;refine(Vs _ p g cap ts z 1 _ d0.o (by decide) (by rfl)).mono ?_;intro e w3 s
      cases m:Ya ts z 1 with
      | error l=>
        obtain⟨x,j⟩:=(Zo.err m).1 s;unfold Zj at x;subst x;exact⟨rfl,(Zo.err (by unfold WE;rw[Zh hA.o,Zh hB.o,Z9 m])).2 ⟨rfl,U.o.trans j⟩⟩
      | ok r=>
        obtain⟨c,i3⟩:=r;obtain⟨⟨v,rfl,rfl⟩,a0,j⟩:=(Zo.ok m).1 s;have f0:D (Pa w3 p g cap ts i3):=a0;have g0:D (Fr (fun k=>k=p) w w3):=U.o.trans j;have d:=j.whole X.o (by omega);have f:=j.whole W.o (by omega);have hC:D (Ya ts z 1=.ok (c,i3)):=m;have e0:=bC f 0 _ rfl;have r0:=bC d 0 _ rfl;have e1:=bC f 1 _ rfl;have r1:=bC d 1 _ rfl;have e2:=bC f 2 _ rfl;have r2:=bC d 2 _ rfl;have e3:=bC f 3 _ rfl;have r3:=bC d 3 _ rfl;have e4:=bC f 4 _ rfl;have r4:=bC d 4 _ rfl;have e5:=bC f 5 _ rfl;have r5:=bC d 5 _ rfl;have e6:=bC f 6 _ rfl;have r6:=bC d 6 _ rfl;have e7:=bC f 7 _ rfl;have r7:=bC d 7 _ rfl;have e8:=bC f 8 _ rfl;have r8:=bC d 8 _ rfl;have ef:=bF f;have rf:=bF d;clear m s a0 j T q W X Q R f d;simp only[SY]
        have l0:¬w.heap.size+1=w.heap.size:=by omega
        go_wp2
        have hW:Fr (fun k=>w.heap.size<=k) w3 (V7 (V7 (V7 (V7 w3 (w.heap.size+1) 6 c) w.heap.size 0 a) w.heap.size 3 b) w.heap.size 6 c):=
          ((((Wg w3 (w.heap.size+1) 6 c).mono (fun k u=>by omega)).trans ((Wg _ w.heap.size 0 a).mono (fun k u=>by omega))).trans ((Wg _ w.heap.size 3 b).mono (fun k u=>by omega))).trans ((Wg _ w.heap.size 6 c).mono (fun k u=>by omega))
        exact bodyPost_ret (v:=Uz ⟨a,b,c⟩) (by simp[results,Tryz.results192,go_sem,Uz, *]) rfl ((Zo.ok (by unfold WE;rw[Zh hA.o,Zh hB.o,Zh hC.o])).2 ⟨⟨_,rfl,rfl⟩,f0.o.fr hW (fun k u=>by omega),g0.o.monoNew hW (fun k u=>by omega)⟩)
theorem RB (w:I)(p g cap:Nat)(ts:List Tk)(i:Nat)(m:ByteArray)(h:Pa w p g cap ts i):
  L M 191 #[G (Y ⟨p,0,V⟩),Z m] w fun e w'=>e=R (O (Zq (Zs ts i) m))/\Pa w' p g cap ts (if Zq (Zs ts i) m then i+1 else i)/\Fr (fun k=>k=p) w w':=by
 cases b:Zq (Zs ts i) m with
 |true=>exact(TX w p g cap ts i _ m h h.at b).mono fun e w' a=>a
 |false=>exact(RA w p g cap ts i _ m h h.at b).mono fun e w' a=>⟨a.1,h.fr a.2 (by simp),a.2.mono (by simp)⟩
theorem ZD {w:I}{base:Nat}{e:TypeId}{b:Nat}{v:U}{n:Nat}{d:List U}(h:w.ownsRow base e b v n d):∃a n c,v=N a n c:=by
 rcases h.2 with⟨rfl,_⟩|⟨g,cap,f,rfl,_⟩
 ·exact⟨_,_,_,rfl⟩
 ·exact⟨_,_,_,rfl⟩
theorem PR {a:Array U}{j:Nat}{u:U}(h:a[j]?=Y u):a.setIfInBounds j u=a:=by
 apply Array.ext
 ·simp
 ·intro k d f
  by_cases e:j=k
  ·subst e
   obtain⟨b,c⟩:=iA.1 h;simp[c]
  ·rw[Array.getElem_setIfInBounds_ne _ e]
def SC (r:Except Nat (Rv×Nat))(w:I)(p g cap:Nat)(ts:List Tk)(E:Nat)(b:Array U)(e:Ending)(w':I):Prop:=
 match r with
 | .ok (a,i)=>e=R (.tuple #[])/\(∃v,w'.heap[E]?=Y (B (((b.setIfInBounds 21 (O a.decline)).setIfInBounds 22 (O a.cheapest)).setIfInBounds 23 v) 295)/\w'.ownsRow w.heap.size 263 3 v a.routes.length (Yb a.routes))/\Pa w' p g cap ts i/\Fr (fun k=>k=p\/k=E) w w'
 | .error l=>e=Zj 3 l/\Fr (fun k=>k=p\/k=E) w w'
theorem SC.ok {r:Except Nat (Rv×Nat)}{w:I}{p g cap:Nat}{ts:List Tk}{E:Nat}{b:Array U}{e:Ending}{w':I}{a:Rv}{i:Nat}(c:r=.ok (a,i)):
  SC r w p g cap ts E b e w'↔e=R (.tuple #[])/\(∃v,w'.heap[E]?=Y (B (((b.setIfInBounds 21 (O a.decline)).setIfInBounds 22 (O a.cheapest)).setIfInBounds 23 v) 295)/\w'.ownsRow w.heap.size 263 3 v a.routes.length (Yb a.routes))/\Pa w' p g cap ts i/\Fr (fun k=>k=p\/k=E) w w':=by subst c;exact Iff.rfl
theorem SC.err {r:Except Nat (Rv×Nat)}{w:I}{p g cap:Nat}{ts:List Tk}{E:Nat}{a:Array U}{e:Ending}{w':I}{l:Nat}(b:r=.error l):
  SC r w p g cap ts E a e w'↔e=Zj 3 l/\Fr (fun k=>k=p\/k=E) w w':=by subst b;exact Iff.rfl
theorem Jq (w:I)(p g cap:Nat)(ts:List Tk)(i E:Nat)(c:Array U)(h:Pa w p g cap ts i)(hE:w.heap[E]?=Y (B c 295))(s:E≠p)(h0:E≠g)
  (y:c[21]?=Y (O false))(z:c[22]?=Y (O false))(A:c[23]?=Y (N V 0 0)):
  L M 232 #[G (Y ⟨p,0,V⟩),G (Y ⟨E,0,V⟩)] w (SC (Xj ts i) w p g cap ts E c):=by
 have C:=Za h;have i0:p<w.heap.size:=bL w _ h.c0;have j0:g<w.heap.size:=h.gl;have HE:=Za hE;have F:=Za y;have J:=Za z;have K:=Za A;have k0:E<w.heap.size:=(iA.1 hE).1;clear h hE y z A
 cases hd:Zq (Zs ts i) Yj with
 |true=>
  go_enter Tryz.func232,Tryz.ntmps232;go_wp2_with fail;refine(TX w p g cap ts i _ Yj C.o C.o.at hd).mono ?_;rintro e P ⟨rfl,Q,a⟩;have m:=Za Q;have n:=Za a;have d:=Za (a.whole HE.o s);have l0:=bC d.o 21 _ F.o;have ef:=bF d.o;clear Q a;go_wp2;refine bodyPost_ret (results_none rfl _ _ _) rfl ?_;have j:Fr (fun k=>k=E) P (P.setCell ⟨E,21,V⟩ (O true)):=(Fr.refl (fun k=>k=E) P).setCell (p:=⟨E,21,V⟩) (H rfl) _;refine(SC.ok (by unfold Xj;rw[if_pos hd])).2 ⟨rfl,⟨N V 0 0,?_,oZ _ _ _ _⟩,m.o.fr j (fun k b=>by omega),(n.o.mono (fun k b=>H b)).trans (j.mono (fun k b=>W b))⟩;have e1:((c.setIfInBounds 21 (O true)).setIfInBounds 22 (O false))=c.setIfInBounds 21 (O true):=PR (by rw[Array.getElem?_setIfInBounds_ne (by decide)];exact J.o);have e2:((c.setIfInBounds 21 (O true)).setIfInBounds 23 (N V 0 0))=c.setIfInBounds 21 (O true):=PR (by rw[Array.getElem?_setIfInBounds_ne (by decide)];exact K.o)
  show _=Y (Obj.cells (((c.setIfInBounds 21 (O true)).setIfInBounds 22 (O false)).setIfInBounds 23 (N V 0 0)) _)
  rw[e1,e2];exact Yl d.o 21 _
 |false=>
  have hM:D (Xj ts i=YS (Xi ts (if Zq (Zs ts i) ZY then i+1 else i) 0) fun l k=>.ok (⟨false,Zq (Zs ts i) ZY,l⟩,k)):=by
   show _=_
   unfold Xj;rw[if_neg (by simp[hd])]
   cases Zq (Zs ts i) ZY<;>rfl
  go_enter Tryz.func232,Tryz.ntmps232;go_wp2_with fail;refine(RA w p g cap ts i _ Yj C.o C.o.at hd).mono ?_;rintro e P ⟨rfl,a⟩;have m:=Za (C.o.fr a (by simp));have n:=Za a;have d:=Za (a.whole HE.o (by simp));clear a;go_wp2_with fail;refine(RB P p g cap ts i ZY m.o).mono ?_;rintro e w2 ⟨rfl,R,a⟩;generalize Zq (Zs ts i) ZY=x at*;generalize(if x=true then i+1 else i)=i2 at*;have S:=Za R;have T:=Za ((n.o.mono (by simp)).trans a);have q:=Za (a.whole d.o s);have a0:=bC q.o 22 _ J.o;have ef:=bF q.o;clear R a m n d;go_wp2_with fail;clear a0 ef;have j:Fr (fun k=>k=E) w2 (w2.setCell ⟨E,22,V⟩ (O x)):=(Fr.refl (fun k=>k=E) w2).setCell (p:=⟨E,22,V⟩) (H rfl) _;have b0:=Za (S.o.fr j (fun k b=>by omega));have t:=Za ((T.o.mono (fun k b=>H b)).trans (j.mono (fun k b=>W b)));have d0:D ((w2.setCell ⟨E,22,V⟩ (O x)).heap[E]?=Y (B (c.setIfInBounds 22 (O x)) 295)):=Yl q.o 22 _;clear j S T q;generalize w2.setCell ⟨E,22,V⟩ (O x)=w3 at*;refine(PP w3 p g cap ts i2 0 _ b0.o (by decide) (by rfl)).mono ?_;intro e w4 hT
  cases X:Xi ts i2 0 with
  |error l=>
   obtain⟨he,a⟩:=(Zo.err X).1 hT;unfold Zj at he;subst he;exact⟨rfl,(SC.err (hM.o.trans (Z9 X))).2 ⟨rfl,t.o.trans (a.mono (fun k b=>H b))⟩⟩
  |ok r=>
   obtain⟨l,i4⟩:=r;obtain⟨⟨v,rfl,f⟩,Z,a⟩:=(Zo.ok X).1 hT;obtain⟨va,vn,vc,rfl⟩:=ZD f;have e0:=Za Z;have f0:=Za (t.o.trans (a.mono (fun k b=>H b)));have u:=Za (a.whole d0.o s);have HO:=Za f;have g0:=Za X;have m0:=bC u.o 23 (N V 0 0) (by rw[Array.getElem?_setIfInBounds_ne (by decide)];exact K.o);have ef:=bF u.o;have n0:=t.o.size;clear Z a f X hT;go_wp2
   go_end0
   have j:Fr (fun k=>k=E) w4 (w4.setCell ⟨E,23,V⟩ (N va vn vc)):=(Fr.refl (fun k=>k=E) w4).setCell (p:=⟨E,23,V⟩) (H rfl) _;refine(SC.ok (hM.o.trans (Zh g0.o))).2 ⟨rfl,⟨N va vn vc,?_,?_⟩,e0.o.fr j (fun k b=>by omega),f0.o.trans (j.mono (fun k b=>W b))⟩
   ·have e1:(c.setIfInBounds 21 (O false))=c:=PR F.o
    show _=Y (Obj.cells (((c.setIfInBounds 21 (O false)).setIfInBounds 22 (O x)).setIfInBounds 23 (N va vn vc)) _)
    rw[e1];exact Yl u.o 23 _
   ·exact oS (oF HO.o j (fun k b=>by omega)) (by omega)
