import Derived.Test.YtccikgogjfbpeaaGreatDoorQj
open Option renaming none->I,some->Z
open Go renaming World->J,Value->O,Calls->G
open Go.Value renaming slice->P,pointer->D
open List renaming mem_append->V,getElem?_drop->E
open Nat renaming le_trans->Y,strongRecOn->K,le_refl->H
open Go.Proofs.Tryz renaming prog->U
namespace Go.Proofs.YtccikgogjfbpeaaGreatDoor
set_option maxRecDepth 30000
set_option maxHeartbeats 8000000
open Go.RowKit
def WL:Yk->Prop
 | .route r=>r.name.text.size<=3000/\Dg r.base.text/\Dg r.rate.text
 | .rule r=>r.name.text.size<=3000/\Dg r.rank.text/\Dg r.bin.1.text/\Dg r.bin.2.text/\(∀t,t∈r.mcc->Dg t.text)/\(∀t,t∈r.cur->Dg t.text)/\(∀a,r.amount=Z a->Dg a.1.text/\Dg a.2.text)/\r.mcc.length<=4000/\r.cur.length<=4000/\r.act.routes.length<=4000
def VT (a:List Zd)(b:List Zc):Yk->Except (Nat×Nat) (List Zd×List Zc)
 | .route r=>match ZJ a r with
  | .error f=>.error f
  | .ok t=>.ok (a++[t],b)
 | .rule r=>match Ym a b r with
  | .error f=>.error f
  | .ok t=>.ok (a,b++[t])
def ZZ (a:List Zd)(b:List Zc):List Yk->Except (Nat×Nat) (List Zd×List Zc)
 |[]=>.ok (a,b)
 |x::xs=>match VT a b x with
  | .error f=>.error f
  | .ok p=>ZZ p.1 p.2 xs
theorem Xr {a:List Zd}{b:List Zc}{x:Yk}{c:List Yk}{f:Nat×Nat}(h:VT a b x=.error f):ZZ a b (x::c)=.error f:=by simp only[ZZ,h]
theorem X4 {a:List Zd}{b:List Zc}{x:Yk}{c:List Yk}{p:List Zd×List Zc}(h:VT a b x=.ok p):ZZ a b (x::c)=ZZ p.1 p.2 c:=by simp only[ZZ,h]
def Vv (x:Except (Nat×Nat) (List Zd×List Zc))(w:J)(B:Nat)(e:Ending)(w':J):Prop:=
 match x with
 | .ok p=>e=.returned (.tuple #[])/\(∃a b c,Bk w' B a b p.1 p.2 c)/\Below B w w'
 | .error f=>e=Zj f.1 f.2/\Below B w w'
theorem Vv.ok {x:Except (Nat×Nat) (List Zd×List Zc)}{w w':J}{B:Nat}{e:Ending}{p:List Zd×List Zc}(h:x=.ok p):Vv x w B e w'↔e=.returned (.tuple #[])/\(∃a b c,Bk w' B a b p.1 p.2 c)/\Below B w w':=by subst h;exact Iff.rfl
theorem Vv.err {x:Except (Nat×Nat) (List Zd×List Zc)}{w w':J}{B:Nat}{e:Ending}{f:Nat×Nat}(h:x=.error f):Vv x w B e w'↔e=Zj f.1 f.2/\Below B w w':=by subst h;exact Iff.rfl
theorem DR (w:J)(B:Nat)(g i:O)(a:List Zd)(b:List Zc)(j:List O)(r:Vp)(h:Bk w B g i a b j)(d:WL (.route r)):
  G U 314 #[Uz r,D (Z ⟨B,0,I⟩)] w (Vv (VT a b (.route r)) w B):=by
 refine(MQ w B g i a b j r h d.1 d.2.1 d.2.2).mono ?_;intro e w' k
 cases c:ZJ a r with
 |error f=>exact(Vv.err (by simp only[VT,c])).2 ((Uf.err c).1 k)
 |ok t=>
  obtain⟨l,⟨m,n⟩,o⟩:=(Uf.ok c).1 k;exact(Vv.ok (p:=(a++[t],b)) (by simp only[VT,c])).2 ⟨l,⟨_,_,_,n⟩,o⟩
theorem DS (w:J)(B g:Nat)(n o:O)(a:List Zd)(b:List Zc)(q:List O)(r:XX)(j k l:O)(h:Bk w B n o a b q)(u:WL (.rule r))
  (v:w.ownsRow g 263 3 j r.mcc.length (Yb r.mcc))(x:w.ownsRow g 263 3 k r.cur.length (Yb r.cur))(y:w.ownsRow g 263 3 l r.act.routes.length (Yb r.act.routes)):
  G U 318 #[QL r j k l,D (Z ⟨B,0,I⟩)] w (Vv (VT a b (.rule r)) w B):=by
 obtain⟨z,A,C,E,F,H,K,L,M,m⟩:=u;have d:=LP w B g n o a b q r j k l h z A C E F H K v x y L M m;refine d.mono ?_;intro e w' s
 cases i:Ym a b r with
 |error f=>exact(Vv.err (by simp only[VT,i])).2 ((U2.err i).1 s)
 |ok t=>
  obtain⟨N,⟨P,c,Q⟩,R⟩:=(U2.ok i).1 s;exact(Vv.ok (p:=(a,b++[t])) (by simp only[VT,i])).2 ⟨N,⟨_,_,_,Q⟩,R⟩
def T1 (x:Except (Nat×Nat) (List Zd×List Zc))(w:J)(e:Ending)(w':J):Prop:=
 match x with
 | .ok p=>e=.returned (D (Z ⟨w.heap.size,0,I⟩))/\(∃a b c,Bk w' w.heap.size a b p.1 p.2 c)/\Below w.heap.size w w'
 | .error f=>e=Zj f.1 f.2/\Below w.heap.size w w'
theorem T1.ok {x:Except (Nat×Nat) (List Zd×List Zc)}{w w':J}{e:Ending}{p:List Zd×List Zc}(h:x=.ok p):T1 x w e w'↔e=.returned (D (Z ⟨w.heap.size,0,I⟩))/\(∃a b c,Bk w' w.heap.size a b p.1 p.2 c)/\Below w.heap.size w w':=by subst h;exact Iff.rfl
theorem T1.err {x:Except (Nat×Nat) (List Zd×List Zc)}{w w':J}{e:Ending}{f:Nat×Nat}(h:x=.error f):T1 x w e w'↔e=Zj f.1 f.2/\Below w.heap.size w w':=by subst h;exact Iff.rfl
theorem CY (w:J):Bk (w.alloc (.cells #[P I 0 0,P I 0 0] 89)) w.heap.size (P I 0 0) (P I 0 0) [] [] []:=by
 have a:=aN w (.cells #[P I 0 0,P I 0 0] 89);exact⟨bC a 0 _ rfl,bC a 1 _ rfl,bF a,oZ _ _ _ _,oZ _ _ _ _,rfl,by simp,by simp⟩
theorem NP {base:Nat}{w:J}:∀{a:List Yk}{b:List O}{j:Nat}{x:Yk},YT base w a b->a[j]?=Z x->∃v,b[j]?=Z v/\RE base w x v
 |[],_,j,_,_,hj=>by simp at hj
 |y::a,[],j,_,h,_=>by cases h
 |y::a,v::b,0,x,h,hj=>by
  simp at hj;subst hj;exact⟨v,rfl,h.1⟩
 |y::a,v::b,j+1,x,h,hj=>by
  obtain⟨u,c,d⟩:=NP (j:=j) h.2 (by simpa using hj);exact⟨u,by simpa using c,d⟩
theorem PX (w:J)(b0 b1:Nat)(ve:O)(a:List Yk)(Y:List O)(h:w.ownsRow b0 256 1 ve a.length Y)(hv:YT b1 w a Y)(ho:∀x,x∈a->WL x)(hn:a.length<=4000):
  G U 102 #[ve] w (T1 (ZZ [] [] a) w):=by
 have HO:=Za ho;have HV:=Za hv;have HA:Hid (F0 w (w.alloc (.cells #[P I 0 0,P I 0 0] 89))):=(Fr.refl _ _).alloc _;have E:=Za (CY w);clear ho hv;by_cases F:0<a.length
 ·obtain⟨g,cap,rfl,hb,hl⟩:=h.form F
  have q:∀k,(⟨g,0,I⟩:Addr).add k=⟨g,k,I⟩:=fun k=>by unfold Addr.add;split<;>simp_all
  have HC:Hid (∀j v,Y[j]?=Z v->w.cell? ⟨g,j,I⟩=Z v):=fun j v hj=>by have:=h.cells (g:=g) rfl j v hj;rwa [q]at this
  clear h F q;go_enter Tryz.func102,Tryz.ntmps102;go_wp2_with fail
  go_loopg [5,10] a.length (fun m _ c wr=>∃j d i vr vl W,j<=a.length/\m=a.length-j/\c=.int .i64 j/\Hid (Bk wr w.heap.size vr vl d i W)/\Hid (Below w.heap.size w wr)/\Hid (ZZ [] [] a=ZZ d i (a.drop j)))
  case atStart=>exact⟨0,[],[],_,_,_,Nat.zero_le _,rfl,rfl,E,HA.o.below (H _) (by simp),rfl⟩
  case round=>
   obtain⟨j,d,i,vr,vl,W,hj,rfl,rfl,HK,s,K⟩:=hrel;by_cases a0:j<a.length
   ·obtain⟨x,X⟩:∃x,a[j]?=Z x:=⟨_,gE a0⟩
    obtain⟨v,L,hE⟩:=NP HV.o X;have HX:=Za (hE.fr (Fr.of_below (S:=fun _=>False) s.o) (by simp) (H _));have M:=Za (HO.o x (mG X));have c0:wr.cell? ⟨g,j,I⟩=Z v:=(s.o.cell (p:=⟨g,j,I⟩) hl).trans (HC.o j v L)
    have b:Hid (a.drop j=x::a.drop (j+1)):=by
     obtain⟨N,t⟩:=iG.1 X
     show _=_
     rw[dC N,t]
    have d0:(j:Int)<(a.length:Int):=by omega
    clear X L hE
    cases x with
    |route r=>
     have e0:v=.iface 290 (Uz r):=HX.o;subst e0
     have hm:∀w:J,(method 506 290 (Uz r) "junction/rules.addTo").run U w=.ok (314,Uz r) w:=fun _=>by kernel_rfl
     go_wp2_with fail;refine(DR _ w.heap.size _ _ d i W r HK.o M.o).mono ?_;intro e w2 u
     cases l:VT d i (.route r)with
     |error f=>
      obtain⟨t,n⟩:=(Vv.err l).1 u;unfold Zj at t;subst t
      have hu:ZZ [] [] a=.error f:=by rw[K.o,b.o];exact Xr l
      exact⟨rfl,(T1.err hu).2 ⟨rfl,s.o.trans n⟩⟩
     |ok p=>
      obtain⟨rfl,⟨y,z,A,Q⟩,n⟩:=(Vv.ok l).1 u;have B:=Za Q;have C:=Za (s.o.trans n)
      have D:Hid (ZZ [] [] a=ZZ p.1 p.2 (a.drop (j+1))):=by show _=_;rw[K.o,b.o];exact X4 l
      clear Q n l u;go_wp2;go_roundg (a.length-(j+1))
      case measure=>omega
      case rel=>exact⟨j+1,p.1,p.2,y,z,A,by omega,rfl,by go_num,B,C,D⟩
    |rule r=>
     obtain⟨vm,vc,vp,rfl,R,T,V⟩:=HX.o;have f0:=Za R;have g0:=Za T;have h0:=Za V;clear R T V
     have hm:∀w:J,(method 506 295 (QL r vm vc vp) "junction/rules.addTo").run U w=.ok (318,QL r vm vc vp) w:=fun _=>by kernel_rfl
     go_wp2_with fail;refine(DS _ w.heap.size b1 _ _ d i W r vm vc vp HK.o M.o f0.o g0.o h0.o).mono ?_;intro e w2 u
     cases l:VT d i (.rule r)with
     |error f=>
      obtain⟨t,n⟩:=(Vv.err l).1 u;unfold Zj at t;subst t
      have hu:ZZ [] [] a=.error f:=by rw[K.o,b.o];exact Xr l
      exact⟨rfl,(T1.err hu).2 ⟨rfl,s.o.trans n⟩⟩
     |ok p=>
      obtain⟨rfl,⟨y,z,A,Q⟩,n⟩:=(Vv.ok l).1 u;have B:=Za Q;have C:=Za (s.o.trans n)
      have D:Hid (ZZ [] [] a=ZZ p.1 p.2 (a.drop (j+1))):=by show _=_;rw[K.o,b.o];exact X4 l
      clear Q n l u;go_wp2;go_roundg (a.length-(j+1))
      case measure=>omega
      case rel=>exact⟨j+1,p.1,p.2,y,z,A,by omega,rfl,by go_num,B,C,D⟩
   ·have d0:¬(j:Int)<(a.length:Int):=by omega
    have HQ:Hid (ZZ [] [] a=.ok (d,i)):=by show _=_;rw[K.o,dL (by omega)];rfl
    go_wp2;go_ret;exact(T1.ok HQ.o).2 ⟨rfl,⟨_,_,_,HK.o⟩,s.o⟩
 ·have hz:a=[]:=List.eq_nil_of_length_eq_zero (by omega)
  subst hz;rcases h.2 with⟨rfl,_⟩|⟨g,cap,i0,rfl,_⟩
  all_goals
   clear h;go_enter Tryz.func102,Tryz.ntmps102;go_wp2_with fail
   go_loopg [5,10] 1 (fun m _ c wr=>m=1/\c=.int .i64 0/\wr=w.alloc (.cells #[P I 0 0,P I 0 0] 89))
   case atStart=>exact⟨rfl,rfl,rfl⟩
   case round=>
    obtain⟨rfl,rfl,rfl⟩:=hrel;go_wp2;go_ret;exact(T1.ok (p:=([],[])) rfl).2 ⟨rfl,⟨_,_,_,E.o⟩,HA.o.below (H _) (by simp)⟩
def Ta (n:Nat)(t:Tk):Prop:=(t.sort=1->Dg t.text)/\t.text.size<=n/\t.sort<=3
theorem PY (p:Int->Bool):∀(l:List UInt8)(j:Nat),j<Ys p l->∃c,l[j]?=Z c/\p (c.toNat:Int)=true
 |[],j,h=>by simp[Ys]at h
 |c::r,j,h=>by
  simp only[Ys]at h
  split at h
  ·rename_i a
   cases j with
   |zero=>exact⟨c,rfl,a⟩
   |succ j=>
    obtain⟨d,b,e⟩:=PY p r j (by omega);exact⟨d,by simpa using b,e⟩
  ·omega
theorem QQ (s:ByteArray)(a b j:Nat)(h:a+j<b):Zv (s.extract a b) j=Zv s (a+j):=by
 unfold Zv;rw[Lib.extract_data,gD,gD,List.getElem?_take,if_pos (by omega),E]
theorem CZ (s:ByteArray)(k:Nat)(d:k<=s.size)(i:Zt iD s k<=9):Dg (s.extract k (k+Zt iD s k)):=by
 have f:=Xw iD s k d;refine⟨by simp;omega,fun j g=>?_⟩
 have a:j<Zt iD s k:=by simp at g;omega
 rw[QQ s k _ j (by omega)];obtain⟨c,b,h⟩:=PY iD (s.data.toList.drop k) j a;rw[E]at b
 have e:Zv s (k+j)=(c.toNat:Int):=by unfold Zv;rw[gD,b];rfl
 rw[e]
 simpa[iD]using h
theorem Jw {s:ByteArray}{k f k':Nat}{t:Tk}(h:k<s.size)(c:Zl s k f=.tok t k'):Ta s.size t:=by
 have g:∀a b,(s.extract a b).size<=s.size:=fun a b=>by simp;omega
 unfold Zl at c
 split at c
 ·contradiction
 split at c
 ·contradiction
 split at c
 ·contradiction
 split at c
 ·split at c
  ·injection c with d i;subst d;exact⟨fun e=>by simp at e,g _ _,by simp⟩
  split at c
  ·contradiction
  ·injection c with d i;subst d;exact⟨fun e=>by simp at e,g _ _,by simp⟩
 split at c
 ·split at c
  ·contradiction
  ·rename_i j
   injection c with d i;subst d;exact⟨fun _=>CZ s k (by omega) (by omega),g _ _,by simp⟩
 split at c
 ·injection c with d i;subst d;exact⟨fun e=>by simp at e,g _ _,by simp⟩
 split at c
 ·injection c with d i;subst d;exact⟨fun e=>by simp at e,g _ _,by simp⟩
 ·contradiction
theorem T2 {s:ByteArray}:∀(n k a:Nat)(c ts:List Tk),s.size-k=n->(∀t,t∈c->Ta s.size t)->ZL s k a c=.ok ts->(∀t,t∈ts->Ta s.size t)/\(ts.getLastD ⟨3,ByteArray.empty,0⟩).sort=3/\0<ts.length:=by
 intro n
 induction n using K with
 |ind n i=>
  intro k a c ts j d h;by_cases f:k<s.size
  ·cases g:Zl s k a with
   |skip k' l'=>
    rw[YY f g]at h;have:=Ww f g;exact i (s.size-k') (by omega) k' l' c ts rfl d h
   |tok t k'=>
    rw[Ve f g]at h;have:=Va f g;refine i (s.size-k') (by omega) k' a (c++[t]) ts rfl (fun u b=>?_) h;rcases V.1 b with b|b
    ·exact d u b
    ·simp at b;subst b;exact Jw f g
   |bad=>rw[XN f g]at h;cases h
  ·rw[Vf f]at h
   injection h with h;subst h;refine⟨fun u b=>?_,by simp,by simp⟩;rcases V.1 b with b|b
   ·exact d u b
   ·simp at b;subst b;exact⟨fun e=>by simp at e,by simp,by simp⟩
section
variable {n:Nat} {ts:List Tk}
theorem DT (h:∀t,t∈ts->Ta n t)(i:Nat):Ta n (Zs ts i):=by
 unfold Zs;rw[gD]
 cases a:ts[i]? with
 |none=>exact⟨fun e=>by simp at e,by simp,by simp⟩
 |some t=>exact h t (mG a)
theorem RH (h:∀t,t∈ts->Ta n t){i a:Nat}{t:Tk}{k:Nat}(b:Ya ts i a=.ok (t,k)):Ta n t/\t.sort=a:=by
 obtain⟨rfl,c,_⟩:=YI b;exact⟨DT h i,c⟩
theorem RI (h:∀t,t∈ts->Ta n t){i:Nat}{t:Tk}{k:Nat}(a:Ya ts i 1=.ok (t,k)):Dg t.text:=
 have:=RH h a
 this.1.1 this.2
theorem DU (h:∀t,t∈ts->Ta n t){a:Nat}:∀(m i:Nat)(b l:List Tk)(k:Nat),ts.length-i=m->(∀t,t∈b->Ta n t/\t.sort=a)->We ts i a b=.ok (l,k)->(∀t,t∈l->Ta n t/\t.sort=a)/\l.length<=b.length+(ts.length-i):=by
 intro m
 induction m using K with
 |ind m p=>
  intro i b l k v f c;rw[We]at c
  split at c
  ·rename_i q
   have r:=Uv q
   split at c
   ·cases c
   ·rename_i t g j
    have e:=(YI j).2.2
    have:=p (ts.length-g) (by omega) g _ l k rfl (fun u d=>by
     rcases V.1 d with d|d
     ·exact f u d
     ·simp at d;subst d;exact RH h j) c
    refine⟨this.1,?_⟩;have o:=this.2;simp at o;omega
  ·injection c with c
   injection c with s o;subst s;exact⟨f,by omega⟩
theorem MR (h:∀t,t∈ts->Ta n t){i a:Nat}{l:List Tk}{k:Nat}(b:Xi ts i a=.ok (l,k)):(∀t,t∈l->Ta n t/\t.sort=a)/\l.length<=1+ts.length:=by
 unfold Xi at b
 split at b
 ·cases b
 ·rename_i t d e
  have:=DU h _ d [t] l k rfl (fun u c=>by simp at c;subst c;exact RH h e) b;exact⟨this.1,by have:=this.2;simp at this;omega⟩
theorem PZ (h:∀t,t∈ts->Ta n t){i:Nat}{kw:ByteArray}{l:List Tk}{k:Nat}(a:YM ts i kw=.ok (l,k)):(∀t,t∈l->Dg t.text)/\l.length<=1+ts.length:=by
 unfold YM at a
 split at a
 ·have:=MR h a
  exact⟨fun t b=>(this.1 t b).1.1 (this.1 t b).2,this.2⟩
 ·injection a with a
  injection a with c _;subst c;exact⟨by simp,by simp⟩
theorem MS (h:∀t,t∈ts->Ta n t){i:Nat}{d:Tk×Tk}{k:Nat}(c:Uu ts i=.ok (d,k)):Dg d.1.text/\Dg d.2.text:=by
 rw[Wk]at c;obtain⟨a,g,e,c⟩:=bI c;obtain⟨_,j,l,c⟩:=bI c;obtain⟨b,m,f,c⟩:=bI c;injection c with c;injection c with c _;subst c;exact⟨RI h e,RI h f⟩
theorem Jy (h:∀t,t∈ts->Ta n t){i:Nat}{kw:ByteArray}{o:Option (Tk×Tk)}{k:Nat}(a:XR ts i kw=.ok (o,k)):∀b,o=Z b->Dg b.1.text/\Dg b.2.text:=by
 unfold XR at a
 split at a
 ·obtain⟨b,j,d,c⟩:=bI a
  injection c with c;injection c with c _;subst c;intro f e;injection e with e;subst e;exact MS h d
 ·injection a with a
  injection a with a _;subst a;intro b e
  cases e
theorem Gz (h:∀t,t∈ts->Ta n t){i:Nat}{a:Rv}{k:Nat}(c:Xj ts i=.ok (a,k)):a.routes.length<=1+ts.length:=by
 unfold Xj at c
 split at c
 ·injection c with c;injection c with c _;subst c;simp
 split at c
 ·obtain⟨l,j,d,b⟩:=bI c
  injection b with b;injection b with b _;subst b;exact(MR h d).2
 ·obtain⟨l,j,d,b⟩:=bI c
  injection b with b;injection b with b _;subst b;exact(MR h d).2
theorem Eo (h:∀t,t∈ts->Ta n t)(v:n<=3000)(I:ts.length<=3999){i:Nat}{e:Yk}{k:Nat}(o:Z5 ts i=.ok (e,k)):WL e:=by
 unfold Z5 at o
 split at o
 ·obtain⟨r,j,m,l⟩:=bI o
  injection l with l;injection l with l _;subst l;unfold WE at m;obtain⟨a,B,p,m⟩:=bI m;obtain⟨b,w,q,m⟩:=bI m;obtain⟨c,C,x,m⟩:=bI m;injection m with m;injection m with m _;subst m;exact⟨Y (RH h p).1.2.1 v,RI h q,RI h x⟩
 ·obtain⟨_,j,m,o⟩:=bI o
  obtain⟨r,w,l,o⟩:=bI o;injection o with o;injection o with o _;subst o;unfold Wf at l;obtain⟨a,B,p,l⟩:=bI l;obtain⟨b,w,q,l⟩:=bI l;obtain⟨_,C,x,l⟩:=bI l;obtain⟨_,J,K,l⟩:=bI l;obtain⟨c,L,y,l⟩:=bI l;obtain⟨d,M,D,l⟩:=bI l;obtain⟨f,N,E,l⟩:=bI l;obtain⟨g,O,F,l⟩:=bI l;obtain⟨_,P,Q,l⟩:=bI l;obtain⟨G,H,s,l⟩:=bI l;injection l with l;injection l with l _;subst l;have z:=PZ h D;have A:=PZ h F;have u:=Gz h s;exact⟨Y (RH h p).1.2.1 v,RI h q,(MS h y).1,(MS h y).2,z.1,A.1,Jy h E,Y z.2 (by omega),Y A.2 (by omega),Y u (by omega)⟩
theorem P0 (h:∀t,t∈ts->Ta n t)(s:n<=3000)(v:ts.length<=3999):∀(m i:Nat)(c g:List Yk)(k:Nat),ts.length-i=m->(∀x,x∈c->WL x)->Zu ts i c=.ok (g,k)->∀x,x∈g->WL x:=by
 intro m
 induction m using K with
 |ind m w=>
  intro i c g k y p a;by_cases d:(Zs ts i).sort=3
  ·rw[X1 d]at a
   injection a with a;injection a with a _;subst a;exact p
  ·cases f:Z5 ts i with
   |error l=>rw[Y2 d f]at a;cases a
   |ok r=>
    obtain⟨e,j⟩:=r
    cases b:ZG ts j WK with
    |error l=>rw[Xx d f b]at a;cases a
    |ok r=>
     obtain⟨u,q⟩:=r;rw[Wx d f b]at a;have z:=Vc f;have A:=YB b
     have B:i<ts.length:=by
      rcases Nat.lt_or_ge i ts.length with o|o
      ·exact o
      ·exfalso
       apply d;unfold Zs;rw[gD,List.getElem?_eq_none o];rfl
     refine w (ts.length-q) (by omega) q _ g k rfl (fun x b=>?_) a;rcases V.1 b with b|b
     ·exact p x b
     ·simp at b;subst b;exact Eo h s v f
end
