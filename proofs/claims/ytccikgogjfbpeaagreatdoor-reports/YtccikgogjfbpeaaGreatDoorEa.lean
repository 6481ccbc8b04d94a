import Derived.Test.YtccikgogjfbpeaaGreatDoorDf
import Derived.Test.YtccikgogjfbpeaaGreatDoorZh
open Go.Ending renaming returned->I,returned->E
open Go.Value renaming bool->J,int->V,slice->H,bool->B,string->D
open Nat renaming le_refl->S,zero_le->N
open Go.IntKind renaming i64->Y
open Option renaming some->Z,none->O
open Go.Proofs.Tryz renaming prog->U
open Go.RowKit renaming Hid->K
open List renaming length_eq_zero_iff->G,any_cons->R
open Go renaming Calls->M,World->T
namespace Go.Proofs.YtccikgogjfbpeaaGreatDoor
set_option maxRecDepth 30000
set_option maxHeartbeats 8000000
open Go.RowKit
theorem KF (x:Nat)(r:List Nat)(n:Int):Vo (x::r) n=(((x:Int)==n)||Vo r n):=by
 unfold Vo;rw[R]
 congr 1
theorem E9 (x:ByteArray)(r:List ByteArray)(s:ByteArray):Lg (x::r) s=((x.toList==s.toList)||Lg r s):=by
 unfold Lg;rw[R]
 congr 1
 exact BEq.comm
theorem So (w:T)(a:Option Addr)(c:Nat)(l:List Nat)(n:Int)(h:Zw w a l)(t:l.length<=4000):
  M U 139 #[H a l.length c,V Y n] w fun e w'=>e=E (B (Vo l n))/\w'=w:=by
 have u:=Za h;obtain⟨m,f⟩:∃m,l.length=m:=⟨_,rfl⟩;have q:=Za f;rw[f]at t ⊢;clear h f;go_enter Tryz.func139,Tryz.ntmps139;go_wp2_with fail
 go_loop [5] (fun i=>∃k:Nat,k<=m/\i=V Y k/\K (Vo l n=Vo (l.drop k) n)) (fun i=>m-(intOf i).toNat)
 case atStart=>exact⟨0,N _,rfl,rfl⟩
 case round=>
  obtain⟨k,C,rfl,r⟩:=hrel;by_cases v:k<m
  ·have j:(k:Int)<(m:Int):=by omega
   obtain⟨x,p⟩:∃x,l[k]?=Z x:=⟨_,gE (by have:=q.o;omega)⟩;obtain⟨g,rfl,D⟩:=u.o k x p
   have d:K (Vo l n=(((x:Int)==n)||Vo (l.drop (k+1)) n)):=by
    obtain⟨y,z⟩:=iG.1 p
    show _=_
    rw[r.o,dC y,z,KF]
   clear p
   cases s:((x:Int)==n)with
   |true=>
    rw[s,Bool.true_or]at d;go_wp2_with fail;go_ret;exact⟨congrArg (fun b=>I (J b)) d.o.symm,rfl⟩
   |false=>
    rw[s,Bool.false_or]at d;go_wp2_with fail;exact⟨⟨k+1,by omega,by go_num,d⟩,by simp[intOf];omega⟩
  ·have j:¬(k:Int)<(m:Int):=by omega
   have A:K (Vo l n=false):=by show _=_;rw[r.o,dL (by have:=q.o;omega)];rfl
   go_wp2_with fail;go_ret;exact⟨congrArg (fun b=>I (J b)) A.o.symm,rfl⟩
theorem KG (w:T)(a:Option Addr)(c:Nat)(l:List ByteArray)(s:ByteArray)(h:Yz w a l)(f:l.length<=maxLen):
  M U 101 #[H a l.length c,D s] w fun e w'=>e=E (B (Lg l s))/\w'=w:=by
 have u:=Za h;unfold maxLen at f;obtain⟨m,j⟩:∃m,l.length=m:=⟨_,rfl⟩;have q:=Za j;rw[j]at f ⊢
 have v:(m:Int)<=9223372036854775807:=by omega
 clear h j f;go_enter Tryz.func101,Tryz.ntmps101;go_wp2_with fail
 go_loop [5] (fun i=>∃k:Nat,k<=m/\i=V Y k/\K (Lg l s=Lg (l.drop k) s)) (fun i=>m-(intOf i).toNat)
 case atStart=>exact⟨0,N _,rfl,rfl⟩
 case round=>
  obtain⟨k,F,rfl,r⟩:=hrel;by_cases y:k<m
  ·have n:(k:Int)<(m:Int):=by omega
   obtain⟨x,p⟩:∃x,l[k]?=Z x:=⟨_,gE (by have:=q.o;omega)⟩;obtain⟨g,o,rfl,G⟩:=u.o k x p
   have d:K (Lg l s=((x.toList==s.toList)||Lg (l.drop (k+1)) s)):=by
    obtain⟨z,A⟩:=iG.1 p
    show _=_
    rw[r.o,dC z,A,E9]
   clear p
   cases t:(x.toList==s.toList)with
   |true=>
    rw[t,Bool.true_or]at d;go_wp2_with fail;go_ret;exact⟨congrArg (fun b=>I (J b)) d.o.symm,rfl⟩
   |false=>
    rw[t,Bool.false_or]at d;go_wp2_with fail;exact⟨⟨k+1,by omega,by go_num,d⟩,by simp[intOf];omega⟩
  ·have n:¬(k:Int)<(m:Int):=by omega
   have C:K (Lg l s=false):=by show _=_;rw[r.o,dL (by have:=q.o;omega)];rfl
   go_wp2_with fail;go_ret;exact⟨congrArg (fun b=>I (J b)) C.o.symm,rfl⟩
theorem RZ (w:T)(p:ZI)(r:p.pan.size<=maxLen):
  M U 86 #[UM p] w fun e w'=>e=E (B (Yd p))/\F0 w w':=by
 have c:K (F0 w (w.alloc (Xt p))):=(Fr.refl _ _).alloc _;have f:K ((w.alloc (Xt p)).heap[w.heap.size]?=Z (Xt p)):=aN w _;unfold Xt at c f;unfold UM;unfold maxLen at r
 have t:(p.pan.size:Int)<=9223372036854775807:=by omega
 clear r;go_enter Tryz.func86,Tryz.ntmps86;go_upto_region 1 with fail;generalize w.alloc (.cells #[D p.pan,V Y p.mcc,V Y p.am,V Y p.cur] 35)=W at*;generalize w.heap.size=X at*;have y:=bC f.o 0 _ rfl;have z:=bC f.o 1 _ rfl;have A:=bC f.o 2 _ rfl;have C:=bC f.o 3 _ rfl;go_wp2_with fail
 go_loop [3] (fun i=>∃k:Nat,k<=p.pan.size/\i=V Y k/\K (Xa p.pan 0=Xa p.pan k)) (fun i=>p.pan.size-(intOf i).toNat)
 case atStart=>exact⟨0,N _,rfl,rfl⟩
 case round=>
  obtain⟨k,u,rfl,g⟩:=hrel;by_cases d:k<p.pan.size
  ·have j:(k:Int)<(p.pan.size:Int):=by omega
   have l:=fun w=>ZN (P:=U) Tryz.underlying9 p.pan k (k:Int) rfl d w
   have h:=Za (RT p.pan k d);obtain⟨b,s⟩:∃b,Zv p.pan k=b:=⟨_,rfl⟩;rw[s]at l h;clear s;by_cases v:b<48
   ·have m:K (Yd p=false):=by
     show _=_
     rw[Y7,show Xv p.pan=false from ?_]
     ·rfl
     ·show(decide (6<=p.pan.size)&&(decide (p.pan.size<=19)&&Xa p.pan 0))=false
      rw[g.o,h.o];simp[iD];omega
    go_wp2_with fail;go_ret;exact⟨congrArg (fun b=>I (J b)) m.o.symm,c.o⟩
   ·by_cases x:57<b
    ·have m:K (Yd p=false):=by
      show _=_
      rw[Y7,show Xv p.pan=false from ?_]
      ·rfl
      ·show(decide (6<=p.pan.size)&&(decide (p.pan.size<=19)&&Xa p.pan 0))=false
       rw[g.o,h.o];simp[iD];omega
     go_wp2_with fail;go_ret;exact⟨congrArg (fun b=>I (J b)) m.o.symm,c.o⟩
    ·have n:K (Xa p.pan 0=Xa p.pan (k+1)):=by
      show _=_
      rw[g.o,h.o,show iD b=true from by simp[iD];omega,Bool.true_and]
     go_wp2_with fail;exact⟨⟨k+1,by omega,by go_num,n⟩,by simp[intOf];omega⟩
  ·have j:¬(k:Int)<(p.pan.size:Int):=by omega
   have q:K (Xa p.pan 0=true):=by show _=_;rw[g.o];exact Q5 p.pan k (by omega)
   have a:K (Yd p=((decide (6<=p.pan.size)&&(decide (p.pan.size<=19)&&true))&&(XD p.mcc 9999&&(XD p.am 1000000000&&XD p.cur 999)))):=by
    show _=_
    rw[Y7,<-q.o];rfl
   clear u d;by_cases c1:(6:Int)<=(p.pan.size:Int)
   ·skip
    by_cases F:(p.pan.size:Int)<=19
    ·skip
     by_cases G:0<=p.mcc
     ·skip
      by_cases H:p.mcc<=9999
      ·skip
       by_cases L:0<=p.am
       ·skip
        by_cases O:p.am<=1000000000
        ·skip
         by_cases Q:0<=p.cur
         ·skip
          by_cases R:p.cur<=999
          ·skip
           go_wp2_with fail;go_ret;exact⟨congrArg (fun b=>I (J b)) (show true=Yd p from by rw[a.o];simp[XD];omega),c.o⟩
          ·skip
           go_wp2_with fail;go_ret;exact⟨congrArg (fun b=>I (J b)) (show false=Yd p from by rw[a.o];simp[XD];omega),c.o⟩
         ·skip
          go_wp2_with fail;go_ret;exact⟨congrArg (fun b=>I (J b)) (show false=Yd p from by rw[a.o];simp[XD];omega),c.o⟩
        ·skip
         go_wp2_with fail;go_ret;exact⟨congrArg (fun b=>I (J b)) (show false=Yd p from by rw[a.o];simp[XD];omega),c.o⟩
       ·skip
        go_wp2_with fail;go_ret;exact⟨congrArg (fun b=>I (J b)) (show false=Yd p from by rw[a.o];simp[XD];omega),c.o⟩
      ·skip
       go_wp2_with fail;go_ret;exact⟨congrArg (fun b=>I (J b)) (show false=Yd p from by rw[a.o];simp[XD];omega),c.o⟩
     ·skip
      go_wp2_with fail;go_ret;exact⟨congrArg (fun b=>I (J b)) (show false=Yd p from by rw[a.o];simp[XD];omega),c.o⟩
    ·skip
     go_wp2_with fail;go_ret;exact⟨congrArg (fun b=>I (J b)) (show false=Yd p from by rw[a.o];simp[XD];omega),c.o⟩
   ·skip
    go_wp2_with fail;go_ret;exact⟨congrArg (fun b=>I (J b)) (show false=Yd p from by rw[a.o];simp[XD];omega),c.o⟩
theorem It {s:ByteArray}(h:Xv s=true)(d:Nat)(l:d<=6):Dg (s.extract 0 d)/\Yt (s.extract 0 d).data.toList=Zz s/10^(6-d):=by
 obtain⟨m,_,a⟩:=Ut h
 have c:(s.extract 0 d).data.toList=s.data.toList.take d:=by rw[Lib.extract_data];simp
 have f:s.data.toList.length=s.size:=by simp
 refine⟨⟨?_,fun k g=>?_⟩,?_⟩
 ·rw[ByteArray.size_extract]
  omega
 ·have b:k<(s.extract 0 d).data.toList.length:=by simpa using g
  unfold Zv;rw[gD,gE b,Option.getD_some];have j:(s.extract 0 d).data.toList[k]∈s.data.toList:=List.mem_of_mem_take (i:=d) (by rw[<-c];exact List.getElem_mem b);have:=a _ j;omega
 ·rw[c]
  unfold Zz;have e:=Rh a (6-d) d (by omega);rw[show d+(6-d)=6 from by omega]at e;exact e.symm
def Yr (r:Zc)(p:ZI):Bool:=decide (r.lo<=Zz p.pan/10^(6-r.digits))&&(decide (Zz p.pan/10^(6-r.digits)<=r.hi)&&VO r p)
def Ac (r:Zc)(a:Option Addr)(b:Nat)(c:Option Addr)(d:Nat)(e:Option Addr)(f:Nat):List Value:=
 [D r.name,V Y (r.rank:Nat),V Y (r.digits:Nat),V Y (r.lo:Nat),V Y (r.hi:Nat),H a r.mcc.length b,H c r.cur.length d,B r.am.isSome,V Y ((r.am.getD (0,0)).1:Nat),V Y ((r.am.getD (0,0)).2:Nat),H e r.routes.length f,B r.decline,B r.cheapest]
theorem Rk (w:T)(g o:Nat)(r:Zc)(ma:Option Addr)(mc:Nat)(ca:Option Addr)(cc:Nat)(pa:Option Addr)(pc n:Nat)(p:ZI)(hc:∀j v,(Ac r ma mc ca cc pa pc)[j]?=Z v->w.cell? ⟨g,o+j,O⟩=Z v)(hm:Zw w ma r.mcc)(hu:Zw w ca r.cur)(ho:UL n r)(hp:Xv p.pan=true):
  M U 87 #[.pointer (Z ⟨g,o,O⟩),UM p] w fun e w'=>e=E (B (Yr r p))/\F0 w w':=by
 have c:K (F0 w (w.alloc (Xt p))):=(Fr.refl _ _).alloc _;have HX:K ((w.alloc (Xt p)).heap[w.heap.size]?=Z (Xt p)):=aN w _;unfold Xt at c HX;unfold UM;obtain⟨a0,k⟩:=It hp r.digits ho.bn.1;obtain⟨l,y⟩:∃l,Zz p.pan/10^(6-r.digits)=l:=⟨_,rfl⟩;rw[y]at k
 have b0:K (∀W,M U 133 #[D (p.pan.extract 0 r.digits)] W fun e w'=>e=E (V Y (l:Nat))/\w'=W):=fun W=>by rw[<-k];exact UB _ W a0
 have z:K (∀W,F0 w W->M U 139 #[H ma r.mcc.length mc,V Y p.mcc] W fun e w'=>e=E (B (Vo r.mcc p.mcc))/\w'=W):=fun W hf=>So W ma mc r.mcc p.mcc (hm.fr hf (by simp)) ho.mc.1
 have A:K (∀W,F0 w W->M U 139 #[H ca r.cur.length cc,V Y p.cur] W fun e w'=>e=E (B (Vo r.cur p.cur))/\w'=W):=fun W hf=>So W ca cc r.cur p.cur (hu.fr hf (by simp)) ho.cu.1
 obtain⟨h,C⟩:∃h,r.am.getD (0,0)=h:=⟨_,rfl⟩
 have d:K (Yr r p=(decide ((r.lo:Int)<=(l:Int))&&(decide ((l:Int)<=(r.hi:Int))&&((decide (r.mcc.length=0)||Vo r.mcc p.mcc)&&((!r.am.isSome||(decide ((h.1:Int)<=p.am)&&decide (p.am<=(h.2:Int))))&&(decide (r.cur.length=0)||Vo r.cur p.cur)))))):=by
  show _=_
  unfold Yr VO OH;rw[y]
  have e1:decide (r.lo<=l)=decide ((r.lo:Int)<=(l:Int)):=by congr 1;apply propext;omega
  have e2:decide (l<=r.hi)=decide ((l:Int)<=(r.hi:Int)):=by congr 1;apply propext;omega
  have e3:decide (r.mcc=[])=decide (r.mcc.length=0):=by congr 1;apply propext;exact G.symm
  have e4:decide (r.cur=[])=decide (r.cur.length=0):=by congr 1;apply propext;exact G.symm
  rw[e1,e2,e3,e4,<-C]
  cases r.am with
  |none=>rfl
  |some h=>rfl
 have F:=fun j v hv=>(c.o.cell (p:=⟨g,o+j,O⟩) (bL w _ (hc j v hv)) (by simp)).trans (hc j v hv)
 have f0:=(Ut hp).1;have g0:=ho.bn.1;obtain⟨m,L⟩:∃b,r.am.isSome=b:=⟨_,rfl⟩;obtain⟨mn,s⟩:∃mn,r.mcc.length=mn:=⟨_,rfl⟩;obtain⟨N,t⟩:∃N,r.cur.length=N:=⟨_,rfl⟩;obtain⟨bm,P⟩:∃b,Vo r.mcc p.mcc=b:=⟨_,rfl⟩;obtain⟨bc,Q⟩:∃b,Vo r.cur p.cur=b:=⟨_,rfl⟩;rw[L,s,t,P,Q]at d;rw[s,P]at z;rw[t,Q]at A
 have q:K (∀i,F0 (w.alloc (.cells #[D p.pan,V Y p.mcc,V Y p.am,V Y p.cur] 35)) i->i.cell? ⟨w.heap.size,0,O⟩=Z (D p.pan)/\i.cell? ⟨w.heap.size,1,O⟩=Z (V Y p.mcc)/\i.cell? ⟨w.heap.size,2,O⟩=Z (V Y p.am)/\i.cell? ⟨w.heap.size,3,O⟩=Z (V Y p.cur)/\i.cell? ⟨g,o+2,O⟩=Z (V Y (r.digits:Nat))/\i.cell? ⟨g,o+3,O⟩=Z (V Y (r.lo:Nat))/\i.cell? ⟨g,o+4,O⟩=Z (V Y (r.hi:Nat))/\i.cell? ⟨g,o+5,O⟩=Z (H ma mn mc)/\i.cell? ⟨g,o+6,O⟩=Z (H ca N cc)/\i.cell? ⟨g,o+7,O⟩=Z (B m)/\i.cell? ⟨g,o+8,O⟩=Z (V Y (h.1:Nat))/\i.cell? ⟨g,o+9,O⟩=Z (V Y (h.2:Nat))):=by
  intro i hf;have e:=hf.whole HX.o (by simp)
  have f:=fun j v hv=>(hf.cell (p:=⟨g,o+j,O⟩) (bL _ _ (F j v hv)) (by simp)).trans (F j v hv)
  rw[<-L,<-s,<-t,<-C];exact⟨bC e 0 _ rfl,bC e 1 _ rfl,bC e 2 _ rfl,bC e 3 _ rfl,f 2 _ rfl,f 3 _ rfl,f 4 _ rfl,f 5 _ rfl,f 6 _ rfl,f 7 _ rfl,f 8 _ rfl,f 9 _ rfl⟩
 clear hc hm hu ho hp a0 k y C L s t P Q F HX;go_enter Tryz.func87,Tryz.ntmps87;go_upto_region 1 with fail;generalize w.alloc (.cells #[D p.pan,V Y p.mcc,V Y p.am,V Y p.cur] 35)=W at*;generalize w.heap.size=X at*;obtain⟨x0,x1,x2,x3,v2,v3,v4,v5,v6,v7,v8,v9⟩:=q.o W (Fr.refl _ _)
 have h0:(r.digits:Int)<=(p.pan.size:Int):=by omega
 go_quiet ((go_at_call 133;exact Calls.quiet_of_same (b0.o _)))
 have u:K (F0 W (W.drewN nq)):=⟨rfl,rfl,rfl,S _,fun _ _ _=>rfl⟩;clear x0 x1 x2 x3 v2 v3 v4 v5 v6 v7 v8 v9;obtain⟨x0,x1,x2,x3,v2,v3,v4,v5,v6,v7,v8,v9⟩:=q.o _ u.o;generalize W.drewN nq=W1 at*;go_upto_region 2 with fail
 go_quiet ((go_at_call 139;exact Calls.quiet_of_same (z.o _ ((c.o.trans u.o).trans ⟨rfl,rfl,rfl,S _,fun _ _ _=>rfl⟩))))
 have x:K (F0 W (W1.drewN nq)):=u.o.trans ⟨rfl,rfl,rfl,S _,fun _ _ _=>rfl⟩;clear x0 x1 x2 x3 v2 v3 v4 v5 v6 v7 v8 v9 u;obtain⟨x0,x1,x2,x3,v2,v3,v4,v5,v6,v7,v8,v9⟩:=q.o _ x.o;generalize W1.drewN nq=W2 at*;go_upto_region 3 with fail
 go_quiet ((go_at_call 139;exact Calls.quiet_of_same (A.o _ ((c.o.trans x.o).trans ⟨rfl,rfl,rfl,S _,fun _ _ _=>rfl⟩))))
 have a:K (F0 W (W2.drewN nq)):=x.o.trans ⟨rfl,rfl,rfl,S _,fun _ _ _=>rfl⟩;clear x0 x1 x2 x3 v2 v3 v4 v5 v6 v7 v8 v9 x;obtain⟨x0,x1,x2,x3,v2,v3,v4,v5,v6,v7,v8,v9⟩:=q.o _ a.o;generalize W2.drewN nq=W3 at*;clear q z A b0;go_upto_region 4 with fail;by_cases a1:(r.lo:Int)<=(l:Int)
 ·by_cases a2:(l:Int)<=(r.hi:Int)
  ·cases bm with
   |true=>
    cases bc with
    |true=>
     cases m with
     |false=>
      go_quiet (fail)
      go_wp2_with fail;go_ret;exact⟨congrArg (fun b=>I (J b)) (show true=Yr r p from by rw[d.o];simp;try omega),(c.o.trans a.o).trans ⟨rfl,rfl,rfl,S _,fun _ _ _=>rfl⟩⟩
     |true=>
      by_cases q1:(h.1:Int)<=p.am
      ·by_cases q2:p.am<=(h.2:Int)
       ·skip
        go_quiet (fail)
        go_wp2_with fail;go_ret;exact⟨congrArg (fun b=>I (J b)) (show true=Yr r p from by rw[d.o];simp;try omega),(c.o.trans a.o).trans ⟨rfl,rfl,rfl,S _,fun _ _ _=>rfl⟩⟩
       ·skip
        go_quiet (fail)
        go_wp2_with fail;go_ret;exact⟨congrArg (fun b=>I (J b)) (show false=Yr r p from by rw[d.o];simp;try omega),(c.o.trans a.o).trans ⟨rfl,rfl,rfl,S _,fun _ _ _=>rfl⟩⟩
      ·skip
       go_quiet (fail)
       go_wp2_with fail;go_ret;exact⟨congrArg (fun b=>I (J b)) (show false=Yr r p from by rw[d.o];simp;try omega),(c.o.trans a.o).trans ⟨rfl,rfl,rfl,S _,fun _ _ _=>rfl⟩⟩
    |false=>
     by_cases R:N=0
     ·subst R
      cases m with
      |false=>
       go_quiet (fail)
       go_wp2_with fail;go_ret;exact⟨congrArg (fun b=>I (J b)) (show true=Yr r p from by rw[d.o];simp;try omega),(c.o.trans a.o).trans ⟨rfl,rfl,rfl,S _,fun _ _ _=>rfl⟩⟩
      |true=>
       by_cases q1:(h.1:Int)<=p.am
       ·by_cases q2:p.am<=(h.2:Int)
        ·skip
         go_quiet (fail)
         go_wp2_with fail;go_ret;exact⟨congrArg (fun b=>I (J b)) (show true=Yr r p from by rw[d.o];simp;try omega),(c.o.trans a.o).trans ⟨rfl,rfl,rfl,S _,fun _ _ _=>rfl⟩⟩
        ·skip
         go_quiet (fail)
         go_wp2_with fail;go_ret;exact⟨congrArg (fun b=>I (J b)) (show false=Yr r p from by rw[d.o];simp;try omega),(c.o.trans a.o).trans ⟨rfl,rfl,rfl,S _,fun _ _ _=>rfl⟩⟩
       ·skip
        go_quiet (fail)
        go_wp2_with fail;go_ret;exact⟨congrArg (fun b=>I (J b)) (show false=Yr r p from by rw[d.o];simp;try omega),(c.o.trans a.o).trans ⟨rfl,rfl,rfl,S _,fun _ _ _=>rfl⟩⟩
     ·have c0:((N:Int)==0)=false:=by simp;omega
      go_quiet (fail)
      go_wp2_with fail;go_ret;exact⟨congrArg (fun b=>I (J b)) (show false=Yr r p from by rw[d.o];simp;try omega),(c.o.trans a.o).trans ⟨rfl,rfl,rfl,S _,fun _ _ _=>rfl⟩⟩
   |false=>
    by_cases d0:mn=0
    ·subst d0
     cases bc with
     |true=>
      cases m with
      |false=>
       go_quiet (fail)
       go_wp2_with fail;go_ret;exact⟨congrArg (fun b=>I (J b)) (show true=Yr r p from by rw[d.o];simp;try omega),(c.o.trans a.o).trans ⟨rfl,rfl,rfl,S _,fun _ _ _=>rfl⟩⟩
      |true=>
       by_cases q1:(h.1:Int)<=p.am
       ·by_cases q2:p.am<=(h.2:Int)
        ·skip
         go_quiet (fail)
         go_wp2_with fail;go_ret;exact⟨congrArg (fun b=>I (J b)) (show true=Yr r p from by rw[d.o];simp;try omega),(c.o.trans a.o).trans ⟨rfl,rfl,rfl,S _,fun _ _ _=>rfl⟩⟩
        ·skip
         go_quiet (fail)
         go_wp2_with fail;go_ret;exact⟨congrArg (fun b=>I (J b)) (show false=Yr r p from by rw[d.o];simp;try omega),(c.o.trans a.o).trans ⟨rfl,rfl,rfl,S _,fun _ _ _=>rfl⟩⟩
       ·skip
        go_quiet (fail)
        go_wp2_with fail;go_ret;exact⟨congrArg (fun b=>I (J b)) (show false=Yr r p from by rw[d.o];simp;try omega),(c.o.trans a.o).trans ⟨rfl,rfl,rfl,S _,fun _ _ _=>rfl⟩⟩
     |false=>
      by_cases R:N=0
      ·subst R
       cases m with
       |false=>
        go_quiet (fail)
        go_wp2_with fail;go_ret;exact⟨congrArg (fun b=>I (J b)) (show true=Yr r p from by rw[d.o];simp;try omega),(c.o.trans a.o).trans ⟨rfl,rfl,rfl,S _,fun _ _ _=>rfl⟩⟩
       |true=>
        by_cases q1:(h.1:Int)<=p.am
        ·by_cases q2:p.am<=(h.2:Int)
         ·skip
          go_quiet (fail)
          go_wp2_with fail;go_ret;exact⟨congrArg (fun b=>I (J b)) (show true=Yr r p from by rw[d.o];simp;try omega),(c.o.trans a.o).trans ⟨rfl,rfl,rfl,S _,fun _ _ _=>rfl⟩⟩
         ·skip
          go_quiet (fail)
          go_wp2_with fail;go_ret;exact⟨congrArg (fun b=>I (J b)) (show false=Yr r p from by rw[d.o];simp;try omega),(c.o.trans a.o).trans ⟨rfl,rfl,rfl,S _,fun _ _ _=>rfl⟩⟩
        ·skip
         go_quiet (fail)
         go_wp2_with fail;go_ret;exact⟨congrArg (fun b=>I (J b)) (show false=Yr r p from by rw[d.o];simp;try omega),(c.o.trans a.o).trans ⟨rfl,rfl,rfl,S _,fun _ _ _=>rfl⟩⟩
      ·have c0:((N:Int)==0)=false:=by simp;omega
       go_quiet (fail)
       go_wp2_with fail;go_ret;exact⟨congrArg (fun b=>I (J b)) (show false=Yr r p from by rw[d.o];simp;try omega),(c.o.trans a.o).trans ⟨rfl,rfl,rfl,S _,fun _ _ _=>rfl⟩⟩
    ·have e0:((mn:Int)==0)=false:=by simp;omega
     go_quiet (fail)
     go_wp2_with fail;go_ret;exact⟨congrArg (fun b=>I (J b)) (show false=Yr r p from by rw[d.o];simp;try omega),(c.o.trans a.o).trans ⟨rfl,rfl,rfl,S _,fun _ _ _=>rfl⟩⟩
  ·skip
   go_quiet (fail)
   go_wp2_with fail;go_ret;exact⟨congrArg (fun b=>I (J b)) (show false=Yr r p from by rw[d.o];simp;try omega),(c.o.trans a.o).trans ⟨rfl,rfl,rfl,S _,fun _ _ _=>rfl⟩⟩
 ·skip
  go_quiet (fail)
  go_wp2_with fail;go_ret;exact⟨congrArg (fun b=>I (J b)) (show false=Yr r p from by rw[d.o];simp;try omega),(c.o.trans a.o).trans ⟨rfl,rfl,rfl,S _,fun _ _ _=>rfl⟩⟩
