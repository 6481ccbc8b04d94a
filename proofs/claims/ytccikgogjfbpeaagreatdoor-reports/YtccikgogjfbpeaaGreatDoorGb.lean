import Derived.Test.YtccikgogjfbpeaaGreatDoorZa
import Derived.Laws.Bits64b
import Derived.RangeFuncNested
import Derived.RangeFuncBound
import Derived.RangeFuncCalls
import Derived.RangeFuncLeaves
import Derived.Shelf.Abstract
import Derived.Shelf.RegionOpen
import Derived.OwnWalkIn
import Derived.TacticsInMore
import Derived.LoopNIn
import Derived.LoopIn
open Go.Value renaming int->I,pointer->E,bool->R,slice->C,agg->z0,string->y1
open Go.IntKind renaming i64->S,u64->Q
open Option renaming none->V,some->Z
open Go.Obj renaming cells->Y
open Nat renaming le_trans->U,div_le_self->T,pow_succ->L,le_refl->X,pow_lt_pow_right->z1,pow_le_pow_right->z3,shiftLeft_eq->z6,one_mul->z8,pow_one->z9,pow_pos->y0
open Go.Ending renaming returned->O
open Go.Proofs.Tryz renaming prog->H
open Go renaming World->G,Calls->z2
open Go.RowKit renaming Hid->N
open List renaming map_append->F,mem_cons_of_mem->z4,mem_cons_self->z5,map_cons->z7
namespace Go.Proofs.YtccikgogjfbpeaaGreatDoor
set_option maxRecDepth 30000
set_option maxHeartbeats 8000000
open Go.RowKit
theorem T5 {a b:Bool}(h:a=b):Ending.returned (R a)=O (R b):=by rw[h]
theorem has_eq (s i:Nat)(c:s<256):(bits BinOp.and Q ((s:Int)/2^i) 1 !=0)=s.testBit i:=by
 have e:((s:Int)/2^i)=((s/2^i:Nat):Int):=by simp
 have b:s/2^i<=s:=T _ _;have a:=bits_and_u64_nat (s/2^i) 1 (by omega) (by omega);rw[e];rw[show((1:Nat):Int)=(1:Int)from rfl]at a;rw[a];unfold Nat.testBit;rw[Nat.shiftRight_eq_div_pow,Nat.and_comm]
 have:∀n:Nat,((n:Int) !=0)=(n !=0):=fun n=>by cases n<;>rfl
 exact this _
theorem D9 (s i:Nat)(d:s<256)(b:i<8):bits BinOp.or Q (s:Int) (Q.wrap (2^i))=((s|||1<<<i:Nat):Int):=by
 have c:2^i<256:=by
  have:=z1 (a:=2) (by omega) b
  simpa using this
 have e:Q.wrap (2^i)=((2^i:Nat):Int):=by
  rw[show((2:Int)^i)=((2^i:Nat):Int)from by simp];generalize 2^i=y at c;exact IntWalk.u64_in _ (by omega)
 rw[e,bits_or_u64_nat s (2^i) (by omega) (by omega),z6,z8]
theorem CP (s i:Nat)(d:s<256)(b:i<8):s|||1<<<i<256:=by
 have c:1<<<i<2^8:=by
  rw[z6,z8];exact z1 (a:=2) (by omega) b
 exact Nat.or_lt_two_pow (n:=8) (by omega) c
theorem Ha (s i:Nat)(w:G)(a:s<256)(f:i<8):
  z2 H 145 #[I .u64 s,I S i] w fun e w'=>e=O (R (s.testBit i))/\w'=w:=by
 have b:(0:Int)<=(i:Int):=by omega
 have c:(0:Int)<=(s:Int):=by omega
 have d:(s:Int)<256:=by omega
 go_enter Tryz.func145,Tryz.ntmps145;go_wp2;go_ret;exact⟨T5 (has_eq s i a),rfl⟩
theorem EO (s i:Nat)(w:G)(a:s<256)(b:i<8):
  z2 H 147 #[I .u64 s,I S i] w fun e w'=>e=O (I .u64 (s|||1<<<i:Nat))/\w'=w:=by
 have c:(0:Int)<=(i:Int):=by omega
 have d:(0:Int)<=(s:Int):=by omega
 have f:(s:Int)<256:=by omega
 go_enter Tryz.func147,Tryz.ntmps147;go_wp2;go_ret;exact⟨ZH (D9 s i a b),rfl⟩
def PQ (w:G)(b c d a x:Nat):Prop:=
 w.cell? ⟨b,0,V⟩=Z (I S c)/\w.cell? ⟨b,1,V⟩=Z (I S d)/\w.cell? ⟨b+1,0,V⟩=Z (I S a)/\w.cell? ⟨b+1,1,V⟩=Z (I S x)/\∀o,w.frozen? ⟨b+1,o,V⟩=false
theorem PQ.less {w:G}{b c d a x:Nat}(h:PQ w b c d a x)(k:0<a):PQ ((w.setCell ⟨b+1,0,V⟩ (I S ((a:Int)-1))).setCell ⟨b+1,1,V⟩ (I S ((x:Int)/10))) b c d (a-1) (x/10):=by
 obtain⟨e,f,g,i,j⟩:=h;refine⟨?_,?_,?_,?_,fun o=>by simp[j o]⟩
 ·rw[cO _ _ _ _ (by simp),cO _ _ _ _ (by simp)];exact e
 ·rw[cO _ _ _ _ (by simp),cO _ _ _ _ (by simp)];exact f
 ·rw[cO _ _ _ _ (by simp),cS _ _ _ g,show((a-1:Nat):Int)=(a:Int)-1 from by omega]
 ·rw[cS _ _ _ (by rw[cO _ _ _ _ (by simp)];exact i),show((x/10:Nat):Int)=(x:Int)/10 from by omega]
def WN (p:ZK):Value:=z0 #[I S p.d,I S p.x]
theorem J4 (p:ZK)(k:Nat)(w:G)(a:p.d<=6)(b:p.x<=1000000)(c:k<10):
  z2 H 149 #[WN p,I S k] w fun e w'=>e=O (WN (p.longer k))/\Below w.heap.size w w':=by
 unfold WN ZK.longer;obtain⟨d,x⟩:=p;simp only at*;go_enter Tryz.func149,Tryz.ntmps149;go_wp2;refine bodyPost_ret (v:=z0 #[I S ((d:Int)+1),I S ((x:Int)*10+(k:Int))]) (by simp[results,Tryz.results149,go_sem]) rfl ⟨by go_num,?_⟩;exact((Below.refl _ _).alloc (X _) _).alloc (by simp) _
theorem G0 (p q:ZK)(w:G)(hp:p.d<=6)(hq:q.d<=6)(M:q.x<=1000000)(hy:p.x<=1000000):
  z2 H 186 #[WN p,WN q] w fun e w'=>e=O (R (p.holds q))/\Below w.heap.size w w':=by
 unfold WN;obtain⟨c,g⟩:=p;obtain⟨f,l⟩:=q;simp only at*;go_enter Tryz.func186,Tryz.ntmps186;go_wp2_with fail;have v:F0 w ((w.alloc (Y #[I S c,I S g] 181)).alloc (Y #[I S f,I S l] 181)):=((Fr.refl _ _).alloc _).alloc _;have r:((w.alloc (Y #[I S c,I S g] 181)).alloc (Y #[I S f,I S l] 181)).heap[w.heap.size]?=Z (Y #[I S c,I S g] 181):=((Fr.refl (fun _=>False) _).alloc _).whole (aN w _) (by simp)
 have n:((w.alloc (Y #[I S c,I S g] 181)).alloc (Y #[I S f,I S l] 181)).heap[w.heap.size+1]?=Z (Y #[I S f,I S l] 181):=by have:=aN (w.alloc (Y #[I S c,I S g] 181)) (Y #[I S f,I S l] 181);simpa using this
 generalize(w.alloc (Y #[I S c,I S g] 181)).alloc (Y #[I S f,I S l] 181)=W at*;obtain⟨b,C⟩:∃b,w.heap.size=b:=⟨_,rfl⟩;rw[C]at r n ⊢;have P:=Za C;have Q:N (Fr (fun k=>b<=k) w W):=v.mono (by simp);have HP:N (PQ W b c g f l):=⟨bC r 0 _ rfl,bC r 1 _ rfl,bC n 0 _ rfl,bC n 1 _ rfl,fun o=>bF n o⟩;clear v r n C
 go_loopg [] 7 (fun m wr=>∃j,j<=f/\(j=0\/c<=f-j)/\j+m=7/\N (Fr (fun k=>b<=k) w wr)/\N (PQ wr b c g (f-j) (l/10^j)))
 case atStart=>exact⟨0,Nat.zero_le _,Or.inl rfl,rfl,Q,by have:=HP.o;show PQ _ _ _ _ _ _;simpa using this⟩
 case round=>
  obtain⟨j,hj,a0,hm,y,t⟩:=hrel;obtain⟨a,D⟩:∃a,f-j=a:=⟨_,rfl⟩;obtain⟨x,s⟩:∃x,l/10^j=x:=⟨_,rfl⟩
  have b0:x<=1000000:=by rw[<-s];exact U (T _ _) M
  have J:=Za s;have i:=Za D;rw[D,s]at t
  have e0:a<=6:=by omega
  obtain⟨c0,c1,d0,d1,fz⟩:=t.o;clear D s;by_cases f0:c<a
  ·have z:(c:Int)<(a:Int):=by omega
   have K:=t.o.less (by omega);have E:=Za K;clear K;go_wp2;go_roundg (7-(j+1))
   case measure=>omega
   case rel=>
    refine⟨j+1,by have:=i.o;omega,Or.inr (by have:=i.o;omega),by omega,(y.o.setCell (p:=⟨b+1,0,V⟩) (Or.inl (by show b<=b+1;omega)) _).setCell (p:=⟨b+1,1,V⟩) (Or.inl (by show b<=b+1;omega)) _,?_⟩
    have A:f-(j+1)=a-1:=by have:=i.o;omega
    have B:l/10^(j+1)=x/10:=by rw[<-J.o,Wp,z9]
    rw[A,B];exact E
  ·have z:¬(c:Int)<(a:Int):=by omega
   have F:N (ZK.holds ⟨c,g⟩ ⟨f,l⟩=(decide (a=c)&&decide (x=g))):=by
    show _=_
    unfold ZK.holds;simp only;rcases Nat.lt_or_ge f c with L|L
    ·rw[decide_eq_false (by omega:¬c<=f),decide_eq_false (by have:=i.o;omega:¬a=c)]
     simp
    ·have e:a=c:=by have:=i.o;omega
     rw[decide_eq_true L,decide_eq_true e,<-J.o,show j=f-c from by have:=i.o;omega]
     by_cases h:l/10^(f-c)=g<;>simp[h]
   have u:=Za (y.o.below (X _) (fun k hk=>by have:=P.o;omega));by_cases A:a=c
   ·subst A
    by_cases B:x=g
    ·subst B
     go_wp2_with fail;go_ret;exact⟨T5 (by rw[F.o];simp),u.o⟩
    ·have ex:((x:Int)==(g:Int))=false:=by simp;omega
     go_wp2_with fail;go_ret;exact⟨T5 (by rw[F.o];simp[B]),u.o⟩
   ·have ea:((a:Int)==(c:Int))=false:=by simp;omega
    go_wp2_with fail;go_ret;exact⟨T5 (by rw[F.o];simp[A]),u.o⟩
open Go.Shelf
attribute [local go_sem] Oper.semAt_some
theorem NA (w:G)(o:Obj):w.grownBy (w.alloc o) V:=by
 have f:=(Fr.refl (fun _=>False) w).alloc o;exact⟨f.os,f.tape,f.output,f.size,fun k a _=>f.block k a (by simp)⟩
abbrev V9:={p:ZK//p.d<=6/\p.x<=1000000}
theorem G1 (D lo a:Nat)(w:G):
  z2 H 185 #[I S D,z0 #[I S lo,I S a]] w fun e w'=>e=O (.func (.func 221) #[] #[E (Z ⟨w.heap.size+1,0,V⟩),E (Z ⟨w.heap.size,0,V⟩)])/\w'=(w.alloc (Y #[I S D] 3)).alloc (Y #[I S lo,I S a] 118):=by
 have b:∀(fn:Fn)(first cap:Array Value)(w:G),(Instr.makeFunc fn first cap).run H w=.ok (.func fn first cap) w:=fun _ _ _ _=>rfl
 go_enter Tryz.func185,Tryz.ntmps185;go_wp2;go_ret;exact⟨rfl,rfl⟩
set_option maxRecDepth 100000 in
theorem G2 (n l Bs Bd n₀ D lo d:Nat)(Q:List V9)(hD:D<=6)(A0:lo<=1000000)(a0:d<10^D)(l0:Q.map Subtype.val=YQ D lo d)(J Jx:List V9->G->Prop)(W:G)(hJ:AbidesFrom W.heap.size J)
    (hY:∀pre x W1,J pre W1->pre.length<Q.length->YieldAt Fence.wide (n-1) H l #[WN x.1] W1 fun e W'=>
      (e=O (R true)/\J (pre++[x]) W'/\Below n₀ W1 W')\/(e=O (R false)/\Jx (pre++[x]) W'))
    (m0:n₀<=W.heap.size)(b0:Bs<n₀)(B0:Bd<n₀)(h0:W.cell? ⟨Bs,0,V⟩=Z (I S lo))(h1:W.cell? ⟨Bs,1,V⟩=Z (I S d))(h2:W.cell? ⟨Bd,0,V⟩=Z (I S D))(hj:J [] W):
    CallsIn Fence.wide n H 221 #[.func (.yield l) #[] #[],E (Z ⟨Bs,0,V⟩),E (Z ⟨Bd,0,V⟩)] W fun e W'=>(∃v,e=O v)/\
      ((∃ys,ys=Q/\J ys W')\/(∃pre,pre<+:Q/\Jx pre W')):=by
  refine callsIn_wide.2 ?_;go_enter Tryz.func221,Tryz.ntmps221;have HJ:N (AbidesFrom W.heap.size J):=hJ
  have HY:N (∀pre x W1,J pre W1->pre.length<Q.length->YieldAt Fence.wide (n-1) H l #[WN x.1] W1 fun e W'=>
      (e=O (R true)/\J (pre++[x]) W'/\Below n₀ W1 W')\/(e=O (R false)/\Jx (pre++[x]) W')):=hY
  have C0:N (Q.map Subtype.val=YQ D lo d):=l0;have HC:N (W.cell? ⟨Bs,1,V⟩=Z (I S d)/\W.cell? ⟨Bd,0,V⟩=Z (I S D)):=⟨h1,h2⟩;have n0:N (d<10^D):=a0;have N0:d<1000000:=nL a0 (z3 (n:=10) (by omega) hD);clear hJ hY l0 a0;go_wp2_with fail;clear h0 h1 h2
  go_loopg [4] (d+1-lo) (fun m lw wr=>∃(pre g:List V9)(b:Nat),lw=I S (b:Nat)/\b<=1000000/\d+1-b<=m/\N (Q=pre++g)/\N (g.map Subtype.val=YF D d m b)/\N (J pre wr)/\N (Below n₀ W wr)/\N (W.heap.size<=wr.heap.size))
  case atStart=>exact⟨[],Q,lo,rfl,A0,by omega,rfl,C0,hj,Below.refl _ _,X _⟩
  case round=>
    obtain⟨pre,g,b,rfl,o0,hm,HX,HR,p0,HB,D0⟩:=hrel;obtain⟨M,hM⟩:∃M,M=gk:=⟨_,rfl⟩;subst hM;have c1:wr.cell? ⟨Bs,1,V⟩=Z (I S d):=(HB.o.cell (p:=⟨Bs,1,V⟩) b0).trans HC.o.1;have c2:wr.cell? ⟨Bd,0,V⟩=Z (I S D):=(HB.o.cell (p:=⟨Bd,0,V⟩) B0).trans HC.o.2;by_cases q0:b<=d
    · have r0:(b:Int)<=(d:Int):=by omega
      have c3:(wr.alloc (Y #[I S 0,I S 0] 181)).cell? ⟨Bd,0,V⟩=Z (I S D):=by rw[World.cell?_alloc_some _ _ _ (by simp[c2])];exact c2
      go_wp2_with fail
      go_region
      have E0:N (J pre wr.drew):=HJ.o pre wr wr.drew V p0.o ⟨rfl,rfl,rfl,X _,fun _ _ _=>rfl⟩ (fun _ e=>by cases e);have F0:N (Below n₀ W wr.drew):=HB.o.drew;have G0:N (W.heap.size<=wr.drew.heap.size):=D0.o;have w:(wr.alloc (Y #[I S D,I S b] 181)).drew=wr.drew.alloc (Y #[I S D,I S b] 181):=rfl;rw[w];obtain⟨P,hP⟩:∃P,wr.heap.size=P:=⟨_,rfl⟩;have H0:N (wr.drew.heap.size=P):=hP;rw[hP];generalize wr.drew=Wd at*;clear w hP c1 c2 c3;go_wp2_with fail
      go_loopg [5] 9 (fun m sz wq=>∃(k:Nat)(t:G),k+m=9/\sz=I S ((10^k:Nat):Int)/\N (Oq b d m k=Su b d)/\N (BL b d k)/\N (J pre t)/\N (Below n₀ W t)/\N (W.heap.size<=t.heap.size)/\N (t.heap.size=P)/\N (wq=t.alloc (Y #[I S ((D-k:Nat):Int),I S ((b/10^k:Nat):Int)] 181)))
      case atStart=>exact⟨0,Wd,rfl,rfl,rfl,⟨by simp,by simp;omega⟩,E0,F0,G0,H0,by show _=_;simp⟩
      case round=>
        obtain⟨k,t,O0,rfl,s0,j,t0,A,B,I0,J0⟩:=hrel;have eW:=J0.o;subst eW;have eP:=I0.o;subst eP;have P0:k<=6:=Tq (by have:=j.o.2;show 10^k<=1000000;omega);have Q0:k<=D:=Tq (by have:=j.o.2;have:=n0.o;omega);obtain⟨y,hy⟩:∃y,10^k=y:=⟨_,rfl⟩;obtain⟨z,hz⟩:∃z,b/10^k=z:=⟨_,rfl⟩;obtain⟨a,ha⟩:∃a,D-k=a:=⟨_,rfl⟩;have f:=Za hy;have C:=Za hz;have c0:=Za ha
        have R0:y<=1000000:=by have:=j.o.2;omega
        have S0:z<=1000000:=by rw[<-hz];exact U (T _ _) o0
        have T0:a<=6:=by omega
        rw[hz,ha];rw[hy];clear hy hz ha;have c1:(t.alloc (Y #[I S a,I S z] 181)).cell? ⟨Bs,1,V⟩=Z (I S d):=((A.o.cell (p:=⟨Bs,1,V⟩) b0).trans HC.o.1)▸(World.cell?_alloc_some _ _ _ (by rw[(A.o.cell (p:=⟨Bs,1,V⟩) b0),HC.o.1];simp));by_cases hc:z % 10=0/\b+y*10<=d+1
        · have d0:((z:Int)% 10==0)=true:=by simp;omega
          have v0:(b:Int)+(y:Int)*10-1<=(d:Int):=by omega
          have e0:=Za (HJ.o pre t t.drew V t0.o ⟨rfl,rfl,rfl,X _,fun _ _ _=>rfl⟩ (fun _ e=>by cases e))
          have V0:1<=a:=by
            have h1:=j.o.2
            have h2:10^(k+1)<=10^D:=by rw[L,f.o];have:=n0.o;omega
            have:=Tq h2;have:=c0.o;omega
          go_wp2_with fail
          go_region
          go_wp2_with fail;go_roundg (8-k)
          case measure=>omega
          case rel=>
            refine⟨k+1,t.drew,by omega,?_,?_,?_,e0,A.o.drew,B,rfl,?_⟩
            · rw[L,f.o];go_num
            · have e:=s0.o
              obtain⟨g1,K0⟩:∃g1,gk=g1+1:=⟨8-k,by omega⟩;rw[K0]at e;unfold Oq at e;rw[if_pos ⟨by rw[C.o];exact hc.1,by rw[L,f.o];exact hc.2⟩]at e
              show _=_
              rw[show 8-k=g1 from by omega];exact e
            · exact Kc j.o (by rw[C.o];exact hc.1) (by rw[L,f.o];exact hc.2)
            · have e1:((D-(k+1):Nat):Int)=(a:Int)-1:=by have:=c0.o;omega
              have e2:((b/10^(k+1):Nat):Int)=(z:Int)/10:=by rw[Wp,C.o,z9];omega
              show _=_
              rw[e1,e2];rfl
        · have HK:N (Su b d=k):=by
            have e:=s0.o
            show _=_
            rw[<-e]
            cases gk with
            |zero=>rfl
            |succ g1=>unfold Oq;rw[if_neg (by rw[C.o,L,f.o];exact hc)]
          obtain⟨x,c,F,hx,w0⟩:∃(x:V9)(c:List V9),N (g=x::c)/\x.1=⟨a,z⟩/\N (c.map Subtype.val=YF D d (M-1) (b+y)):=by
            have e:=HR.o;obtain⟨M',x0⟩:∃M',M=M'+1:=⟨M-1,by omega⟩;rw[x0]at e;unfold YF at e;rw[if_pos q0,HK.o,C.o,f.o,c0.o]at e
            cases g with
            |nil=>simp at e
            | cons x r=>
              simp only[z7,List.cons.injEq]at e;exact⟨x,r,rfl,e.1,by rw[x0,Nat.add_sub_cancel];exact e.2⟩
          have e0:N (J pre (t.alloc (Y #[I S a,I S z] 181))):=HJ.o pre t _ V t0.o (NA t _) (fun _ e=>by cases e);obtain⟨fn,tmps,z0,body,q,hR⟩:=HY.o pre x _ e0.o (by rw[HX.o,F.o];simp);rw[hx]at q;unfold WN at q;simp only at q;have u:=Za hR;clear hR;by_cases d0:z % 10=0
          · have L0:((z:Int)% 10==0)=true:=by simp;omega
            have v0:¬(b:Int)+(y:Int)*10-1<=(d:Int):=by omega
            clear hc d0;go_upto_region 5 with fail;refine(wpIn_wide (n:=n)).1 ?_
            gi_wp2
            refine⟨fun h=>(by cases h),u.o.mono ?_⟩;rintro e W3 (⟨rfl,K,s⟩|⟨rfl,i⟩)
            · have f0:=Za K
              have g0:=Za ((A.o.alloc (U m0 B.o) _).trans s);have i0:=Za (U B.o (U (by simp) s.size));clear K s q u c1
              gi_wp2
              go_wp2_with fail;go_roundg (M-1)
              case measure=>omega
              case rel=>exact⟨pre++[x],c,b+y,by go_num,by have:=j.o.2;have:=f.o;omega,by have:0<y:=by{have:=f.o;have:0<10^k:=y0 (by omega);omega};omega,by show _=_;rw[HX.o,F.o];simp,w0,f0,g0,i0⟩
            · have j0:=Za i
              clear i q u c1
              gi_wp2
              go_wp2_with fail;refine bodyPost_ret (results_none rfl _ _ _) rfl ?_;exact⟨⟨_,rfl⟩,.inr ⟨pre++[x],⟨c,by rw[HX.o,F.o];simp⟩,j0.o⟩⟩
          · have L0:((z:Int)% 10==0)=false:=by simp;omega
            clear hc d0;go_upto_region 5 with fail;refine(wpIn_wide (n:=n)).1 ?_
            gi_wp2
            refine⟨fun h=>(by cases h),u.o.mono ?_⟩;rintro e W3 (⟨rfl,K,s⟩|⟨rfl,i⟩)
            · have f0:=Za K
              have g0:=Za ((A.o.alloc (U m0 B.o) _).trans s);have i0:=Za (U B.o (U (by simp) s.size));clear K s q u c1
              gi_wp2
              go_wp2_with fail;go_roundg (M-1)
              case measure=>omega
              case rel=>exact⟨pre++[x],c,b+y,by go_num,by have:=j.o.2;have:=f.o;omega,by have:0<y:=by{have:=f.o;have:0<10^k:=y0 (by omega);omega};omega,by show _=_;rw[HX.o,F.o];simp,w0,f0,g0,i0⟩
            · have j0:=Za i
              clear i q u c1
              gi_wp2
              go_wp2_with fail;refine bodyPost_ret (results_none rfl _ _ _) rfl ?_;exact⟨⟨_,rfl⟩,.inr ⟨pre++[x],⟨c,by rw[HX.o,F.o];simp⟩,j0.o⟩⟩
    · have r0:¬(b:Int)<=(d:Int):=by omega
      have M0:N (pre=Q):=by
        have e:=HR.o
        have e2:YF D d M b=[]:=by cases M with
          |zero=>rfl
          |succ M'=>unfold YF;rw[if_neg q0]
        rw[e2]at e;have:g=[]:=List.map_eq_nil_iff.1 e
        show _=_
        rw[HX.o,this];simp
      go_wp2_with fail
      go_end0
      have k0:=p0.o;rw[M0.o]at k0;exact⟨⟨_,rfl⟩,.inl (by first|exact k0|exact⟨Q,rfl,k0⟩)⟩
attribute [local go_sem] Oper.semAt_some
theorem Kg (n Bs Bd c D lo f:Nat)(d:List V9)(k:D<=6)(h:lo<=1000000)(i:f<10^D)(j:d.map Subtype.val=YQ D lo f)(w:G)(a:c<=w.heap.size)(b:Bs<c)(e:Bd<c)
    (m:w.cell? ⟨Bs,0,V⟩=Z (I S lo))(o:w.cell? ⟨Bs,1,V⟩=Z (I S f))(q:w.cell? ⟨Bd,0,V⟩=Z (I S D)):
    SeqStopsK Fence.wide n H 221 #[E (Z ⟨Bs,0,V⟩),E (Z ⟨Bd,0,V⟩)] (fun x:V9=>#[WN x.1]) (Below c) (fun r=>r=d) (fun pre=>pre<+:d) d.length w:=fun l J s W g t _ u v=>
  G2 n l Bs Bd c D lo f d k h i j J s W t u (U a g.size) b e
    ((g.cell (p:=⟨Bs,0,V⟩) (nL b a)).trans m) ((g.cell (p:=⟨Bs,1,V⟩) (nL b a)).trans o) ((g.cell (p:=⟨Bd,0,V⟩) (nL e a)).trans q) v
def Kh (b:ByteArray)(rk c lo d:Nat)(e:Option Addr)(f g:Nat)(a:Bool)(h i:Nat)(j:Option Addr)(k l:Nat)(m n:Bool)(o:Option Addr)(p q:Nat)(r:Nat):Value:=
 z0 #[y1 b,I S rk,I S c,I S lo,I S d,C e f g,R a,I S h,I S i,C j k l,R m,R n,C o p q,I S r]
theorem T6 {q:ZK}:∀{pre:List ZK}(a:List ZK),(∀p,p∈pre->p.holds q=false/\q.holds p=false)->ZO q (pre++a)=ZO q a
 |[],_,_=>rfl
 |p::r,a,h=>by
  have b:=h p z5;rw[<-T6 (pre:=r) a (fun x c=>h x (z4 _ c))]
  show ZO q (p::(r++a))=_
  rw[ZO,b.1,b.2];simp
def Ld (q:ZK)(pre:List V9):Prop:=∀p:ZK,p∈pre.map Subtype.val->p.holds q=false/\q.holds p=false
def AR (w:G)(b:Nat)(q:ZK)(pre:List V9)(W:G):Prop:=
 (Ld q pre/\W.cell? ⟨b+1,0,V⟩=Z (I S q.d)/\W.cell? ⟨b+1,1,V⟩=Z (I S q.x)/\W.cell? ⟨b+1+1,0,V⟩=Z (I S 0)/\W.frozen? ⟨b+1+1,0,V⟩=false/\b+5<=W.heap.size)/\Below b w W
def AN (w:G)(b:Nat)(q:ZK)(c:Code)(pre:List V9)(W:G):Prop:=
 (c=.ret/\∃v:Nat,W.cell? ⟨b+1+1,0,V⟩=Z (I S v)/\∀a,ZO q (pre.map Subtype.val++a)=v)/\Below b w W
theorem EP {w W:G}{b:Nat}{q:ZK}{pre:List V9}{x:V9}(e:Ld q pre)(v:Nat)(f:W.cell? ⟨b+1+1,0,V⟩=Z (I S v))(g:(x.1.holds q=true/\v=2)\/(x.1.holds q=false/\q.holds x.1=true/\v=1))(h:Below b w W):AN w b q .ret (pre++[x]) W:=by
 refine⟨⟨rfl,v,f,fun a=>?_⟩,h⟩;rw[F,List.append_assoc,T6 _ e]
 show ZO q (x.1::a)=v
 unfold ZO;rcases g with⟨c,d⟩|⟨c,d,i⟩
 ·rw[c];simp[d]
 ·rw[c,d];simp[i]
theorem Ki {q:ZK}{pre:List V9}{x:V9}(b:Ld q pre)(c:x.1.holds q=false)(d:q.holds x.1=false):Ld q (pre++[x]):=by
 intro p a;rw[F,List.mem_append]at a;rcases a with a|a
 ·exact b p a
 ·simp at a;subst a;exact⟨c,d⟩
theorem VB {W a:G}(h:Below W.heap.size W a):KeepsOthers W a:=⟨h.size,fun k _ b _=>(h.block k (iA.1 b).1).trans b⟩
set_option maxRecDepth 100000 in
theorem EQ (nm:ByteArray)(rk D lo j:Nat)(ma:Option Addr)(mn mc:Nat)(P:Bool)(a7 a8:Nat)(ca:Option Addr)(cn cc:Nat)(dc ch:Bool)(pa:Option Addr)(pn pc:Nat)(ah:Nat)(q:ZK)(w:G)
  (hD:D<=6)(j0:lo<=1000000)(l0:j<10^D)(hq:q.d<=6/\q.x<=1000000)(xs:List V9)(Q:xs.map Subtype.val=YQ D lo j):
  CallsIn Fence.wide 5 H 146 #[Kh nm rk D lo j ma mn mc P a7 a8 ca cn cc dc ch pa pn pc ah,WN q] w fun e w'=>e=O (I S (ZO q (YQ D lo j)))/\Below w.heap.size w w':=by
 unfold Kh WN;refine callsIn_of_wp_marks Tryz.func146 rfl trivial ?_ rfl;simp only[Tryz.ntmps146,List.size_toArray,List.length_cons,List.length_nil,Nat.reduceAdd,Nat.reduceSub,Array.replicate_succ,Array.replicate_zero,List.push_toArray,List.append_toArray,List.nil_append,List.cons_append]
 gi_wp2
 refine⟨trivial,?_⟩;refine(callsIn_wide.2 (G1 _ _ _ _)).mono ?_;rintro e w' ⟨rfl,rfl⟩
 gi_wp2
 generalize r0:Value.agg #[y1 nm,I S rk,I S D,I S lo,I S j,C ma mn mc,R P,I S a7,I S a8,C ca cn cc,R dc,R ch,C pa pn pc,I S ah]=RV;generalize s0:Obj.cells #[y1 nm,I S rk,I S D,I S lo,I S j,C ma mn mc,R P,I S a7,I S a8,C ca cn cc,R dc,R ch,C pa pn pc,I S ah] 120=RC;obtain⟨m,i⟩:∃m,((((w.alloc RC).alloc (Y #[I S q.d,I S q.x] 181)).alloc (Y #[I S 0] 244)).alloc (Y #[I S D] 3)).alloc (Y #[I S lo,I S j] 118)=m:=⟨_,rfl⟩;obtain⟨b,J⟩:∃b,w.heap.size=b:=⟨_,rfl⟩
 have t0:m.heap.size=b+5:=by rw[<-i,<-J];simp
 have hF:F0 w m:=by rw[<-i];exact((((Fr.refl _ _).alloc _).alloc _).alloc _).alloc _|>.alloc _
 have m0:Below b w m:=hF.below (by omega) (by simp)
 have o1:m.heap[b+1]?=Z (Y #[I S q.d,I S q.x] 181):=by
  rw[<-i,<-J];exact((((Fr.refl (fun _=>False) _).alloc _).alloc _).alloc _).whole (by have:=aN (w.alloc RC) (Y #[I S q.d,I S q.x] 181);simpa using this) (by simp)
 have o2:m.heap[b+1+1]?=Z (Y #[I S 0] 244):=by
  rw[<-i,<-J];exact(((Fr.refl (fun _=>False) _).alloc _).alloc _).whole (by have:=aN ((w.alloc RC).alloc (Y #[I S q.d,I S q.x] 181)) (Y #[I S 0] 244);simpa using this) (by simp)
 have o3:m.heap[b+1+1+1]?=Z (Y #[I S D] 3):=by
  rw[<-i,<-J];exact((Fr.refl (fun _=>False) _).alloc _).whole (by have:=aN (((w.alloc RC).alloc (Y #[I S q.d,I S q.x] 181)).alloc (Y #[I S 0] 244)) (Y #[I S D] 3);simpa using this) (by simp)
 have o4:m.heap[b+1+1+1+1]?=Z (Y #[I S lo,I S j] 118):=by
  rw[<-i,<-J];have:=aN ((((w.alloc RC).alloc (Y #[I S q.d,I S q.x] 181)).alloc (Y #[I S 0] 244)).alloc (Y #[I S D] 3)) (Y #[I S lo,I S j] 118)
  simpa using this
 rw[i,J];clear i
 have hR:∀(T X:ZK)(W:G),T.d<=6->X.d<=6->T.x<=1000000->X.x<=1000000->z2 H 186 #[z0 #[I S T.d,I S T.x],z0 #[I S X.d,I S X.x]] W fun e w'=>e=O (R (T.holds X))/\Below W.heap.size W w':=fun T X W h1 h2 h3 h4=>G0 T X W h1 h2 h4 h3
 refine wpIn_rangeFunc_ownH rfl (by omega) (gf:=221) (lb:=#[E (Z ⟨b+1+1+1+1,0,V⟩),E (Z ⟨b+1+1+1,0,V⟩)]) rfl trivial (enters_of Tryz.func221 (by kernel_rfl) rfl)
  (Kg (5-1) (b+1+1+1+1) (b+1+1+1) (b+5) D lo j xs hD j0 l0 Q m (by omega) (by omega) (by omega) (bC o4 0 _ rfl) (bC o4 1 _ rfl) (bC o3 0 _ rfl)) belowK_t (belowK_b (by omega)) (Below.refl _ _) (fun _=>rfl)
  (fun pre W=>AR w b q pre W) (fun c pre W=>AN w b q c pre W)
  (OwnFrom.and (Own.from (fun s A B row h u y=>⟨h.1,cell_kept h.2.1 u y,cell_kept h.2.2.1 u y,cell_kept h.2.2.2.1 u y,(frozen_kept h.2.2.2.1 u y).trans h.2.2.2.2.1,U h.2.2.2.2.2 u.size⟩) _) (ownFrom_below (by omega) (by omega)))
  (fun c=>OwnFrom.and (Own.from (fun s A B row h u y=>⟨h.1,h.2.choose,cell_kept h.2.choose_spec.1 u y,h.2.choose_spec.2⟩) _) (ownFrom_below (by omega) (by omega)))
  ⟨⟨by intro p L;simp at L,bC o1 0 _ rfl,bC o1 1 _ rfl,bC o2 0 _ rfl,bF o2 0,by omega⟩,m0⟩
  (fun x a' W=>∃M,b+5<=M/\W.cell? ⟨M,0,V⟩=Z (I S x.1.d)/\W.cell? ⟨M,1,V⟩=Z (I S x.1.x)/\a'={tmps:=#[RV,z0 #[I S q.d,I S q.x],E (Z ⟨b,0,V⟩),E (Z ⟨b+1,0,V⟩),E (Z ⟨b+1+1,0,V⟩),E (Z ⟨M,0,V⟩),E (Z ⟨b,2,V⟩),I S D,E (Z ⟨b,3,V⟩),z0 #[I S lo,I S j],.func (.func 221) #[] #[E (Z ⟨b+1+1+1+1,0,V⟩),E (Z ⟨b+1+1+1,0,V⟩)],z0 #[I S x.1.d,I S x.1.x],undef,undef,undef,undef,undef,undef],defers:=[]})
  (fun x a'=>Own.from (fun s A B row h u y=>⟨h.choose,h.choose_spec.1,cell_kept h.choose_spec.2.1 u y,cell_kept h.choose_spec.2.2.1 u y,h.choose_spec.2.2.2⟩) _) ?assign ?body ?done ?stop
 case assign=>
  rintro l pre x W K ⟨⟨L,c0,c1,cr,fr,hz⟩,z⟩ hK;unfold WN
  gi_wp2
  have f1:F0 W (W.alloc (Y #[I S x.1.d,I S x.1.x] 181)):=(Fr.refl _ _).alloc _
  have a:∀k,k<b+5->k<W.heap.size:=fun k hk=>by omega
  exact hK _ _ ((KeepsOthers.alloc _ _).from _) ((Below.refl _ W).alloc hz _)
   ⟨⟨L,(f1.cell (p:=⟨b+1,0,V⟩) (a _ (by show b+1<b+5;omega)) (by simp)).trans c0,(f1.cell (p:=⟨b+1,1,V⟩) (a _ (by show b+1<b+5;omega)) (by simp)).trans c1,(f1.cell (p:=⟨b+1+1,0,V⟩) (a _ (by show b+1+1<b+5;omega)) (by simp)).trans cr,(f1.frozen (p:=⟨b+1+1,0,V⟩) (a _ (by show b+1+1<b+5;omega)) (by simp)).trans fr,U hz f1.size⟩,z.alloc (by omega) _⟩
   ⟨W.heap.size,hz,bC (aN W _) 0 _ rfl,bC (aN W _) 1 _ rfl,rfl⟩
 case body=>
  rintro l pre x a' W hl ⟨r,y⟩ ⟨⟨L,c0,c1,cr,fr,hz⟩,z⟩ ⟨M,v0,x0,x1,rfl⟩ w0;have f0:M<W.heap.size:=bL W _ x0
  have a:∀k,k<b+5->k<W.heap.size:=fun k hk=>by omega
  have HH:=Za L;have n:=x.2;have n0:=Za (hR x.1 q W n.1 hq.1 n.2 hq.2)
  have o0:N (∀W2,z2 H 186 #[z0 #[I S q.d,I S q.x],z0 #[I S x.1.d,I S x.1.x]] W2 fun e w'=>e=O (R (q.holds x.1))/\Below W2.heap.size W2 w'):=fun W2=>hR q x.1 W2 hq.1 n.1 hq.2 n.2
  clear hR L n
  gi_wp2
  refine⟨trivial,?_⟩;refine(CallsIn.inRound l (callsIn_wide.2 n0.o)).mono ?_;rintro e W2 ⟨rfl,f⟩;have g0:=Za f;have d0:=(f.cell (p:=⟨b+1,0,V⟩) (a _ (by show b+1<b+5;omega))).trans c0;have d1:=(f.cell (p:=⟨b+1,1,V⟩) (a _ (by show b+1<b+5;omega))).trans c1;have dr:=(f.cell (p:=⟨b+1+1,0,V⟩) (a _ (by show b+1+1<b+5;omega))).trans cr;have df:=(f.frozen (p:=⟨b+1+1,0,V⟩) (a _ (by show b+1+1<b+5;omega))).trans fr;have e0:=(f.cell (p:=⟨M,0,V⟩) f0).trans x0;have e1:=(f.cell (p:=⟨M,1,V⟩) f0).trans x1
  cases h1:x.1.holds q with
  |true=>
   gi_wp2
   exact⟨((VB g0.o).trans (KeepsOthers.setCell _ _ _)).from _,EP HH.o 2 (cS _ _ _ dr) (Or.inl ⟨h1,rfl⟩) ((z.trans (g0.o.mono (by omega))).setCell (p:=⟨b+1+1,0,V⟩) (by show b<=b+1+1;omega) _)⟩
  |false=>
   gi_wp2
   refine⟨trivial,?_⟩;refine(CallsIn.inRound l (callsIn_wide.2 (o0.o _))).mono ?_;rintro e W3 ⟨rfl,h0⟩;have g:=Za (f.trans (h0.mono f.size));have k0:=(g.o.cell (p:=⟨b+1,0,V⟩) (a _ (by show b+1<b+5;omega))).trans c0;have k1:=(g.o.cell (p:=⟨b+1,1,V⟩) (a _ (by show b+1<b+5;omega))).trans c1;have kr:=(g.o.cell (p:=⟨b+1+1,0,V⟩) (a _ (by show b+1+1<b+5;omega))).trans cr;have kf:=(g.o.frozen (p:=⟨b+1+1,0,V⟩) (a _ (by show b+1+1<b+5;omega))).trans fr;clear f h0 d0 d1 dr df e0 e1
   cases h2:q.holds x.1 with
   |true=>
    gi_wp2
    exact⟨((VB g.o).trans (KeepsOthers.setCell _ _ _)).from _,EP HH.o 1 (cS _ _ _ kr) (Or.inr ⟨h1,h2,rfl⟩) ((z.trans (g.o.mono (by omega))).setCell (p:=⟨b+1+1,0,V⟩) (by show b<=b+1+1;omega) _)⟩
   |false=>
    gi_wp2
    exact⟨(VB g.o).from _,g.o.mono hz,⟨Ki HH.o h1 h2,k0,k1,kr,kf,U hz g.o.size⟩,z.trans (g.o.mono (by omega))⟩
 case done=>
  rintro D' ys W p0 rfl ⟨⟨L,c0,c1,cr,fr,hz⟩,z⟩ hK
  gi_wp2
  have a0:=(KeepsOthers.setCell W ⟨b+1+1,0,V⟩ (I S 0)).same D' _ hK rfl;refine⟨by simp,.inl ⟨_,_,rfl,run_takeDeferred a0,?_⟩⟩;have b0:=cell_kept (cS W ⟨b+1+1,0,V⟩ (I S 0) cr) (grownBy_putObj' _ D' (.deferred V)) (fun r e=>by cases e;exact⟨_,a0,rfl⟩)
  have hv:ZO q (YQ D lo j)=0:=by
   have:=T6 (q:=q) [] L;rw[List.append_nil,Q]at this;exact this
  refine⟨I S 0,?_,by rw[hv];rfl,?_⟩
  ·simp[results,Tryz.results146,go_sem,b0]
  ·rw[J]
   exact(z.setCell (p:=⟨b+1+1,0,V⟩) (by show b<=b+1+1;omega) _).trans (belowK_b (w:=m) (by omega) _ D' _ _ (by omega) a0 rfl rfl)
 case stop=>
  rintro D' c pre W p0 i0 ⟨⟨rfl,v,hc,hv⟩,z⟩ hK
  gi_wp2
  refine⟨by simp,.inl ⟨_,_,rfl,run_takeDeferred hK,?_⟩⟩;have b0:=cell_kept hc (grownBy_putObj' _ D' (.deferred V)) (fun r e=>by cases e;exact⟨_,hK,rfl⟩)
  have q0:ZO q (YQ D lo j)=v:=by
   obtain⟨t,ht⟩:=i0;rw[<-Q,<-ht,F];exact hv _
  refine⟨I S v,?_,by rw[q0],?_⟩
  ·simp[results,Tryz.results146,go_sem,b0]
  ·rw[J]
   exact z.trans (belowK_b (w:=m) (by omega) _ D' _ _ (by omega) hK rfl rfl)
theorem QX {d b:Nat}(f:b<10^d)(c:d<=6){p:ZK}:∀(n a:Nat),p∈YF d b n a->p.d<=6/\p.x<=1000000
 |0,_,h=>by simp[YF]at h
 |n+1,a,h=>by
  unfold YF at h
  split at h
  ·rename_i g
   rcases List.mem_cons.1 h with e|h
   ·subst e
    have i:a/10^Su a b<=a:=T _ _;have j:10^d<=10^6:=z3 (by omega) c;exact⟨by show d-_<=6;omega,by show a/_<=1000000;omega⟩
   ·exact QX f c n _ h
  ·cases h
theorem G3 {d lo c:Nat}(f:c<10^d)(g:d<=6):∃a:List V9,a.map Subtype.val=YQ d lo c:=by
 have h:∀l:List ZK,(∀p,p∈l->p.d<=6/\p.x<=1000000)->∃a:List V9,a.map Subtype.val=l:=by
  intro l
  induction l with
  |nil=>intro _;exact⟨[],rfl⟩
  |cons p r i=>
   intro e;obtain⟨a,j⟩:=i (fun p b=>e p (z4 _ b));exact⟨⟨p,e p z5⟩::a,by simp only[z7,j]⟩
 exact h _ (fun p b=>QX f g _ _ b)
theorem G4 (h:ByteArray)(rk D lo c:Nat)(i:Option Addr)(j k:Nat)(a:Bool)(l m:Nat)(n:Option Addr)(o p:Nat)(r s:Bool)(t:Option Addr)(u v:Nat)(y:Nat)(q:ZK)(w:G)
  (z:D<=6)(f:lo<=1000000)(b:c<10^D)(A:q.d<=6/\q.x<=1000000):
  z2 H 146 #[Kh h rk D lo c i j k a l m n o p r s t u v y,WN q] w fun e w'=>e=O (I S (ZO q (YQ D lo c)))/\Below w.heap.size w w':=by
 obtain⟨B,g⟩:=G3 (lo:=lo) b z;exact callsIn_wide.1 (EQ h rk D lo c i j k a l m n o p r s t u v y q w z f b A B g)
