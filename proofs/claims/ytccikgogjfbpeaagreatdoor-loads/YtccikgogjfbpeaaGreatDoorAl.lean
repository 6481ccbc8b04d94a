import Derived.Test.YtccikgogjfbpeaaGreatDoorAh
import Derived.Test.YtccikgogjfbpeaaGreatDoorAg
import Derived.Laws.Bits64b
import Derived.RangeFuncNested
import Derived.RangeFuncBound
import Derived.RangeFuncCalls
import Derived.RangeFuncLeaves
import Derived.Shelf.Abstract
import Derived.Shelf.RegionOpen
import Derived.OwnWalkIn
import Derived.TacticsInMore
import Derived.LoopNIn
import Derived.LoopIn
open Go.Value renaming int->I,slice->Z,bool->E,pointer->X,string->z4,agg->z7,oneCell'->y6,string->j6,slice->k8
open Go.IntKind renaming i64->V,u8->z8,u64->q2
open Option renaming none->Y,some->U
open Go.Obj renaming cells->O
open Go.Proofs.Tryz renaming prog->H
open Go.Ending renaming returned->N
open Go.RowKit renaming Hid->T
open Go.World renaming cell?_setCell_other->C,news_of_block->z6,cell?_setCell_same->x3,cell?_alloc_some->q3
open Nat renaming le_trans->F,le_refl->Q,div_le_self->z9,pow_succ->y5,le_of_eq->x2,pow_lt_pow_right->q5,pow_le_pow_right->q6,add_sub_cancel->j2,eq_zero_or_pos->j4,zero_add->j5,shiftLeft_eq->j7,one_mul->k4,zero_le->k5,pow_one->k6,pow_pos->k7
open Or renaming inr->z0,inl->z5
open Go renaming Calls->z1,World->z2,Value->y4
open List renaming length_take->z3,append_assoc->y7,getElem?_append_left->y8,range->y9,length_eq_zero_iff->x4,map_append->q0,mem_append->q1,take_append_drop->q4,mem_cons_of_mem->q7,mem_of_mem_take->q8,pairwise_append->q9,mem_cons->j0,getElem_of_mem->j1,mem_cons_self->j3,length_cons->j8,length_drop->j9,append_nil->k2,map_cons->k3
namespace Go.Proofs.YtccikgogjfbpeaaGreatDoor
set_option maxRecDepth 30000
set_option maxHeartbeats 8000000
open Go.RowKit
theorem SQ {a b}(h:a=b):Ending.returned (E a)=N (E b):=by rw[h]
theorem has_eq (s i:Nat)(c:s<256):(bits BinOp.and q2 ((s:Int)/2^i) 1 !=0)=s.testBit i:=by
 have e:((s:Int)/2^i)=((s/2^i:Nat):Int):=by simp
 have b:s/2^i<=s:=z9 _ _;have a:=bits_and_u64_nat (s/2^i) 1 (by omega) (by omega);rw[e];rw[show((1:Nat):Int)=(1:Int)from rfl]at a;rw[a];unfold Nat.testBit;rw[Nat.shiftRight_eq_div_pow,Nat.and_comm]
 have:∀n:Nat,((n:Int) !=0)=(n !=0):=fun n=>by cases n<;>rfl
 exact this _
theorem yM (s i:Nat)(c:s<256)(hi:i<8):bits BinOp.or q2 (s:Int) (q2.wrap (2^i))=((s|||1<<<i:Nat):Int):=by
 have b:2^i<256:=by
  have:=q5 (a:=2) (by omega) hi
  simpa using this
 have e:q2.wrap (2^i)=((2^i:Nat):Int):=by
  rw[show((2:Int)^i)=((2^i:Nat):Int)from by simp];generalize 2^i=y at b;exact IntWalk.u64_in _ (by omega)
 rw[e,bits_or_u64_nat s (2^i) (by omega) (by omega),j7,k4]
theorem xX (s i)(c:s<256)(hi:i<8):s|||1<<<i<256:=by
 have b:1<<<i<2^8:=by
  rw[j7,k4];exact q5 (a:=2) (by omega) hi
 exact Nat.or_lt_two_pow (n:=8) (by omega) b
theorem EZ (s i:Nat)(w)(a:s<256)(hi:i<8):
  z1 H 145 #[I .u64 s,I V i] w fun e w'=>e=N (E (s.testBit i))/\w'=w:=by
 have b:(0:Int)<=(i:Int):=by omega
 have c:(0:Int)<=(s:Int):=by omega
 have d:(s:Int)<256:=by omega
 go_enter Tryz.func145,Tryz.ntmps145;go_wp2;go_ret;exact⟨SQ (has_eq s i a),rfl⟩
theorem Aw (s i:Nat)(w)(a:s<256)(hi:i<8):
  z1 H 147 #[I .u64 s,I V i] w fun e w'=>e=N (I .u64 (s|||1<<<i:Nat))/\w'=w:=by
 have b:(0:Int)<=(i:Int):=by omega
 have c:(0:Int)<=(s:Int):=by omega
 have d:(s:Int)<256:=by omega
 go_enter Tryz.func147,Tryz.ntmps147;go_wp2;go_ret;exact⟨ZO (yM s i a hi),rfl⟩
def PQ (w:z2)(b c d a x:Nat):Prop:=
 w.cell? ⟨b,0,Y⟩=U (I V c)/\w.cell? ⟨b,1,Y⟩=U (I V d)/\w.cell? ⟨b+1,0,Y⟩=U (I V a)/\w.cell? ⟨b+1,1,Y⟩=U (I V x)/\∀o,w.frozen? ⟨b+1,o,Y⟩=false
theorem PQ.less {w b c d a x}(h:PQ w b c d a x)(k:0<a):PQ ((w.setCell ⟨b+1,0,Y⟩ (I V ((a:Int)-1))).setCell ⟨b+1,1,Y⟩ (I V ((x:Int)/10))) b c d (a-1) (x/10):=by
 obtain⟨e,f,g,i,j⟩:=h;refine⟨?_,?_,?_,?_,fun o=>by simp[j o]⟩
 ·rw[cO _ _ _ _ (by simp),cO _ _ _ _ (by simp)];exact e
 ·rw[cO _ _ _ _ (by simp),cO _ _ _ _ (by simp)];exact f
 ·rw[cO _ _ _ _ (by simp),cS _ _ _ g,show((a-1:Nat):Int)=(a:Int)-1 from by omega]
 rw[cS _ _ _ (by rw[cO _ _ _ _ (by simp)];exact i),show((x/10:Nat):Int)=(x:Int)/10 from by omega]
def VS (p:Z3):y4:=z7 #[I V p.d,I V p.x]
theorem Fq (p)(k:Nat)(w)(a:p.d<=6)(b:p.x<=1000000)(c:k<10):
  z1 H 149 #[VS p,I V k] w fun e w'=>e=N (VS (p.longer k))/\Below w.heap.size w w':=by
 unfold VS Z3.longer;obtain⟨d,x⟩:=p;simp only at*;go_enter Tryz.func149,Tryz.ntmps149;go_wp2;refine bodyPost_ret (v:=z7 #[I V ((d:Int)+1),I V ((x:Int)*10+(k:Int))]) (by simp[results,Tryz.results149,go_sem]) rfl ⟨by go_num,?_⟩;exact((Below.refl _ _).alloc (Q _) _).alloc (by simp) _
theorem Cg (p q w)(hp:p.d<=6)(hq:q.d<=6)(P:q.x<=1000000)(hy:p.x<=1000000):
  z1 H 186 #[VS p,VS q] w fun e w'=>e=N (E (p.holds q))/\Below w.heap.size w w':=by
 unfold VS;obtain⟨c,r⟩:=p;obtain⟨g,s⟩:=q;simp only at*;go_enter Tryz.func186,Tryz.ntmps186;go_wp2_with fail;obtain⟨v,l,i⟩:=Ic w (O #[I V c,I V r] 181) (O #[I V g,I V s] 181);generalize(w.alloc _).alloc _=W at*;obtain⟨b,C⟩:∃b,w.heap.size=b:=⟨_,rfl⟩;rw[C]at l i ⊢;have R:=Za C;have S:T (Fr (fun k=>b<=k) w W):=v.mono;have U:T (PQ W b c r g s):=⟨Zc l 0,Zc l 1,Zc i 0,Zc i 1,fun o=>bF i o⟩;clear v l i C
 go_loopg [] 7 (fun m wr=>∃j,j<=g/\(j=0\/c<=g-j)/\j+m=7/\T (Fr (fun k=>b<=k) w wr)/\T (PQ wr b c r (g-j) (s/10^j)))
 case atStart=>exact⟨0,k5 _,z5 rfl,rfl,S,by have:=U.o;show PQ _ _ _ _ _ _;simpa using this⟩
 obtain⟨j,hj,X,hm,y,t⟩:=hrel;obtain⟨a,D⟩:∃a,g-j=a:=⟨_,rfl⟩;obtain⟨x,n⟩:∃x,s/10^j=x:=⟨_,rfl⟩
 have Z:x<=1000000:=by rw[<-n];exact F (z9 _ _) P
 have K:=Za n;have f:=Za D;rw[D,n]at t
 have a0:a<=6:=by omega
 obtain⟨c0,c1,d0,d1,fz⟩:=t.o;clear D n;by_cases b0:c<a
 ·have z:(c:Int)<(a:Int):=by omega
  have L:=t.o.less (by omega);have G:=Za L;clear L;go_wp2;go_roundg (7-(j+1))
  case measure=>omega
  refine⟨j+1,by have:=f.o;omega,z0 (by have:=f.o;omega),by omega,(y.o.setCell (p:=⟨b+1,0,Y⟩) (z5 (by show b<=b+1;omega)) _).setCell (p:=⟨b+1,1,Y⟩) (z5 (by show b<=b+1;omega)) _,?_⟩
  have A:g-(j+1)=a-1:=by have:=f.o;omega
  have B:s/10^(j+1)=x/10:=by rw[<-K.o,Y4,k6]
  rw[A,B];exact G
 have z:¬(c:Int)<(a:Int):=by omega
 have J:T (Z3.holds ⟨c,r⟩ ⟨g,s⟩=(decide (a=c)&&decide (x=r))):=by
  show _=_
  unfold Z3.holds;simp only;rcases Nat.lt_or_ge g c with M|M
  ·rw[decide_eq_false (by omega:¬c<=g),decide_eq_false (by have:=f.o;omega:¬a=c)]
   simp
  have e:a=c:=by have:=f.o;omega
  rw[decide_eq_true M,decide_eq_true e,<-K.o,show j=g-c from by have:=f.o;omega]
  by_cases h:s/10^(g-c)=r<;>simp[h]
 have u:=Za (y.o.below (Q _) (fun k hk=>by have:=R.o;omega));by_cases A:a=c
 ·subst A
  by_cases B:x=r
  ·subst B
   go_wp2_with fail;go_ret;exact⟨SQ (by rw[J.o];simp),u.o⟩
  have ex:((x:Int)==(r:Int))=false:=by simp;omega
  go_wp2_with fail;go_ret;exact⟨SQ (by rw[J.o];simp[B]),u.o⟩
 have ea:((a:Int)==(c:Int))=false:=by simp;omega
 go_wp2_with fail;go_ret;exact⟨SQ (by rw[J.o];simp[A]),u.o⟩
open Go.Shelf
attribute [local go_sem] Oper.semAt_some
theorem Lv (w:z2)(o):w.grownBy (w.alloc o) Y:=by
 have f:=(Fr.refl (fun _=>False) w).alloc o;exact⟨f.os,f.tape,f.output,f.size,fun k a _=>f.block k a (by simp)⟩
abbrev SR:={p:Z3//p.d<=6/\p.x<=1000000}
theorem Ch (D lo hi:Nat)(w):
  z1 H 185 #[I V D,z7 #[I V lo,I V hi]] w fun e w'=>e=N (.func (.func 221) #[] #[X (U ⟨w.heap.size+1,0,Y⟩),X (U ⟨w.heap.size,0,Y⟩)])/\w'=(w.alloc (O #[I V D] 3)).alloc (O #[I V lo,I V hi] 118):=by
 have a:∀(fn:Fn)(first cap:Array y4)(w:z2),(Instr.makeFunc fn first cap).run H w=.ok (.func fn first cap) w:=fun _ _ _ _=>rfl
 go_enter Tryz.func185,Tryz.ntmps185;go_wp2;go_ret;exact⟨rfl,rfl⟩
set_option maxRecDepth 100000 in
theorem Ci (n l Bs Bd C)(D lo hi:Nat)(B)(hD:D<=6)(w0:lo<=1000000)(g0:hi<10^D)(x0:B.map Subtype.val=YP D lo hi)(J Jx:List SR->z2->Prop)(W)(hJ:AbidesFrom W.heap.size J)(hY:∀pre x G,J pre G->pre.length<B.length->YieldAt Fence.wide (n-1) H l #[VS x.1] G fun e A=>
      (e=N (E true)/\J (pre++[x]) A/\Below C G A)\/(e=N (E false)/\Jx (pre++[x]) A))(i0:C<=W.heap.size)(K:Bs<C)(y0:Bd<C)(h0:W.cell? ⟨Bs,0,Y⟩=U (I V lo))(h1:W.cell? ⟨Bs,1,Y⟩=U (I V hi))(h2:W.cell? ⟨Bd,0,Y⟩=U (I V D))(hj:J [] W):
    CallsIn Fence.wide n H 221 #[.func (.yield l) #[] #[],X (U ⟨Bs,0,Y⟩),X (U ⟨Bd,0,Y⟩)] W fun e A=>(∃v,e=N v)/\
      ((∃ys,ys=B/\J ys A)\/(∃pre,pre<+:B/\Jx pre A)):=by
  refine callsIn_wide.2 ?_;go_enter Tryz.func221,Tryz.ntmps221;have HJ:=Za hJ
  have HY:T (∀pre x G,J pre G->pre.length<B.length->YieldAt Fence.wide (n-1) H l #[VS x.1] G fun e A=>
      (e=N (E true)/\J (pre++[x]) A/\Below C G A)\/(e=N (E false)/\Jx (pre++[x]) A)):=hY
  have z0:=Za x0;have HC:T (W.cell? ⟨Bs,1,Y⟩=U (I V hi)/\W.cell? ⟨Bd,0,Y⟩=U (I V D)):=⟨h1,h2⟩;have j0:=Za g0;have L0:hi<1000000:=nL g0 (q6 (n:=10) (by omega) hD);go_wp2_with fail
  go_loopg [4] (hi+1-lo) (fun m lw wr=>∃(pre f:List SR)(b:Nat),lw=I V (b:Nat)/\b<=1000000/\hi+1-b<=m/\T (B=pre++f)/\T (f.map Subtype.val=Ym D hi m b)/\T (J pre wr)/\T (Below C W wr)/\T (W.heap.size<=wr.heap.size))
  case atStart=>exact⟨[],B,lo,rfl,w0,by omega,rfl,z0,hj,Below.refl _ _,Q _⟩
  obtain⟨pre,f,b,rfl,k0,hm,HX,HR,l0,HB,A0⟩:=hrel;obtain⟨M,hM⟩:∃M,M=gk:=⟨_,rfl⟩;subst hM;have c1:=(HB.o.cell (p:=⟨Bs,1,Y⟩) K).trans HC.o.1;have c2:wr.cell? ⟨Bd,0,Y⟩=U (I V D):=(HB.o.cell (p:=⟨Bd,0,Y⟩) y0).trans HC.o.2;by_cases m0:b<=hi
  · have n0:(b:Int)<=(hi:Int):=by omega
    have c3:(wr.alloc (O #[I V 0,I V 0] 181)).cell? ⟨Bd,0,Y⟩=U (I V D):=by rw[q3 _ _ _ (by simp[c2])];exact c2
    go_wp2_with fail
    go_region
    have B0:T (J pre wr.drew):=HJ.o pre wr wr.drew Y l0.o ⟨rfl,rfl,rfl,Q _,fun _ _ _=>rfl⟩ (fun _ e=>by cases e);have C0:T (Below C W wr.drew):=HB.o.drew;have D0:T (W.heap.size<=wr.drew.heap.size):=A0.o;have L:(wr.alloc (O #[I V D,I V b] 181)).drew=wr.drew.alloc (O #[I V D,I V b] 181):=rfl;rw[L];obtain⟨P,hP⟩:∃P,wr.heap.size=P:=⟨_,rfl⟩;have E0:T (wr.drew.heap.size=P):=hP;rw[hP];generalize wr.drew=Wd at*;go_wp2_with fail
    go_loopg [5] 9 (fun m sz wq=>∃(k:Nat)(i:z2),k+m=9/\sz=I V ((10^k:Nat):Int)/\T (So b hi m k=SB b hi)/\T (yE b hi k)/\T (J pre i)/\T (Below C W i)/\T (W.heap.size<=i.heap.size)/\T (i.heap.size=P)/\T (wq=i.alloc (O #[I V ((D-k:Nat):Int),I V ((b/10^k:Nat):Int)] 181)))
    case atStart=>exact⟨0,Wd,rfl,rfl,rfl,⟨by simp,by simp;omega⟩,B0,C0,D0,E0,by show _=_;simp⟩
    obtain⟨k,i,M0,rfl,o0,g,p0,j,q,F0,G0⟩:=hrel;have eW:=G0.o;subst eW;have eP:=F0.o;subst eP;have N0:k<=6:=T6 (by have:=g.o.2;show 10^k<=1000000;omega);have O0:k<=D:=T6 (by have:=g.o.2;have:=j0.o;omega);obtain⟨y,hy⟩:∃y,10^k=y:=⟨_,rfl⟩;obtain⟨z,hz⟩:∃z,b/10^k=z:=⟨_,rfl⟩;obtain⟨a,ha⟩:∃a,D-k=a:=⟨_,rfl⟩;have d:=Za hy;have s:=Za hz;have R:=Za ha
    have P0:y<=1000000:=by have:=g.o.2;omega
    have Q0:z<=1000000:=by rw[<-hz];exact F (z9 _ _) k0
    have R0:a<=6:=by omega
    rw[hz,ha];rw[hy];have c1:(i.alloc (O #[I V a,I V z] 181)).cell? ⟨Bs,1,Y⟩=U (I V hi):=((j.o.cell (p:=⟨Bs,1,Y⟩) K).trans HC.o.1)▸(q3 _ _ _ (by rw[(j.o.cell (p:=⟨Bs,1,Y⟩) K),HC.o.1];simp));by_cases hc:z % 10=0/\b+y*10<=hi+1
    · have H0:((z:Int)% 10==0)=true:=by simp;omega
      have q0:(b:Int)+(y:Int)*10-1<=(hi:Int):=by omega
      have S:=Za (HJ.o pre i i.drew Y p0.o ⟨rfl,rfl,rfl,Q _,fun _ _ _=>rfl⟩ (fun _ e=>by cases e))
      have S0:1<=a:=by
        have h1:=g.o.2
        have h2:10^(k+1)<=10^D:=by rw[y5,d.o];have:=j0.o;omega
        have:=T6 h2;have:=R.o;omega
      go_wp2_with fail
      go_region
      go_wp2_with fail;go_roundg (8-k)
      case measure=>omega
      refine⟨k+1,i.drew,by omega,?_,?_,?_,S,j.o.drew,q,rfl,?_⟩
      · rw[y5,d.o];go_num
      · have e:=o0.o
        obtain⟨g1,I0⟩:∃g1,gk=g1+1:=⟨8-k,by omega⟩;rw[I0]at e;unfold So at e;rw[if_pos ⟨by rw[s.o];exact hc.1,by rw[y5,d.o];exact hc.2⟩]at e
        show _=_
        rw[show 8-k=g1 from by omega];exact e
      · exact If g.o (by rw[s.o];exact hc.1) (by rw[y5,d.o];exact hc.2)
      have e1:((D-(k+1):Nat):Int)=(a:Int)-1:=by have:=R.o;omega
      have e2:((b/10^(k+1):Nat):Int)=(z:Int)/10:=by rw[Y4,s.o,k6];omega
      show _=_
      rw[e1,e2];rfl
    have HK:T (SB b hi=k):=by
      have e:=o0.o
      show _=_
      rw[<-e]
      cases gk with
      |zero=>rfl
      |succ g1=>unfold So;rw[if_neg (by rw[s.o,y5,d.o];exact hc)]
    obtain⟨x,c,t,hx,r0⟩:∃(x:SR)(c:List SR),T (f=x::c)/\x.1=⟨a,z⟩/\T (c.map Subtype.val=Ym D hi (M-1) (b+y)):=by
      have e:=HR.o;obtain⟨M',s0⟩:∃M',M=M'+1:=⟨M-1,by omega⟩;rw[s0]at e;unfold Ym at e;rw[if_pos m0,HK.o,s.o,d.o,R.o]at e
      cases f with
      |nil=>simp at e
      | cons x r=>
        simp only[k3,List.cons.injEq]at e;exact⟨x,r,rfl,e.1,by rw[s0,j2];exact e.2⟩
    have S:T (J pre (i.alloc (O #[I V a,I V z] 181))):=HJ.o pre i _ Y p0.o (Lv i _) (fun _ e=>by cases e);obtain⟨fn,tmps,v0,body,Z,hR⟩:=HY.o pre x _ S.o (by rw[HX.o,t.o];simp);rw[hx]at Z;unfold VS at Z;simp only at Z;have t0:=Za hR;by_cases H0:z % 10=0
    · have J0:((z:Int)% 10==0)=true:=by simp;omega
      have q0:¬(b:Int)+(y:Int)*10-1<=(hi:Int):=by omega
      go_upto_region 5 with fail;refine(wpIn_wide (n:=n)).1 ?_
      gi_wp2
      refine⟨fun h=>(by cases h),t0.o.mono ?_⟩;rintro e W3 (⟨rfl,a0,u⟩|⟨rfl,w⟩)
      · have b0:=Za a0
        have c0:=Za ((j.o.alloc (F i0 q.o) _).trans u);have d0:=Za (F q.o (F (by simp) u.size))
        gi_wp2
        go_wp2_with fail;go_roundg (M-1)
        case measure=>omega
        exact⟨pre++[x],c,b+y,by go_num,by have:=g.o.2;have:=d.o;omega,by have:0<y:=by{have:=d.o;have:0<10^k:=k7 (by omega);omega};omega,by show _=_;rw[HX.o,t.o];simp,r0,b0,c0,d0⟩
      have e0:=Za w
      gi_wp2
      go_wp2_with fail;refine bodyPost_ret (results_none rfl _ _ _) rfl ?_;exact⟨⟨_,rfl⟩,.inr ⟨pre++[x],⟨c,by rw[HX.o,t.o];simp⟩,e0.o⟩⟩
    have J0:((z:Int)% 10==0)=false:=by simp;omega
    go_upto_region 5 with fail;refine(wpIn_wide (n:=n)).1 ?_
    gi_wp2
    refine⟨fun h=>(by cases h),t0.o.mono ?_⟩;rintro e W3 (⟨rfl,a0,u⟩|⟨rfl,w⟩)
    · have b0:=Za a0
      have c0:=Za ((j.o.alloc (F i0 q.o) _).trans u);have d0:=Za (F q.o (F (by simp) u.size))
      gi_wp2
      go_wp2_with fail;go_roundg (M-1)
      case measure=>omega
      exact⟨pre++[x],c,b+y,by go_num,by have:=g.o.2;have:=d.o;omega,by have:0<y:=by{have:=d.o;have:0<10^k:=k7 (by omega);omega};omega,by show _=_;rw[HX.o,t.o];simp,r0,b0,c0,d0⟩
    have e0:=Za w
    gi_wp2
    go_wp2_with fail;refine bodyPost_ret (results_none rfl _ _ _) rfl ?_;exact⟨⟨_,rfl⟩,.inr ⟨pre++[x],⟨c,by rw[HX.o,t.o];simp⟩,e0.o⟩⟩
  have n0:¬(b:Int)<=(hi:Int):=by omega
  have K0:T (pre=B):=by
    have e:=HR.o
    have e2:Ym D hi M b=[]:=by cases M with
      |zero=>rfl
      |succ M'=>unfold Ym;rw[if_neg m0]
    rw[e2]at e;have:f=[]:=List.map_eq_nil_iff.1 e
    show _=_
    rw[HX.o,this];simp
  go_wp2_with fail
  go_end0
  have f0:=l0.o;rw[K0.o]at f0;exact⟨⟨_,rfl⟩,.inl (by first|exact f0|exact⟨B,rfl,f0⟩)⟩
attribute [local go_sem] Oper.semAt_some
theorem IG (n Bs Bd c)(D lo hi:Nat)(d)(j:D<=6)(g:lo<=1000000)(h:hi<10^D)(i:d.map Subtype.val=YP D lo hi)(w)(a:c<=w.heap.size)(b:Bs<c)(e:Bd<c)(k:w.cell? ⟨Bs,0,Y⟩=U (I V lo))(m:w.cell? ⟨Bs,1,Y⟩=U (I V hi))(o:w.cell? ⟨Bd,0,Y⟩=U (I V D)):
    SeqStopsK Fence.wide n H 221 #[X (U ⟨Bs,0,Y⟩),X (U ⟨Bd,0,Y⟩)] (fun x:SR=>#[VS x.1]) (Below c) (fun q=>q=d) (fun pre=>pre<+:d) d.length w:=fun l J r W f s _ t u=>
  Ci n l Bs Bd c D lo hi d j g h i J r W s t (F a f.size) b e
    ((f.cell (p:=⟨Bs,0,Y⟩) (nL b a)).trans k) ((f.cell (p:=⟨Bs,1,Y⟩) (nL b a)).trans m) ((f.cell (p:=⟨Bd,0,Y⟩) (nL e a)).trans o) u
def GS (b:ByteArray)(rk dg lo hi:Nat)(c:Option Addr)(d e:Nat)(a:Bool)(f g:Nat)(h:Option Addr)(i j:Nat)(k l:Bool)(m:Option Addr)(n o:Nat)(p:Nat):y4:=
 z7 #[z4 b,I V rk,I V dg,I V lo,I V hi,Z c d e,E a,I V f,I V g,Z h i j,E k,E l,Z m n o,I V p]
theorem SS {q:Z3}:∀{pre:List Z3}(a:List Z3),(∀p,p∈pre->p.holds q=false/\q.holds p=false)->ZH q (pre++a)=ZH q a
 |[],_,_=>rfl
 |p::r,a,h=>by
  have b:=h p j3;rw[<-SS (pre:=r) a (fun x c=>h x (q7 _ c))]
  show ZH q (p::(r++a))=_
  rw[ZH,b.1,b.2];simp
def Ju (q:Z3)(pre:List SR):Prop:=∀p:Z3,p∈pre.map Subtype.val->p.holds q=false/\q.holds p=false
def sG (w:z2)(b:Nat)(q:Z3)(pre:List SR)(W:z2):Prop:=
 (Ju q pre/\W.cell? ⟨b+1,0,Y⟩=U (I V q.d)/\W.cell? ⟨b+1,1,Y⟩=U (I V q.x)/\W.cell? ⟨b+1+1,0,Y⟩=U (I V 0)/\W.frozen? ⟨b+1+1,0,Y⟩=false/\b+5<=W.heap.size)/\Below b w W
def tW (w:z2)(b:Nat)(q:Z3)(c:Code)(pre:List SR)(W:z2):Prop:=
 (c=.ret/\∃v:Nat,W.cell? ⟨b+1+1,0,Y⟩=U (I V v)/\∀a,ZH q (pre.map Subtype.val++a)=v)/\Below b w W
theorem Ay {w W b q pre x}(e:Ju q pre)(v:Nat)(f:W.cell? ⟨b+1+1,0,Y⟩=U (I V v))(g:(x.1.holds q=true/\v=2)\/(x.1.holds q=false/\q.holds x.1=true/\v=1))(h:Below b w W):tW w b q .ret (pre++[x]) W:=by
 refine⟨⟨rfl,v,f,fun a=>?_⟩,h⟩;rw[q0,y7,SS _ e]
 show ZH q (x.1::a)=v
 unfold ZH;rcases g with⟨c,d⟩|⟨c,d,i⟩
 ·rw[c];simp[d]
 rw[c,d];simp[i]
theorem II {q pre x}(b:Ju q pre)(c:x.1.holds q=false)(d:q.holds x.1=false):Ju q (pre++[x]):=by
 intro p a;rw[q0,q1]at a;rcases a with a|a
 ·exact b p a
 simp at a;subst a;exact⟨c,d⟩
theorem VT {W a}(h:Below W.heap.size W a):KeepsOthers W a:=⟨h.size,fun k _ b _=>(h.block k (iA.1 b).1).trans b⟩
set_option maxRecDepth 100000 in
theorem Az (nm rk D lo hi ma mn mc G a7 a8 ca cn cc dc ch pa pn pc ah q w)(hD:D<=6)(h0:lo<=1000000)(i0:hi<10^D)(hq:q.d<=6/\q.x<=1000000)(xs:List SR)(J:xs.map Subtype.val=YP D lo hi):
  CallsIn Fence.wide 5 H 146 #[GS nm rk D lo hi ma mn mc G a7 a8 ca cn cc dc ch pa pn pc ah,VS q] w fun e w'=>e=N (I V (ZH q (YP D lo hi)))/\Below w.heap.size w w':=by
 unfold GS VS;refine callsIn_of_wp_marks Tryz.func146 rfl trivial ?_ rfl;simp only[Tryz.ntmps146,List.size_toArray,j8,List.length_nil,Nat.reduceAdd,Nat.reduceSub,Array.replicate_succ,Array.replicate_zero,List.push_toArray,List.append_toArray,List.nil_append,List.cons_append]
 gi_wp2
 refine⟨trivial,?_⟩;refine(callsIn_wide.2 (Ch _ _ _ _)).mono ?_;rintro e w' ⟨rfl,rfl⟩
 gi_wp2
 generalize r0:Value.agg #[z4 nm,I V rk,I V D,I V lo,I V hi,Z ma mn mc,E G,I V a7,I V a8,Z ca cn cc,E dc,E ch,Z pa pn pc,I V ah]=RV;generalize s0:Obj.cells #[z4 nm,I V rk,I V D,I V lo,I V hi,Z ma mn mc,E G,I V a7,I V a8,Z ca cn cc,E dc,E ch,Z pa pn pc,I V ah] 120=RC;obtain⟨j,i⟩:∃j,((((w.alloc RC).alloc (O #[I V q.d,I V q.x] 181)).alloc (O #[I V 0] 244)).alloc (O #[I V D] 3)).alloc (O #[I V lo,I V hi] 118)=j:=⟨_,rfl⟩;obtain⟨b,z⟩:∃b,w.heap.size=b:=⟨_,rfl⟩
 have t0:j.heap.size=b+5:=by rw[<-i,<-z];simp
 have hF:F0 w j:=by rw[<-i];exact(((Zt.alloc _).alloc _).alloc _).alloc _|>.alloc _
 have j0:Below b w j:=hF.below (by omega)
 have o1:j.heap[b+1]?=U (O #[I V q.d,I V q.x] 181):=by
  rw[<-i,<-z];exact((((Fr.refl (fun _=>False) _).alloc _).alloc _).alloc _).whole (by have:=aN (w.alloc RC) (O #[I V q.d,I V q.x] 181);simpa using this) (by simp)
 have o2:j.heap[b+1+1]?=U (O #[I V 0] 244):=by
  rw[<-i,<-z];exact(((Fr.refl (fun _=>False) _).alloc _).alloc _).whole (by have:=aN ((w.alloc RC).alloc (O #[I V q.d,I V q.x] 181)) (O #[I V 0] 244);simpa using this) (by simp)
 have o3:j.heap[b+1+1+1]?=U (O #[I V D] 3):=by
  rw[<-i,<-z];exact((Fr.refl (fun _=>False) _).alloc _).whole (by have:=aN (((w.alloc RC).alloc (O #[I V q.d,I V q.x] 181)).alloc (O #[I V 0] 244)) (O #[I V D] 3);simpa using this)
 have o4:j.heap[b+1+1+1+1]?=U (O #[I V lo,I V hi] 118):=by
  rw[<-i,<-z];have:=aN ((((w.alloc RC).alloc (O #[I V q.d,I V q.x] 181)).alloc (O #[I V 0] 244)).alloc (O #[I V D] 3)) (O #[I V lo,I V hi] 118)
  simpa using this
 rw[i,z]
 have hR:∀(L M:Z3)(W:z2),L.d<=6->M.d<=6->L.x<=1000000->M.x<=1000000->z1 H 186 #[z7 #[I V L.d,I V L.x],z7 #[I V M.d,I V M.x]] W fun e w'=>e=N (E (L.holds M))/\Below W.heap.size W w':=fun L M W h1 h2 h3 h4=>Cg L M W h1 h2 h4 h3
 refine wpIn_rangeFunc_ownH rfl (by omega) (gf:=221) (lb:=#[X (U ⟨b+1+1+1+1,0,Y⟩),X (U ⟨b+1+1+1,0,Y⟩)]) rfl trivial (enters_of Tryz.func221 (by kernel_rfl) rfl)
  (IG (5-1) (b+1+1+1+1) (b+1+1+1) (b+5) D lo hi xs hD h0 i0 J j (by omega) (by omega) (by omega) (Zc o4 0) (Zc o4 1) (Zc o3 0)) belowK_t (belowK_b (by omega)) (Below.refl _ _) (fun _=>rfl)
  (fun pre W=>sG w b q pre W) (fun c pre W=>tW w b q c pre W)
  (OwnFrom.and (Own.from (fun s A B row h m n=>⟨h.1,cell_kept h.2.1 m n,cell_kept h.2.2.1 m n,cell_kept h.2.2.2.1 m n,(frozen_kept h.2.2.2.1 m n).trans h.2.2.2.2.1,F h.2.2.2.2.2 m.size⟩) _) (ownFrom_below (by omega) (by omega)))
  (fun c=>OwnFrom.and (Own.from (fun s A B row h m n=>⟨h.1,h.2.choose,cell_kept h.2.choose_spec.1 m n,h.2.choose_spec.2⟩) _) (ownFrom_below (by omega) (by omega)))
  ⟨⟨by intro p P;simp at P,Zc o1 0,Zc o1 1,Zc o2 0,bF o2 0,by omega⟩,j0⟩
  (fun x a' W=>∃C,b+5<=C/\W.cell? ⟨C,0,Y⟩=U (I V x.1.d)/\W.cell? ⟨C,1,Y⟩=U (I V x.1.x)/\a'={tmps:=#[RV,z7 #[I V q.d,I V q.x],X (U ⟨b,0,Y⟩),X (U ⟨b+1,0,Y⟩),X (U ⟨b+1+1,0,Y⟩),X (U ⟨C,0,Y⟩),X (U ⟨b,2,Y⟩),I V D,X (U ⟨b,3,Y⟩),z7 #[I V lo,I V hi],.func (.func 221) #[] #[X (U ⟨b+1+1+1+1,0,Y⟩),X (U ⟨b+1+1+1,0,Y⟩)],z7 #[I V x.1.d,I V x.1.x],undef,undef,undef,undef,undef,undef],defers:=[]})
  (fun x a'=>Own.from (fun s A B row h m n=>⟨h.choose,h.choose_spec.1,cell_kept h.choose_spec.2.1 m n,cell_kept h.choose_spec.2.2.1 m n,h.choose_spec.2.2.2⟩) _) ?assign ?body ?done ?_
 case assign=>
  rintro l pre x W K ⟨⟨P,c0,c1,cr,fr,Q⟩,u⟩ R;unfold VS
  gi_wp2
  have f1:=(Lp W (O #[I V x.1.d,I V x.1.x] 181)).1
  have a:∀k,k<b+5->k<W.heap.size:=fun k hk=>by omega
  exact R _ _ ((KeepsOthers.alloc _ _).from _) ((Below.refl _ W).alloc Q _)
   ⟨⟨P,(f1.cell (p:=⟨b+1,0,Y⟩) (a _ (by show b+1<b+5;omega))).trans c0,(f1.cell (p:=⟨b+1,1,Y⟩) (a _ (by show b+1<b+5;omega))).trans c1,(f1.cell (p:=⟨b+1+1,0,Y⟩) (a _ (by show b+1+1<b+5;omega))).trans cr,(f1.frozen (p:=⟨b+1+1,0,Y⟩) (a _ (by show b+1+1<b+5;omega))).trans fr,F Q f1.size⟩,u.alloc (by omega) _⟩
   ⟨W.heap.size,Q,Zc (aN W _) 0,Zc (aN W _) 1,rfl⟩
 case body=>
  rintro l pre x a' W hl ⟨r,n⟩ ⟨⟨P,c0,c1,cr,fr,Q⟩,u⟩ ⟨C,v0,x0,x1,rfl⟩ w0;have b0:C<W.heap.size:=bL W _ x0
  have a:∀k,k<b+5->k<W.heap.size:=fun k hk=>by omega
  have HH:=Za P;have y:=x.2;have l0:=Za (hR x.1 q W y.1 hq.1 y.2 hq.2)
  have m0:T (∀W2,z1 H 186 #[z7 #[I V q.d,I V q.x],z7 #[I V x.1.d,I V x.1.x]] W2 fun e w'=>e=N (E (q.holds x.1))/\Below W2.heap.size W2 w'):=fun W2=>hR q x.1 W2 hq.1 y.1 hq.2 y.2
  gi_wp2
  refine⟨trivial,?_⟩;refine(CallsIn.inRound l (callsIn_wide.2 l0.o)).mono ?_;rintro e W2 ⟨rfl,g⟩;have f0:=Za g;have d0:=(g.cell (p:=⟨b+1,0,Y⟩) (a _ (by show b+1<b+5;omega))).trans c0;have d1:=(g.cell (p:=⟨b+1,1,Y⟩) (a _ (by show b+1<b+5;omega))).trans c1;have dr:=(g.cell (p:=⟨b+1+1,0,Y⟩) (a _ (by show b+1+1<b+5;omega))).trans cr;have df:=(g.frozen (p:=⟨b+1+1,0,Y⟩) (a _ (by show b+1+1<b+5;omega))).trans fr;have e0:=(g.cell (p:=⟨C,0,Y⟩) b0).trans x0;have e1:=(g.cell (p:=⟨C,1,Y⟩) b0).trans x1
  cases h1:x.1.holds q with
  |true=>
   gi_wp2
   exact⟨((VT f0.o).trans (KeepsOthers.setCell _ _ _)).from _,Ay HH.o 2 (cS _ _ _ dr) (z5 ⟨h1,rfl⟩) ((u.trans (f0.o.mono (by omega))).setCell (p:=⟨b+1+1,0,Y⟩) (by show b<=b+1+1;omega) _)⟩
  |false=>
   gi_wp2
   refine⟨trivial,?_⟩;refine(CallsIn.inRound l (callsIn_wide.2 (m0.o _))).mono ?_;rintro e W3 ⟨rfl,n0⟩;have f:=Za (g.trans (n0.mono g.size));have k0:=(f.o.cell (p:=⟨b+1,0,Y⟩) (a _ (by show b+1<b+5;omega))).trans c0;have k1:=(f.o.cell (p:=⟨b+1,1,Y⟩) (a _ (by show b+1<b+5;omega))).trans c1;have kr:=(f.o.cell (p:=⟨b+1+1,0,Y⟩) (a _ (by show b+1+1<b+5;omega))).trans cr;have kf:=(f.o.frozen (p:=⟨b+1+1,0,Y⟩) (a _ (by show b+1+1<b+5;omega))).trans fr
   cases h2:q.holds x.1 with
   |true=>
    gi_wp2
    exact⟨((VT f.o).trans (KeepsOthers.setCell _ _ _)).from _,Ay HH.o 1 (cS _ _ _ kr) (z0 ⟨h1,h2,rfl⟩) ((u.trans (f.o.mono (by omega))).setCell (p:=⟨b+1+1,0,Y⟩) (by show b<=b+1+1;omega) _)⟩
   |false=>
    gi_wp2
    exact⟨(VT f.o).from _,f.o.mono Q,⟨II HH.o h1 h2,k0,k1,kr,kf,F Q f.o.size⟩,u.trans (f.o.mono (by omega))⟩
 case done=>
  rintro D' ys W o0 rfl ⟨⟨P,c0,c1,cr,fr,Q⟩,u⟩ R
  gi_wp2
  have S:=(KeepsOthers.setCell W ⟨b+1+1,0,Y⟩ (I V 0)).same D' _ R rfl;refine⟨by simp,.inl ⟨_,_,rfl,run_takeDeferred S,?_⟩⟩;have a0:=cell_kept (cS W ⟨b+1+1,0,Y⟩ (I V 0) cr) (grownBy_putObj' _ D' (.deferred Y)) (fun r e=>by cases e;exact⟨_,S,rfl⟩)
  have hv:ZH q (YP D lo hi)=0:=by
   have:=SS (q:=q) [] P;rw[k2,J]at this;exact this
  refine⟨I V 0,?_,by rw[hv];rfl,?_⟩
  ·simp[results,Tryz.results146,go_sem,a0]
  rw[z]
  exact(u.setCell (p:=⟨b+1+1,0,Y⟩) (by show b<=b+1+1;omega) _).trans (belowK_b (w:=j) (by omega) _ D' _ _ (by omega) S rfl rfl)
 rintro D' c pre W o0 g0 ⟨⟨rfl,v,hc,hv⟩,u⟩ R
 gi_wp2
 refine⟨by simp,.inl ⟨_,_,rfl,run_takeDeferred R,?_⟩⟩;have a0:=cell_kept hc (grownBy_putObj' _ D' (.deferred Y)) (fun r e=>by cases e;exact⟨_,R,rfl⟩)
 have p0:ZH q (YP D lo hi)=v:=by
  obtain⟨t,ht⟩:=g0;rw[<-J,<-ht,q0];exact hv _
 refine⟨I V v,?_,by rw[p0],?_⟩
 ·simp[results,Tryz.results146,go_sem,a0]
 rw[z]
 exact u.trans (belowK_b (w:=j) (by omega) _ D' _ _ (by omega) R rfl rfl)
theorem Og {d hi:Nat}(c:hi<10^d)(b:d<=6){p:Z3}:∀(n a:Nat),p∈Ym d hi n a->p.d<=6/\p.x<=1000000
 |0,_,h=>by simp[Ym]at h
 |n+1,a,h=>by
  unfold Ym at h
  split at h
  ·rename_i f
   rcases j0.1 h with e|h
   ·subst e
    have g:a/10^SB a hi<=a:=z9 _ _;have i:10^d<=10^6:=q6 (by omega) b;exact⟨by show d-_<=6;omega,by show a/_<=1000000;omega⟩
   exact Og c b n _ h
  cases h
theorem Cj {d lo hi}(e:hi<10^d)(f:d<=6):∃a:List SR,a.map Subtype.val=YP d lo hi:=by
 have h:∀l:List Z3,(∀p,p∈l->p.d<=6/\p.x<=1000000)->∃a:List SR,a.map Subtype.val=l:=by
  intro l
  induction l with
  |nil=>intro _;exact⟨[],rfl⟩
  |cons p r g=>
   intro c;obtain⟨a,i⟩:=g (fun p b=>c p (q7 _ b));exact⟨⟨p,c p j3⟩::a,by simp only[k3,i]⟩
 exact h _ (fun p b=>Og e f _ _ b)
theorem Ck (g rk D lo hi h i j a k l m n o p r s t u v q w)(y:D<=6)(c:lo<=1000000)(b:hi<10^D)(z:q.d<=6/\q.x<=1000000):
  z1 H 146 #[GS g rk D lo hi h i j a k l m n o p r s t u v,VS q] w fun e w'=>e=N (I V (ZH q (YP D lo hi)))/\Below w.heap.size w w':=by
 obtain⟨A,f⟩:=Cj (lo:=lo) b y;exact callsIn_wide.1 (Az g rk D lo hi h i j a k l m n o p r s t u v q w y c b z A f)
def WM (rk:Nat->Nat)(x:Nat)(l:List Nat):Nat->Nat
 |0=>0
 |j+1=>if rk (l.getD j 0)<rk x then WM rk x l j else j+1
def NK (rk:Nat->Nat)(x:Nat)(l:List Nat):List Nat:=l.take (WM rk x l l.length)++x::l.drop (WM rk x l l.length)
def Xd (rk:Nat->Nat):Nat->List Nat
 |0=>[]
 |n+1=>NK rk n (Xd rk n)
theorem QT (rk:Nat->Nat)(x:Nat)(l:List Nat):∀j,WM rk x l j<=j
 |0=>Q _
 |j+1=>by
  unfold WM
  split
  ·exact Nat.le_succ_of_le (QT rk x l j)
  exact Q _
theorem IJ (rk x l):(NK rk x l).length=l.length+1:=by
 have:=QT rk x l l.length;unfold NK;rw[lA,z3,j8,j9];omega
theorem VU (rk:Nat->Nat):∀n,(Xd rk n).length=n
 |0=>rfl
 |n+1=>by show(NK rk n (Xd rk n)).length=_;rw[IJ,VU rk n]
theorem AA {rk x y l}:y∈NK rk x l↔y=x\/y∈l:=by
 unfold NK;rw[q1,j0]
 constructor
 ·rintro(h|h|h)
  ·exact z0 (q8 h)
  ·exact z5 h
  exact z0 (List.mem_of_mem_drop h)
 rintro(h|h)
 ·exact z0 (z5 h)
 rw[<-q4 (WM rk x l l.length) l,q1]at h
 rcases h with h|h
 ·exact z5 h
 exact z0 (z0 h)
theorem Uf {rk:Nat->Nat}:∀{n y:Nat},y∈Xd rk n↔y<n
 |0,y=>by simp[Xd]
 |n+1,y=>by
  show y∈NK rk n (Xd rk n)↔_
  rw[AA,Uf];omega
def Ss (rk:Nat->Nat)(a b:Nat):Prop:=rk b<rk a\/(rk a=rk b/\a<b)
theorem Ka {rk:Nat->Nat}{x:Nat}{l:List Nat}:∀{j i:Nat},WM rk x l j<=i->i<j->rk (l.getD i 0)<rk x
 |0,_,_,h=>by omega
 |j+1,i,h1,h2=>by
  unfold WM at h1
  split at h1
  ·rename_i a
   by_cases e:i=j
   ·subst e;exact a
   exact Ka h1 (by omega)
  omega
theorem NL {rk:Nat->Nat}{x:Nat}{l:List Nat}:∀{j:Nat},0<WM rk x l j->¬rk (l.getD (WM rk x l j-1) 0)<rk x
 |0,h=>by simp[WM]at h
 |j+1,h=>by
  unfold WM at h ⊢
  split at h
  ·rename_i a
   rw[if_pos a];exact NL h
  rename_i a
  rw[if_neg a]
  simpa using a
theorem UZ {l:List Nat}{i}(h):l.getD i 0=l[i]:=by simp[List.getD,h]
theorem Fs {rk x l}(v:l.Pairwise (Ss rk))(w:∀y,y∈l->y<x):(NK rk x l).Pairwise (Ss rk):=by
 unfold NK;generalize n:WM rk x l l.length=k
 have z:k<=l.length:=by rw[<-n];exact QT rk x l l.length
 have c:(l.take k++l.drop k).Pairwise (Ss rk):=by rw[q4];exact v
 rw[q9]at c;obtain⟨A,B,C⟩:=c;rw[q9]
 have d:∀y,y∈l.drop k->rk y<rk x:=by
  intro y f;obtain⟨i,hi,e⟩:=j1 f;rw[List.getElem_drop]at e
  have h:k+i<l.length:=by rw[j9]at hi;omega
  have:=Ka (rk:=rk) (x:=x) (l:=l) (j:=l.length) (i:=k+i) (by rw[n];omega) h;rw[UZ h,e]at this;exact this
 have g:∀y,y∈l.take k->¬rk y<rk x:=by
  intro y f
  have p:0<k:=by
   rcases j4 k with e|e
   ·rw[e]at f;simp at f
   exact e
  have m:=NL (rk:=rk) (x:=x) (l:=l) (j:=l.length) (by rw[n];exact p);rw[n,UZ (by omega:k-1<l.length)]at m;obtain⟨i,hi,e⟩:=j1 f;rw[List.getElem_take]at e;rw[z3]at hi;by_cases q:i=k-1
  ·subst q;rw[<-e];exact m
  have o:=(List.pairwise_iff_getElem.1 v) i (k-1) (by omega) (by omega) (by omega)
  rw[e]at o;rcases o with o|o
  ·omega
  omega
 refine⟨A,?_,?_⟩
 ·rw[List.pairwise_cons]
  exact⟨fun y f=>z5 (d y f),B⟩
 intro a r b s
 rcases j0.1 s with e|s
 ·subst e
  have D:=g a r;have t:=w a (q8 r);by_cases u:rk b<rk a
  ·exact z5 u
  exact z0 ⟨by omega,t⟩
 exact C a r b s
theorem Oh (rk:Nat->Nat):∀n,(Xd rk n).Pairwise (Ss rk)
 |0=>List.Pairwise.nil
 |n+1=>Fs (Oh rk n) (fun _ a=>Uf.1 a)
theorem Yc (g o k):(⟨g,o,Y⟩:Addr).add k=⟨g,o+k,Y⟩:=by unfold Addr.add;split<;>simp_all
theorem Tw.at' {base:Nat}{w:z2}:∀{rs:List Ze}{a:List y4}{j:Nat}{r:Ze},Tw base w rs a->rs[j]?=U r->∃c,BT base w r c/\∀o v,c[o]?=U v->a[j*14+o]?=U v
 |[],_,j,_,_,hj=>by simp at hj
 |r::rs,a,0,r',⟨c,rest,e,h1,h2⟩,hj=>by
  simp at hj;subst hj;refine⟨c,h1,fun o v b=>?_⟩;have:=(iG.1 b).1;rw[e,Nat.zero_mul,j5,y8 this];exact b
 |r::rs,a,j+1,r',⟨c,rest,e,h1,h2⟩,hj=>by
  obtain⟨d,f,g⟩:=Tw.at' h2 (j:=j) (r:=r') (by simpa using hj)
  have l:c.length=14:=by obtain⟨i,k,m,h,_⟩:=h1;rw[h];rfl
  refine⟨d,f,fun o v b=>?_⟩;rw[e,aR (by omega),l,show(j+1)*14+o-14=j*14+o from by omega];exact g o v b
theorem Bk.rule {w B x p rts a y}(h:Bk w B x p rts a y){j r}(q:a[j]?=U r):
  ∃g c d f i k l m,p=Z (U ⟨g,0,Y⟩) a.length c/\B+1<=g/\g<w.heap.size/\
   (∀o v,[j6 r.name,I V r.rank,I V r.digits,I V r.lo,I V r.hi,Z d r.mcc.length f,E r.am.isSome,I V (r.am.getD (0,0)).1,I V (r.am.getD (0,0)).2,Z i r.cur.length k,E r.decline,E r.cheapest,Z l r.routes.length m,I V r.ahead][o]?=U v->w.cell? ⟨g,j*14+o,Y⟩=U v)/\
   w.ownsRow (B+1) 3 1 (Z d r.mcc.length f) r.mcc.length (Zg r.mcc)/\w.ownsRow (B+1) 3 1 (Z i r.cur.length k) r.cur.length (Zg r.cur)/\w.ownsRow (B+1) 3 1 (Z l r.routes.length m) r.routes.length (Zg r.routes):=by
 have z:0<a.length:=by have:=(iG.1 q).1;omega
 obtain⟨g,c,e,A,C⟩:=h.lo.form z;obtain⟨K,⟨L,M,N,n,s,t,u⟩,D⟩:=h.ru.at' q;obtain⟨d,f,F⟩:=oL s;obtain⟨i,k,G⟩:=oL t;obtain⟨l,m,H⟩:=oL u;subst F G H;refine⟨g,c,d,f,i,k,l,m,e,A,C,fun o v J=>?_,s,t,u⟩;have b:=h.lo;rw[e]at b;have:=b.cells (g:=g) rfl _ _ (D o v (by rw[n];exact J))
 rwa [Yc,j5]at this
def Lw (a b:Nat):Int:=if a<b then-1 else if b<a then 1 else 0
theorem IK (a b:Nat)(w):z1 H 144 #[I V a,I V b] w fun e w'=>e=N (I V (Lw a b))/\w'=w:=by
 have j:∀(a:Nat)(w:z2),z1 H 184 #[I V a] w fun e w'=>e=N (E false)/\w'=w:=fun a w=>by
  go_enter Tryz.func184,Tryz.ntmps184;go_wp2;go_ret;exact⟨SQ (by simp),rfl⟩
 have d:=Za j;by_cases f:a<b
 ·have g:(a:Int)<(b:Int):=by omega
  go_enter Tryz.func144,Tryz.ntmps144
  go_wp2_with (go_at_call 184;refine DU (d.o _ _) fun w' c=>?_;replace c:=c.symm;subst c)
  go_ret;exact⟨ZO (by simp[Lw,f]),rfl⟩
 have g:¬(a:Int)<(b:Int):=by omega
 by_cases i:b<a
 ·have h:(b:Int)<(a:Int):=by omega
  go_enter Tryz.func144,Tryz.ntmps144
  go_wp2_with (go_at_call 184;refine DU (d.o _ _) fun w' c=>?_;replace c:=c.symm;subst c)
  go_ret;exact⟨ZO (by simp[Lw,f,i]),rfl⟩
 have h:¬(b:Int)<(a:Int):=by omega
 go_enter Tryz.func144,Tryz.ntmps144
 go_wp2_with (go_at_call 184;refine DU (d.o _ _) fun w' c=>?_;replace c:=c.symm;subst c)
 go_ret;exact⟨ZO (by simp[Lw,f,i]),rfl⟩
structure Ft (w:z2)(Lb g c n:Nat)(rk:Nat->Nat):Prop where
 cl:w.cell? ⟨Lb,0,Y⟩=U (Z (U ⟨g,0,Y⟩) n c)
 rw:∀i,i<n->w.cell? ⟨g,i*14+1,Y⟩=U (I V (rk i))
 gl:g<w.heap.size
theorem IL (w a g c n rk)(h:Ft w a g c n rk)(i j:Nat)(hi:i<n)(b:j<n):
  z1 H 143 #[I V i,I V j,X (U ⟨a,0,Y⟩)] w fun e w'=>e=N (I V (Lw (rk j) (rk i)))/\∃m,w'=w.drewN m:=by
 have l:=h.cl;have p:=h.rw i hi;have q:=h.rw j b
 have d:(i:Int)<(n:Int):=by omega
 have f:(j:Int)<(n:Int):=by omega
 have k:T (∀W,z1 H 144 #[I V (rk j),I V (rk i)] W fun e w'=>e=N (I V (Lw (rk j) (rk i)))/\w'=W):=fun W=>IK _ _ W
 go_enter Tryz.func143,Tryz.ntmps143;go_wp2_with fail
 go_quiet ((go_at_call 144;exact Calls.quiet_of_same (k.o _)))
 go_wp2;go_ret;exact⟨rfl,_,rfl⟩
structure Vb (w:z2)(g n:Nat)(f:Nat->Nat):Prop where
 cl:∀k,k<n->w.cell? ⟨g,k,Y⟩=U (I V (f k))
 fz:∀o,w.frozen? ⟨g,o,Y⟩=false
theorem Vb.congr {w g n f f'}(h:Vb w g n f)(e:∀k,k<n->f k=f' k):Vb w g n f':=⟨fun k a=>by rw[<-e k a];exact h.cl k a,h.fz⟩
def Qe (pre:List Nat)(i j k:Nat):Nat:=if k<j then pre.getD k 0 else if k=j then i else if k<=i then pre.getD (k-1) 0 else k
def Zx (rk:Nat->Nat)(i k:Nat):Nat:=if k<i then(Xd rk i).getD k 0 else k
theorem Cm (rk i k):Zx rk i k=Qe (Xd rk i) i i k:=by
 unfold Zx Qe
 split
 ·rfl
 split
 ·omega
 rw[if_neg (by omega)]
theorem E0 (rk i k):Qe (Xd rk i) i (WM rk i (Xd rk i) i) k=Zx rk (i+1) k:=by
 have d:=VU rk i;have e:=QT rk i (Xd rk i) i;unfold Zx Qe
 show _=if k<i+1 then(NK rk i (Xd rk i)).getD k 0 else k
 unfold NK;rw[d];generalize WM rk i (Xd rk i) i=K at*;generalize Xd rk i=pre at*;simp only[List.getD_eq_getElem?_getD];by_cases a:k<K
 ·rw[if_pos a,if_pos (by omega),y8 (by rw[z3];omega),List.getElem?_take,if_pos a]
 rw[if_neg a]
 by_cases b:k=K
 ·rw[if_pos b,if_pos (by omega),aR (by rw[z3];omega),z3,show k-min K pre.length=0 from by omega]
  rfl
 rw[if_neg b]
 by_cases c:k<=i
 ·rw[if_pos c,if_pos (by omega),aR (by rw[z3];omega),z3,show k-min K pre.length=(k-1-K)+1 from by omega,List.getElem?_cons_succ,List.getElem?_drop,show K+(k-1-K)=k-1 from by omega]
 rw[if_neg c,if_neg (by omega)]
theorem Vb.swap {w g n pre}{i:Nat}{j}(h:Vb w g n (Qe pre i j))(p:0<j)(a:j<=i):
  Vb ((w.setCell ⟨g,j,Y⟩ (I V (pre.getD (j-1) 0))).setCell ⟨g,j-1,Y⟩ (I V i)) g n (Qe pre i (j-1)):=by
 refine⟨fun k b=>?_,fun o=>by simp[h.fz o]⟩
 have c:(⟨g,j,Y⟩:Addr)≠⟨g,j-1,Y⟩:=by intro e;injection e with _ e;omega
 by_cases d:k=j-1
 ·subst d
  have:=h.cl (j-1) b;rw[cS _ _ _ (by rw[cO _ _ _ _ c];exact this)];unfold Qe;rw[if_neg (by omega),if_pos rfl]
 rw[cO _ _ _ _ (by intro e;injection e with _ e;omega)]
 by_cases f:k=j
 ·subst f
  rw[cS _ _ _ (h.cl k b)];unfold Qe;rw[if_neg (by omega),if_neg (by omega),if_pos a]
 rw[cO _ _ _ _ (by intro e;injection e with _ e;omega),h.cl k b]
 unfold Qe;by_cases l:k<j
 ·rw[if_pos l,if_pos (by omega)]
 have m:¬k<j-1:=by omega
 simp only[d,f,l,m,if_false]
theorem Ft.fr {w w' a g c n rk S}(h:Ft w a g c n rk)(b:Fr S w w')(d:¬S a:=by simp)(e:¬S g:=by simp):Ft w' a g c n rk:=
 ⟨(b.cell (p:=⟨a,0,Y⟩) (bL w _ h.cl) d).trans h.cl,fun i hi=>(b.cell (p:=⟨g,i*14+1,Y⟩) h.gl e).trans (h.rw i hi),nL h.gl b.size⟩
theorem E3 {a b}:(Lw a b<0)↔a<b:=by
 unfold Lw
 split
 ·simp[*]
 split
 ·constructor<;>intro h<;>omega
 constructor<;>intro h<;>omega
theorem IM (w s g c)(n:Nat)(g2 cap rk)(h:Ft w s g c n rk)(ho:Vb w g2 n (fun k=>k))(h1:s≠g2)(h2:g≠g2)(hn:n<=8)(C:1<=n):
  z1 H 219 #[Z (U ⟨g2,0,Y⟩) n cap,I V 0,I V n,.func (.func 143) #[] #[X (U ⟨s,0,Y⟩)]] w fun e w'=>e=N (.tuple #[])/\Vb w' g2 n (Zx rk n)/\Fr (fun k=>k=g2) w w':=by
 have HK:=Za h
 have HO:T (Vb w g2 n (Zx rk 1)):=ho.congr (fun k _=>by
  unfold Zx
  split
  ·have:k=0:=by omega
   subst this;rfl
  rfl)
 have u:T (s≠g2/\g≠g2):=⟨h1,h2⟩;go_enter Tryz.func219,Tryz.ntmps219;go_wp2_with fail
 go_loopg [8] (n-1) (fun m iv wr=>∃i,1<=i/\i<=n/\m=n-i/\iv=I V (i:Nat)/\T (Vb wr g2 n (Zx rk i))/\T (Fr (fun k=>k=g2) w wr))
 case atStart=>exact⟨1,Q _,C,rfl,rfl,HO,Zt⟩
 obtain⟨i,a0,b0,rfl,rfl,v,S⟩:=hrel;by_cases D:i<n
 ·have E:(i:Int)<(n:Int):=by omega
  have F:=Za (v.o.congr (fun k _=>Cm rk i k));go_wp2_with fail
  go_loopg [9] i (fun m jv W=>jv=I V (m:Nat)/\m<=i/\T (Vb W g2 n (Qe (Xd rk i) i m))/\T (WM rk i (Xd rk i) m=WM rk i (Xd rk i) i)/\T (Fr (fun k=>k=g2) w W))
  case atStart=>exact⟨rfl,Q _,F,rfl,S⟩
  obtain⟨rfl,G,a,J,f⟩:=hrel
  cases gk with
  |zero=>
   have b:T (WM rk i (Xd rk i) i=0):=by have e:=J.o;show _=_;rw[<-e];rfl
   go_wp2_with fail
   go_quiet (fail)
   have l:T (Vb (wr.drewN nq) g2 n (Zx rk (i+1))):=by
    have e:=a.o.congr (f':=Zx rk (i+1)) (fun k _=>by rw[<-E0 rk i k,b.o]);exact⟨fun k q=>e.cl k q,fun o=>e.fz o⟩
   have d:T (Fr (fun k=>k=g2) w (wr.drewN nq)):=f.o.trans ⟨rfl,rfl,rfl,Q _,fun _ _ _=>rfl⟩;generalize wr.drewN nq=t at*;go_wp2_with fail;go_roundg (n-(i+1))
   case measure=>omega
   exact⟨i+1,by omega,by omega,rfl,by go_num,l,d⟩
  |succ j=>
   have x:T ((Xd rk i).getD j 0<n):=by
    have hl:=VU rk i
    have hj:j<(Xd rk i).length:=by omega
    have:=Uf.1 (List.getElem_mem hj)
    show _<_
    rw[UZ hj];omega
   obtain⟨y,K⟩:∃y,(Xd rk i).getD j 0=y:=⟨_,rfl⟩;have L:=Za K
   have c1:wr.cell? ⟨g2,j+1,Y⟩=U (I V i):=by
    have e:=a.o.cl (j+1) (by omega);unfold Qe at e;rw[if_neg (by omega),if_pos rfl]at e;exact e
   have c0:wr.cell? ⟨g2,j,Y⟩=U (I V y):=by
    have e:=a.o.cl j (by omega);unfold Qe at e;rw[if_pos (by omega),K]at e;exact e
   have r:=Za (HK.o.fr f.o u.o.1 u.o.2)
   have HC:T (∀m,z1 H 143 #[I V i,I V y,X (U ⟨s,0,Y⟩)] (wr.drewN m) fun e w'=>e=N (I V (Lw (rk y) (rk i)))/\∃k,w'=(wr.drewN m).drewN k):=fun m=>
    IL (wr.drewN m) s g c n rk ⟨r.o.cl,r.o.rw,r.o.gl⟩ i y D (by have:=x.o;rw[K]at this;exact this)
   have f0:y<8:=by have:=x.o;omega
   have e0:(0:Int)<(j:Int)+1:=by omega
   have e1:(j:Int)+1<(n:Int):=by omega
   have e2:(j:Int)<(n:Int):=by omega
   by_cases B:rk y<rk i
   ·have M:=E3.2 B
    go_wp2_with fail
    go_quiet ((go_at_call 143;exact Calls.quiet_of (HC.o _)))
    have z:T (Vb (wr.drewN nq) g2 n (Qe (Xd rk i) i (j+1))):=⟨fun k q=>a.o.cl k q,fun o=>a.o.fz o⟩;have d:T (Fr (fun k=>k=g2) w (wr.drewN nq)):=f.o.trans ⟨rfl,rfl,rfl,Q _,fun _ _ _=>rfl⟩;have d1:(wr.drewN nq).cell? ⟨g2,j+1,Y⟩=U (I V i):=c1;have d0:(wr.drewN nq).cell? ⟨g2,j,Y⟩=U (I V y):=c0;have fz:∀o,(wr.drewN nq).frozen? ⟨g2,o,Y⟩=false:=z.o.fz;generalize wr.drewN nq=t at*
    have A:T (Vb ((t.setCell ⟨g2,j+1,Y⟩ (I V y)).setCell ⟨g2,j,Y⟩ (I V i)) g2 n (Qe (Xd rk i) i j)):=by
     have e:=z.o.swap (by omega) G;rw[j2,L.o]at e;exact e
    have O:T (WM rk i (Xd rk i) j=WM rk i (Xd rk i) i):=by
     have e:=J.o;rw[WM,L.o,if_pos B]at e;exact e
    go_wp2_with fail
    go_region
    have P:T (Vb (((t.setCell ⟨g2,j+1,Y⟩ (I V y)).setCell ⟨g2,j,Y⟩ (I V i)).drew) g2 n (Qe (Xd rk i) i j)):=⟨fun k q=>A.o.cl k q,fun o=>A.o.fz o⟩;have R:T (Fr (fun k=>k=g2) w (((t.setCell ⟨g2,j+1,Y⟩ (I V y)).setCell ⟨g2,j,Y⟩ (I V i)).drew)):=((d.o.setCell (p:=⟨g2,j+1,Y⟩) (z5 rfl) _).setCell (p:=⟨g2,j,Y⟩) (z5 rfl) _).drew;generalize((t.setCell ⟨g2,j+1,Y⟩ (I V y)).setCell ⟨g2,j,Y⟩ (I V i)).drew=wy at*;go_wp2_with fail;go_roundg j
    case measure=>omega
    exact⟨by go_num,by omega,P,O,R⟩
   have M:¬Lw (rk y) (rk i)<0:=fun h=>B (E3.1 h)
   have b:T (WM rk i (Xd rk i) i=j+1):=by have e:=J.o;show _=_;rw[<-e,WM,L.o,if_neg B]
   go_wp2_with fail
   go_quiet ((go_at_call 143;exact Calls.quiet_of (HC.o _)))
   have l:T (Vb (wr.drewN nq) g2 n (Zx rk (i+1))):=by
    have e:=a.o.congr (f':=Zx rk (i+1)) (fun k _=>by rw[<-E0 rk i k,b.o]);exact⟨fun k q=>e.cl k q,fun o=>e.fz o⟩
   have d:T (Fr (fun k=>k=g2) w (wr.drewN nq)):=f.o.trans ⟨rfl,rfl,rfl,Q _,fun _ _ _=>rfl⟩;generalize wr.drewN nq=t at*;go_wp2_with fail;go_roundg (n-(i+1))
   case measure=>omega
   exact⟨i+1,by omega,by omega,rfl,by go_num,l,d⟩
 have E:¬(i:Int)<(n:Int):=by omega
 have e:i=n:=by omega
 subst e;go_wp2
 go_end0
 exact⟨rfl,v.o,S.o⟩
theorem NM (w l g c n g2 cap rk)(h:Ft w l g c n rk)(r:Vb w g2 n (fun k=>k))(s:l≠g2)(t:g≠g2)(u:n<=8)(m:1<=n):
  z1 H 142 #[Z (U ⟨g2,0,Y⟩) n cap,.func (.func 143) #[] #[X (U ⟨l,0,Y⟩)]] w fun e w'=>e=N (.tuple #[])/\Vb w' g2 n (Zx rk n)/\Fr (fun k=>k=g2) w w':=by
 have v:=Za (IM w l g c n g2 cap rk h r s t u m)
 have x:T (z1 H 183 #[Z (U ⟨g2,0,Y⟩) n cap,I V n,.func (.func 143) #[] #[X (U ⟨l,0,Y⟩)]] w fun e w'=>e=N (.tuple #[])/\Vb w' g2 n (Zx rk n)/\Fr (fun k=>k=g2) w w'):=by
  show z1 _ _ _ _ _
  have y:¬(20:Int)<=(n:Int):=by omega
  have z:¬(20:Int)<(n:Int):=by omega
  go_enter Tryz.func183,Tryz.ntmps183;go_wp2_with fail
  go_loopg [7,8] 0 (fun _ a b wr=>a=I V 0/\b=I V 20/\T (wr=w))
  case atStart=>exact⟨rfl,rfl,rfl⟩
  obtain⟨rfl,rfl,p⟩:=hrel;have e:=p.o;subst e;go_wp2_with fail;refine v.o.mono ?_;rintro e q ⟨rfl,d,f⟩;have i:=Za d;have j:=Za f;go_wp2_with fail
  go_loopg [6] 0 (fun _ a wr=>a=I V 20/\T (wr=q))
  case atStart=>exact⟨rfl,rfl⟩
  obtain⟨rfl,p⟩:=hrel;have e:=p.o;subst e;go_wp2_with fail
  go_end0
  exact⟨rfl,i.o,j.o⟩
 go_enter Tryz.func142,Tryz.ntmps142;go_wp2_with fail;refine x.o.mono ?_;rintro e q ⟨rfl,d,f⟩;have i:=Za d;have j:=Za f;go_wp2_with fail
 go_end0
 exact⟨rfl,i.o,j.o⟩
theorem OI (w c g):
  z1 H 142 #[Z Y 0 c,.func (.func 143) #[] #[X (U ⟨g,0,Y⟩)]] w fun e w'=>e=N (.tuple #[])/\w'=w:=by
 have i:T (z1 H 219 #[Z Y 0 c,I V 0,I V 0,.func (.func 143) #[] #[X (U ⟨g,0,Y⟩)]] w fun e w'=>e=N (.tuple #[])/\w'=w):=by
  show z1 _ _ _ _ _
  go_enter Tryz.func219,Tryz.ntmps219;go_wp2_with fail
  go_loopg [8] 0 (fun _ a wr=>a=I V 1/\T (wr=w))
  case atStart=>exact⟨rfl,rfl⟩
  obtain⟨rfl,f⟩:=hrel;have e:=f.o;subst e;go_wp2_with fail
  go_end0
  exact⟨rfl,rfl⟩
 have j:T (z1 H 183 #[Z Y 0 c,I V 0,.func (.func 143) #[] #[X (U ⟨g,0,Y⟩)]] w fun e w'=>e=N (.tuple #[])/\w'=w):=by
  show z1 _ _ _ _ _
  go_enter Tryz.func183,Tryz.ntmps183;go_wp2_with fail
  go_loopg [7,8] 0 (fun _ a b wr=>a=I V 0/\b=I V 20/\T (wr=w))
  case atStart=>exact⟨rfl,rfl,rfl⟩
  obtain⟨rfl,rfl,f⟩:=hrel;have e:=f.o;subst e;go_wp2_with fail;refine i.o.mono ?_;rintro e k ⟨rfl,d⟩;replace d:=d.symm;subst d;go_wp2_with fail
  go_loopg [6] 0 (fun _ a h=>a=I V 20/\T (h=wr))
  case atStart=>exact⟨rfl,rfl⟩
  obtain⟨rfl,f⟩:=hrel;have e:=f.o;subst e;go_wp2_with fail
  go_end0
  exact⟨rfl,rfl⟩
 go_enter Tryz.func142,Tryz.ntmps142;go_wp2_with fail;refine j.o.mono ?_;rintro e k ⟨rfl,d⟩;replace d:=d.symm;subst d;go_wp2_with fail
 go_end0
 exact⟨rfl,rfl⟩
theorem Fu (i):y9 (i+1)=y9 i++[i]:=List.range_succ
def E4 (w:z2)(B:Nat)(a:Option Addr)(n:Nat)(f:Nat->Nat):Prop:=0<n->∃g,a=U ⟨g,0,Y⟩/\B<=g/\g<w.heap.size/\Vb w g n f
theorem Fv (w z n c rk)(hn:n<=8)(hr:∀i,i<n->∃g,z=U ⟨g,0,Y⟩/\g<w.heap.size/\w.cell? ⟨g,i*14+1,Y⟩=U (I V (rk i))):
  z1 H 92 #[Z z n c] w fun e w'=>(∃r j,e=N (Z r n j)/\E4 w' w.heap.size r n (Zx rk n))/\F0 w w':=by
 have l0:∀(fn:Fn)(first cap:Array y4)(w:z2),(Instr.makeFunc fn first cap).run H w=.ok (.func fn first cap) w:=fun _ _ _ _=>rfl
 have A:=Za hr;obtain⟨ii,hi,D,E,F⟩:=info_parts Y2;go_enter Tryz.func92,Tryz.ntmps92;go_wp2_with fail;obtain⟨G,t⟩:=Vx w (O #[Z z n c] 87);generalize w.alloc _=W0 at*;obtain⟨L,J⟩:∃L,w.heap.size=L:=⟨_,rfl⟩;rw[J]at t;rw[J];have B:=Za J
 go_loopg [3,7] n (fun m o iv wr=>∃i,i<=n/\m=n-i/\iv=I V (i:Nat)/\T (i=0->o=Z Y 0 0)/\T (wr.ownsRow (L+1) 3 1 o i (Zg (y9 i)))/\T (F0 w wr)/\T (wr.heap[L]?=U (O #[Z z n c] 87)))
 case atStart=>exact⟨0,k5 _,rfl,rfl,fun _=>rfl,oZ _ _ _ _,G,t⟩
 obtain⟨i,m0,rfl,rfl,HZ,s,u,l⟩:=hrel;obtain⟨r,j,ho⟩:=oL s.o;subst ho;have n0:L+1<=wr.heap.size:=(iA.1 l.o).1;by_cases o0:i<n
 ·have K:(i:Int)<(n:Int):=by omega
  go_wp2_with (at_builtin;refine wpList_append_lies _ rfl (.tmp 10) (.tmp 12) 25 rfl (L+1) 3 ii _ 1 8 Tryz.underlying25 hi D E F rfl (by decide) (Z r i j) i (Zg (y9 i)) rfl ?h1 ⟨wr.heap.size,0,Y⟩ 1 1 [I V i] rfl rfl ?h2 ?h3 (by decide) ?h4 ?h5 ?h6 _ rfl ?_)
  case h1=>exact s.o.alloc _
  case h2=>exact z6 (aN wr (O #[I V i] 3))
  case h3=>simp[y6]
  case h4=>unfold maxLen;omega
  case h5=>omega
  case h6=>simp;omega
  intro g2 f w8 v b p0 _
  have x:∀k,(k8 r i j).ownBlock=U k->L+1<=k:=fun k d=>(s.o.lt k d).1
  have M:=Za ((u.o.alloc _).grown b (fun k d=>z0 (by have:=x k d;have:=B.o;omega)));have P:=Za ((((Fr.refl (fun k=>(k8 r i j).ownBlock=U k) wr).alloc _).grown b (fun k d=>z5 d)).whole l.o (fun e=>by have:=x L e;omega))
  have Q:T (w8.ownsRow (L+1) 3 1 (Z (U ⟨g2,0,Y⟩) (i+1) f) (i+1) (Zg (y9 (i+1)))):=by rw[Fu,XU];exact v
  go_wp2_with fail;go_roundg (n-(i+1))
  case measure=>omega
  exact⟨i+1,by omega,rfl,by go_num,fun e=>by omega,Q,M,P⟩
 have K:¬(i:Int)<(n:Int):=by omega
 have e:i=n:=by omega
 subst e;rcases j4 i with q|q
 ·subst q
  have ez:=HZ.o rfl;injection ez with R _ S;subst R S;have W:=Za (OI wr 0 L);go_wp2_with fail;refine W.o.mono ?_;rintro e w9 ⟨rfl,hw⟩;replace hw:=hw.symm;subst hw;go_wp2_with fail;go_ret;exact⟨⟨_,_,rfl,fun h=>by omega⟩,u.o⟩
 obtain⟨g2,f,eo,q0,a0⟩:=s.o.form q
 injection eo with b0 _ c0;subst b0 c0;obtain⟨g,hg,_,_⟩:=A.o 0 q;subst hg
 have d0:T (Ft wr L g c i rk):=⟨Zc l.o 0,fun k d=>by
  obtain⟨g',a,C,e3⟩:=A.o k d;injection a with a;injection a with a;subst a
  exact(u.o.cell (p:=⟨g,k*14+1,Y⟩) C).trans e3,by
  obtain⟨g',a,C,_⟩:=A.o 0 q;injection a with a;injection a with a;subst a
  exact nL C u.o.size⟩
 have e0:T (Vb wr g2 i (fun k=>k)):=by
  refine⟨fun k d=>?_,fun o=>?_⟩
  ·have:=s.o.cells (g:=g2) rfl k (I V k) (by simp[Zg,d])
   rwa [Yc,j5]at this
  rcases s.o.2 with⟨e,_⟩|⟨g',k0,r0,a,_,hh,_⟩
  ·cases e
  injection a with a
  injection a with a;injection a with a;subst a;exact bF hh o
 have W:T (z1 H 142 #[Z (U ⟨g2,0,Y⟩) i j,.func (.func 143) #[] #[X (U ⟨L,0,Y⟩)]] wr fun e w'=>e=N (.tuple #[])/\Vb w' g2 i (Zx rk i)/\Fr (fun k=>k=g2) wr w'):=by
  have s0:g<L:=by
   obtain⟨g',a,C,_⟩:=A.o 0 q;injection a with a;injection a with a;subst a;have:=B.o;omega
  exact NM wr L g c i g2 j rk d0.o e0.o (by omega) (by omega) hn q
 go_wp2_with fail;refine W.o.mono ?_;rintro e w9 ⟨rfl,f0,y⟩;have g0:=Za f0;have i0:=Za (u.o.monoNew y (fun k d=>z0 (by have:=B.o;omega)));have j0:=Za (nL a0 y.size);go_wp2_with fail;go_ret;exact⟨⟨_,_,rfl,fun _=>⟨g2,rfl,by have:=B.o;omega,j0.o,g0.o⟩⟩,i0.o⟩
structure Zl where
 sort:Nat
 nums:List Nat
 rule:Nat
 skip:Nat
def Z4 (r:Ze):List Zl:=
 (if r.mcc=[]then[]else[⟨0,r.mcc,0,0⟩])++((match r.am with|none=>[]|some a=>[⟨1,[a.1,a.2],0,0⟩])++(if r.cur=[]then[]else[⟨2,r.cur,0,0⟩]))
def UG (i:Nat)(r:Ze):Zl:=if r.decline then⟨3,[],i,0⟩else if r.cheapest then⟨5,r.routes,i,0⟩else⟨4,r.routes,i,0⟩
def ZN (m:Nat):Nat->List Zl->List Zl
 |_,[]=>[]
 |a,s::r=>{s with skip:=m-a+1}::ZN m (a+1) r
def Sd (r:Ze):List Zl:=ZN (Z4 r).length 0 (Z4 r)
def ZI (R:List Ze)(met:Nat):List Nat->List Zl
 |[]=>[⟨6,[],0,0⟩]
 | i::L=>if met.testBit i then(match R[i]? with
   |none=>ZI R met L
   |some r=>if Z4 r=[]then[UG i r]else Sd r++(UG i r::ZI R met L))else ZI R met L
def uH (b:Nat)(w:z2)(s:Zl)(c:List y4):Prop:=∃a,c=[I z8 s.sort,a,I V s.rule,I V s.skip]/\w.ownsRow b 3 1 a s.nums.length (Zg s.nums)
def Xl (b:Nat)(w:z2):List Zl->List y4->Prop
 |[],xs=>xs=[]
 |s::r,xs=>∃c a,xs=c++a/\uH b w s c/\Xl b w r a
theorem Xl.keep {b:Nat}{w w':z2}(d:∀v n a,w.ownsRow b 3 1 v n a->w'.ownsRow b 3 1 v n a):∀{l:List Zl}{a:List y4},Xl b w l a->Xl b w' l a
 |[],_,h=>h
 |_::_,_,⟨c,rest,e,⟨vn,e1,h1⟩,h2⟩=>⟨c,rest,e,⟨vn,e1,d _ _ _ h1⟩,Xl.keep d h2⟩
theorem Xl.append {a:Nat}{w:z2}:∀{l l':List Zl}{b d:List y4},Xl a w l b->Xl a w l' d->Xl a w (l++l') (b++d)
 |[],_,_,_,h,h'=>by
  have e:=h;subst e;exact h'
 |_::_,_,_,_,⟨c,rest,e,h1,h2⟩,h'=>⟨c,rest++_,by rw[e,y7],h1,Xl.append h2 h'⟩
theorem Xl.one {a w s c}(h:uH a w s c):Xl a w [s] c:=⟨c,[],by simp,h,rfl⟩
def Z2 (b:Nat)(w:z2)(base:Nat)(v:y4)(l:List Zl):Prop:=∃a,w.ownsRow base 208 4 v l.length a/\Xl b w l a
theorem TA:(H.info? 208).map (fun i=>(i.zero,i.size,i.bytes))=U (U (z7 #[I z8 0,Z Y 0 0,I V 0,I V 0]),4,48):=by kernel_rfl
theorem QU {a w w' base v l}(h:Z2 a w base v l)(b:F0 w w'):Z2 a w' base v l:=by
 obtain⟨c,d,e⟩:=h;exact⟨c,oF d b,e.keep (fun v n g f=>oF f b)⟩
theorem Z2.grown {a w b base g cap v l l' d c}(i:w.ownsRow base 208 4 v l.length c)(j:Xl a w l c)(k:Xl a w l' d)(m:w.grownBy b v.ownBlock)(o:b.ownsRow base 208 4 (Z (U ⟨g,0,Y⟩) (l.length+l'.length) cap) (l.length+l'.length) (c++d)):
  Z2 a b base (Z (U ⟨g,0,Y⟩) (l.length+l'.length) cap) (l++l'):=by
 have f:∀v' n e,w.ownsRow a 3 1 v' n e->b.ownsRow a 3 1 v' n e:=fun v' n e h=>h.kept m (WI h i (by decide))
 exact⟨c++d,by rw[lA];exact o,(j.keep f).append (k.keep f)⟩
def Lm (b:ByteArray)(rk dg lo hi:Nat)(c:Option Addr)(d e:Nat)(a:Bool)(f g:Nat)(h:Option Addr)(i j:Nat)(k l:Bool)(m:Option Addr)(n o:Nat)(p:Nat):Obj:=
 O #[z4 b,I V rk,I V dg,I V lo,I V hi,Z c d e,E a,I V f,I V g,Z h i j,E k,E l,Z m n o,I V p] 120
def Fw (a:List Nat):List Zl:=if a=[]then[]else[⟨0,a,0,0⟩]
def BU (a:Bool)(b c:Nat):List Zl:=if a then[⟨1,[b,c],0,0⟩]else[]
def Fx (a:List Nat):List Zl:=if a=[]then[]else[⟨2,a,0,0⟩]
theorem NN (r):Z4 r=Fw r.mcc++(BU r.am.isSome (r.am.getD (0,0)).1 (r.am.getD (0,0)).2++Fx r.cur):=by
 unfold Z4 Fw BU Fx
 cases r.am<;>rfl
theorem Jv {zb}{w:z2}{g a b:Nat}(c:zb<=g)(h:w.heap[g]?=U (O #[I V a,I V b] 3)):w.ownsRow zb 3 1 (Z (U ⟨g,0,Y⟩) 2 2) 2 (Zg [a,b]):=
 ⟨rfl,.inr ⟨g,2,_,rfl,c,h,Q _,by unfold maxLen;omega,rfl,rfl⟩⟩
structure OJ (zb:Nat)(w:z2)(b:Nat)(o:Obj)(v:y4)(l:List Zl)(wx:z2):Prop where
 row:Z2 zb wx (b+1) v l
 fr:F0 w wx
 bx:wx.heap[b]?=U o
 nz:l=[]->v=Z Y 0 0
theorem OJ.grown {f w n i b g cap o v l j c s W}(h:OJ f w b o v l n)(x:w.heap.size<=b)(p:F0 n W)(q:W.ownsRow (b+1) 208 4 v l.length j)(r:Xl f W l j)(t:uH f W s c)(m:W.grownBy i v.ownBlock)(u:i.ownsRow (b+1) 208 4 (Z (U ⟨g,0,Y⟩) (l.length+1) cap) (l.length+1) (j++c)):
  OJ f w b o (Z (U ⟨g,0,Y⟩) (l.length+1) cap) (l++[s]) i:=by
 have a:∀k,v.ownBlock=U k->b+1<=k:=fun k d=>(q.lt k d).1
 refine⟨Z2.grown (l':=[s]) q r (Xl.one t) m u,(h.fr.trans p).grown m (fun k d=>z0 (by have:=a k d;omega)),?_,fun e=>by simp at e⟩;exact((Fr.refl (fun k=>v.ownBlock=U k) W).grown m (fun k d=>z5 d)).whole (p.whole h.bx) (fun e=>by have:=a b e;omega)
theorem Fy {zb}(B rk dg lo hi p q d h i r t C D F G J K c a w)(hz:zb<=w.heap.size)(hm:w.ownsRow zb 3 1 (Z p c.length q) c.length (Zg c))(hc:w.ownsRow zb 3 1 (Z r a.length t) a.length (Zg a))(o0:c.length<=4000)(p0:a.length<=4000):
  z1 H 222 #[GS B rk dg lo hi p c.length q d h i r a.length t C D F G J K] w fun e w'=>(∃v,e=N v/\Z2 zb w' w.heap.size v (Fw c++(BU d h i++Fx a))/\(Fw c++(BU d h i++Fx a)=[]->v=Z Y 0 0))/\F0 w w':=by
 obtain⟨ii,M,P,Q,R⟩:=info_parts TA;have HM:=Za hm;have HC:=Za hc;obtain⟨j,j0⟩:∃j,c.length=j:=⟨_,rfl⟩;obtain⟨k,k0⟩:∃k,a.length=k:=⟨_,rfl⟩;rw[j0]at HM o0 ⊢;rw[k0]at HC p0 ⊢;have S:=Za j0;have W:=Za k0;have HZ:=Za hz;unfold GS;go_enter Tryz.func222,Tryz.ntmps222;have u:T (OJ zb w w.heap.size (Lm B rk dg lo hi p j q d h i r k t C D F G J K) (Z Y 0 0) [] (w.alloc (Lm B rk dg lo hi p j q d h i r k t C D F G J K))):=⟨⟨[],oZ _ _ _ _,rfl⟩,Zt.alloc _,aN w _,fun _=>rfl⟩;unfold Lm at u
 go_upto_if 7 with fail
 generalize w.alloc _=W0 at*;obtain⟨b,hb⟩:∃b,w.heap.size=b:=⟨_,rfl⟩;have HB:=Za hb;rw[hb]at u;rw[hb]
 go_cut [3] (fun v wx=>T (OJ zb w b (O #[z4 B,I V rk,I V dg,I V lo,I V hi,Z p j q,E d,I V h,I V i,Z r k t,E C,E D,Z F G J,I V K] 120) v (Fw c) wx))
 case first=>
  have x5:=Zc u.o.bx 5;have q0:b+1<=W0.heap.size:=(iA.1 u.o.bx).1;by_cases h0:0<j
  ·have X:(0:Int)<(j:Int):=by omega
   go_wp2_with (at_builtin;refine wpList_append_lies _ rfl (.tmp 8) (.tmp 12) 129 rfl (b+1) 208 ii _ 4 48 Tryz.underlying129 M P Q R rfl (by decide) (Z Y 0 0) 0 [] rfl ?h1 ⟨W0.heap.size,0,Y⟩ 1 1 [I z8 0,Z p j q,I V 0,I V 0] rfl rfl ?h2 ?h3 (by decide) ?h4 ?h5 ?h6 _ rfl ?_)
   case h1=>exact oZ _ _ _ _
   case h2=>exact z6 (aN W0 (O #[I z8 0,Z p j q,I V 0,I V 0] 208))
   case h3=>simp[y6]
   case h4=>unfold maxLen;omega
   case h5=>omega
   case h6=>simp;omega
   intro g2 l w8 m f l0 _
   have L:T (OJ zb w b (O #[z4 B,I V rk,I V dg,I V lo,I V hi,Z p j q,E d,I V h,I V i,Z r k t,E C,E D,Z F G J,I V K] 120) (Z (U ⟨g2,0,Y⟩) (0+1) l) (Fw c) w8):=by
    have hf:=(Lp W0 (O #[I z8 0,Z p j q,I V 0,I V 0] 208)).1;have e:=u.o.grown (s:=⟨0,c,0,0⟩) (x2 HB.o) hf (oZ _ _ _ _) rfl ⟨_,rfl,by rw[S.o];exact oF (oF HM.o u.o.fr) hf⟩ f m
    have e2:Fw c=[]++[⟨0,c,0,0⟩]:=by
     unfold Fw;rw[if_neg (by intro e;have:=S.o;rw[e]at this;simp at this;omega)];rfl
    rw[e2];exact e
   go_wp2_with fail;go_meet;exact L
  have X:¬(0:Int)<(j:Int):=by omega
  have g:T (OJ zb w b (O #[z4 B,I V rk,I V dg,I V lo,I V hi,Z p j q,E d,I V h,I V i,Z r k t,E C,E D,Z F G J,I V K] 120) (Z Y 0 0) (Fw c) W0):=by
   have e:Fw c=[]:=by
    unfold Fw;rw[if_pos (x4.1 (by have:=S.o;omega))]
   rw[e];exact u
  go_wp2_with fail;go_meet;exact g
 have g:=hcut;obtain⟨z,a0⟩:∃z,Fw c=z:=⟨_,rfl⟩;have r0:=Za a0
 have B0:z.length<=1:=by rw[<-a0];unfold Fw;split<;>simp
 rw[a0]at g;obtain⟨b0,m0,s0⟩:=g.o.row;obtain⟨va,vc,e3⟩:=oL m0;subst e3;have c0:T (wc.ownsRow (b+1) 208 4 (Z va z.length vc) z.length b0/\Xl zb wc z b0):=⟨m0,s0⟩;have q0:b+1<=wc.heap.size:=(iA.1 g.o.bx).1;have x6:=Zc g.o.bx 6
 go_upto_if 15 with fail
 go_cut [3] (fun v wx=>T (OJ zb w b (O #[z4 B,I V rk,I V dg,I V lo,I V hi,Z p j q,E d,I V h,I V i,Z r k t,E C,E D,Z F G J,I V K] 120) v (z++BU d h i) wx))
 case first=>
  cases d with
  |true=>
   have x7:=Zc g.o.bx 7;have x8:=Zc g.o.bx 8
   go_wp2_with (at_builtin;refine wpList_append_lies _ rfl (.tmp 16) (.tmp 25) 129 rfl (b+1) 208 ii _ 4 48 Tryz.underlying129 M P Q R rfl (by decide) (Z va z.length vc) z.length b0 rfl ?h1 ⟨wc.heap.size+1,0,Y⟩ 1 1 [I z8 1,Z (U ⟨wc.heap.size,0,Y⟩) 2 2,I V 0,I V 0] rfl rfl ?h2 ?h3 (by decide) ?h4 ?h5 ?h6 _ rfl ?_)
   case h1=>exact(c0.o.1.alloc _).alloc _
   case h2=>exact z6 (by have e:=aN (wc.alloc (O #[I V h,I V i] 3)) (O #[I z8 1,Z (U ⟨wc.heap.size,0,Y⟩) 2 2,I V 0,I V 0] 208);simpa using e)
   case h3=>simp[y6]
   case h4=>unfold maxLen;omega
   case h5=>omega
   case h6=>simp;omega
   intro g2 l w8 m f l0 _
   have L:T (OJ zb w b (O #[z4 B,I V rk,I V dg,I V lo,I V hi,Z p j q,E true,I V h,I V i,Z r k t,E C,E D,Z F G J,I V K] 120) (Z (U ⟨g2,0,Y⟩) (z.length+1) l) (z++BU true h i) w8):=by
    have hf:=(Ic wc (O #[I V h,I V i] 3) (O #[I z8 1,Z (U ⟨wc.heap.size,0,Y⟩) 2 2,I V 0,I V 0] 208)).1;exact g.o.grown (s:=⟨1,[h,i],0,0⟩) (x2 HB.o) hf ((c0.o.1.alloc _).alloc _) (c0.o.2.keep (fun v n ys hv=>(hv.alloc _).alloc _)) ⟨_,rfl,Jv (by have:=HZ.o;have:=g.o.fr.size;omega) (((Fr.refl (fun _=>False) _).alloc _).whole (aN wc _))⟩ f m
   go_wp2_with fail;go_meet;exact L
  |false=>
   go_wp2_with fail;go_meet;rw[show z++BU false h i=z from by simp[BU]];exact g
 have x:=hcut;obtain⟨y,d0⟩:∃y,z++BU d h i=y:=⟨_,rfl⟩;have t0:=Za d0
 have C0:y.length<=2:=by rw[<-d0,lA];unfold BU;split<;>simp<;>omega
 rw[d0]at x;obtain⟨e0,n0,v0⟩:=x.o.row;obtain⟨f0,g0,e3⟩:=oL n0;subst e3;have i0:T (wc.ownsRow (b+1) 208 4 (Z f0 y.length g0) y.length e0/\Xl zb wc y e0):=⟨n0,v0⟩;have A0:b+1<=wc.heap.size:=(iA.1 x.o.bx).1;have x9:=Zc x.o.bx 9
 go_upto_if 30 with fail
 go_cut [3] (fun v wx=>T (OJ zb w b (O #[z4 B,I V rk,I V dg,I V lo,I V hi,Z p j q,E d,I V h,I V i,Z r k t,E C,E D,Z F G J,I V K] 120) v (y++Fx a) wx))
 case first=>
  by_cases h0:0<k
  ·have X:(0:Int)<(k:Int):=by omega
   go_wp2_with (at_builtin;refine wpList_append_lies _ rfl (.tmp 31) (.tmp 35) 129 rfl (b+1) 208 ii _ 4 48 Tryz.underlying129 M P Q R rfl (by decide) (Z f0 y.length g0) y.length e0 rfl ?h1 ⟨wc.heap.size,0,Y⟩ 1 1 [I z8 2,Z r k t,I V 0,I V 0] rfl rfl ?h2 ?h3 (by decide) ?h4 ?h5 ?h6 _ rfl ?_)
   case h1=>exact i0.o.1.alloc _
   case h2=>exact z6 (aN wc (O #[I z8 2,Z r k t,I V 0,I V 0] 208))
   case h3=>simp[y6]
   case h4=>unfold maxLen;omega
   case h5=>omega
   case h6=>simp;omega
   intro g2 l w8 m f l0 _
   have L:T (OJ zb w b (O #[z4 B,I V rk,I V dg,I V lo,I V hi,Z p j q,E d,I V h,I V i,Z r k t,E C,E D,Z F G J,I V K] 120) (Z (U ⟨g2,0,Y⟩) (y.length+1) l) (y++Fx a) w8):=by
    have hf:=(Lp wc (O #[I z8 2,Z r k t,I V 0,I V 0] 208)).1;have e:=x.o.grown (s:=⟨2,a,0,0⟩) (x2 HB.o) hf (i0.o.1.alloc _) (i0.o.2.keep (fun v n ys hv=>hv.alloc _)) ⟨_,rfl,by rw[W.o];exact oF (oF HC.o x.o.fr) hf⟩ f m
    have e2:Fx a=[⟨2,a,0,0⟩]:=by
     unfold Fx;rw[if_neg (by intro e;have:=W.o;rw[e]at this;simp at this;omega)]
    rw[e2];exact e
   go_wp2_with fail;go_meet;exact L
  have X:¬(0:Int)<(k:Int):=by omega
  have A:T (OJ zb w b (O #[z4 B,I V rk,I V dg,I V lo,I V hi,Z p j q,E d,I V h,I V i,Z r k t,E C,E D,Z F G J,I V K] 120) (Z f0 y.length g0) (y++Fx a) wc):=by
   have e:Fx a=[]:=by
    unfold Fx;rw[if_pos (x4.1 (by have:=W.o;omega))]
   rw[e,k2];exact x
  go_wp2_with fail;go_meet;exact A
 have A:=hcut;obtain⟨D0,w0,E0⟩:=A.o.row;obtain⟨x0,y0,e3⟩:=oL w0;subst e3;go_wp2_with fail;go_ret
 have z0:w.heap.size<=b+1:=by have:=HB.o;omega
 have e:Fw c++(BU d h i++Fx a)=y++Fx a:=by rw[<-t0.o,<-r0.o,y7]
 refine⟨⟨Z x0 (y++Fx a).length y0,rfl,?_,fun ez=>A.o.nz (by rw[<-e];exact ez)⟩,A.o.fr⟩;rw[e];obtain⟨xs,h1,h2⟩:=A.o.row;exact⟨xs,oS (base:=b+1) h1 z0,h2⟩
theorem wV {w:z2}{b:Nat}{u0 u1 u2 u3 v0 v1 v2 v3:y4}(a:w.cell? ⟨b,0,Y⟩=U u0)(c:w.cell? ⟨b,1,Y⟩=U u1)(d:w.cell? ⟨b,2,Y⟩=U u2)(e:w.cell? ⟨b,3,Y⟩=U u3):
  let W:=(((w.setCell ⟨b,0,Y⟩ v0).setCell ⟨b,1,Y⟩ v1).setCell ⟨b,2,Y⟩ v2).setCell ⟨b,3,Y⟩ v3
  W.cell? ⟨b,0,Y⟩=U v0/\W.cell? ⟨b,1,Y⟩=U v1/\W.cell? ⟨b,2,Y⟩=U v2/\W.cell? ⟨b,3,Y⟩=U v3:=by
 refine⟨?_,?_,?_,?_⟩
 ·rw[cO _ _ _ _ (by simp),cO _ _ _ _ (by simp),cO _ _ _ _ (by simp)];exact cS _ _ _ a
 ·rw[C _ _ _ _ (by simp),C _ _ _ _ (by simp)];exact x3 _ _ _ (by rw[C _ _ _ _ (by simp)];exact c)
 ·rw[C _ _ _ _ (by simp)];exact x3 _ _ _ (by rw[C _ _ _ _ (by simp),C _ _ _ _ (by simp)];exact d)
 exact cS _ _ _ (by rw[cO _ _ _ _ (by simp),cO _ _ _ _ (by simp),cO _ _ _ _ (by simp)];exact e)
theorem IN (w G u)(rk dg lo hi:Nat)(x y z h)(A B:Nat)(C D F m q j k l)(J:Nat)(g n c i:Nat)(h0:w.cell? ⟨G,0,Y⟩=U (Z (U ⟨g,0,Y⟩) n c))(a0:i<n)(hr:∀o v,[j6 u,I V rk,I V dg,I V lo,I V hi,Z x y z,E h,I V A,I V B,Z C D F,E m,E q,Z j k l,I V J][o]?=U v->w.cell? ⟨g,i*14+o,Y⟩=U v):
  z1 H 223 #[X (U ⟨G,0,Y⟩),I V i] w fun e w'=>e=N (if m then z7 #[I z8 3,Z Y 0 0,I V i,I V 0]else if q then z7 #[I z8 5,Z j k l,I V i,I V 0]else z7 #[I z8 4,Z j k l,I V i,I V 0])/\F0 w w':=by
 have b0:(i:Int)<(n:Int):=by omega
 have HR:=Za hr;go_enter Tryz.func223,Tryz.ntmps223;go_upto_region 1 with fail;obtain⟨r,HX⟩:=Vx w (O #[I z8 0,Z Y 0 0,I V 0,I V 0] 208);generalize w.alloc _=K at*
 have f:∀o v,[j6 u,I V rk,I V dg,I V lo,I V hi,Z x y z,E h,I V A,I V B,Z C D F,E m,E q,Z j k l,I V J][o]?=U v->K.cell? ⟨g,i*14+o,Y⟩=U v:=fun o v ho=>by
  have e:=HR.o o v ho;exact(r.o.cell (p:=⟨g,i*14+o,Y⟩) (bL w _ e)).trans e
 have g0:=(r.o.cell (p:=⟨G,0,Y⟩) (bL w _ h0)).trans h0;have v0:=f 0 _ rfl;have v1:=f 1 _ rfl;have v2:=f 2 _ rfl;have v3:=f 3 _ rfl;have v4:=f 4 _ rfl;have v5:=f 5 _ rfl;have v6:=f 6 _ rfl;have v7:=f 7 _ rfl;have v8:=f 8 _ rfl;have v9:=f 9 _ rfl;have c0:=f 10 _ rfl;have d0:=f 11 _ rfl;have e0:=f 12 _ rfl;have f0:=f 13 _ rfl;rw[Nat.add_zero]at v0;obtain⟨b,hb⟩:∃b,w.heap.size=b:=⟨_,rfl⟩;have HB:=Za hb;rw[hb]at HX;rw[hb];go_upto_region 2 with fail;have s:=Za (r.o.alloc (O #[z4 u,I V rk,I V dg,I V lo,I V hi,Z x y z,E h,I V A,I V B,Z C D F,E m,E q,Z j k l,I V J] 120));have d:T ((K.alloc (O #[z4 u,I V rk,I V dg,I V lo,I V hi,Z x y z,E h,I V A,I V B,Z C D F,E m,E q,Z j k l,I V J] 120)).heap[b]?=U (O #[I z8 0,Z Y 0 0,I V 0,I V 0] 208)):=((Fr.refl (fun _=>False) _).alloc _).whole HX.o;have t:=aN K (O #[z4 u,I V rk,I V dg,I V lo,I V hi,Z x y z,E h,I V A,I V B,Z C D F,E m,E q,Z j k l,I V J] 120);have i0:=Zc t 10;have j0:=Zc t 11;have k0:=Zc t 12;have a:w.heap.size<=b:=x2 HB.o;generalize K.alloc _=W2 at*;generalize K.heap.size=X2 at*
 cases m with
 |true=>
  have L:=Zc d.o 0;have M:=Zc d.o 1;have P:=Zc d.o 2;have Q:=Zc d.o 3;have yf:=bF d.o;go_wp2_with fail;obtain⟨R,S,W,s3⟩:=wV (v0:=I z8 3) (v1:=Z Y 0 0) (v2:=I V i) (v3:=I V 0) L M P Q;refine bodyPost_ret (v:=z7 #[I z8 3,Z Y 0 0,I V i,I V 0]) (by simp[results,Tryz.results223,go_sem,R,S,W,s3]) rfl ⟨rfl,?_⟩;exact(((s.o.setCell (p:=⟨b,0,Y⟩) (z0 a) _).setCell (p:=⟨b,1,Y⟩) (z0 a) _).setCell (p:=⟨b,2,Y⟩) (z0 a) _).setCell (p:=⟨b,3,Y⟩) (z0 a) _
 |false=>
  cases q with
  |true=>
   have L:=Zc d.o 0;have M:=Zc d.o 1;have P:=Zc d.o 2;have Q:=Zc d.o 3;have yf:=bF d.o;go_wp2_with fail;obtain⟨R,S,W,s3⟩:=wV (v0:=I z8 5) (v1:=Z j k l) (v2:=I V i) (v3:=I V 0) L M P Q;refine bodyPost_ret (v:=z7 #[I z8 5,Z j k l,I V i,I V 0]) (by simp[results,Tryz.results223,go_sem,R,S,W,s3]) rfl ⟨rfl,?_⟩;exact(((s.o.setCell (p:=⟨b,0,Y⟩) (z0 a) _).setCell (p:=⟨b,1,Y⟩) (z0 a) _).setCell (p:=⟨b,2,Y⟩) (z0 a) _).setCell (p:=⟨b,3,Y⟩) (z0 a) _
  |false=>
   have L:=Zc d.o 0;have M:=Zc d.o 1;have P:=Zc d.o 2;have Q:=Zc d.o 3;have yf:=bF d.o;go_wp2_with fail;obtain⟨R,S,W,s3⟩:=wV (v0:=I z8 4) (v1:=Z j k l) (v2:=I V i) (v3:=I V 0) L M P Q;refine bodyPost_ret (v:=z7 #[I z8 4,Z j k l,I V i,I V 0]) (by simp[results,Tryz.results223,go_sem,R,S,W,s3]) rfl ⟨rfl,?_⟩;exact(((s.o.setCell (p:=⟨b,0,Y⟩) (z0 a) _).setCell (p:=⟨b,1,Y⟩) (z0 a) _).setCell (p:=⟨b,2,Y⟩) (z0 a) _).setCell (p:=⟨b,3,Y⟩) (z0 a) _
