import Derived.Test.YtccikgogjfbpeaaGreatDoorAg
import Derived.Defers
import Derived.Recover
import Derived.Laws.Bits64b
import Derived.RangeFuncNested
import Derived.RangeFuncBound
import Derived.RangeFuncCalls
import Derived.RangeFuncLeaves
import Derived.Shelf.Abstract
import Derived.Shelf.RegionOpen
import Derived.OwnWalkIn
import Derived.TacticsInMore
import Derived.LoopNIn
import Derived.LoopIn
open Option renaming none->I,some->S
open Go.Value renaming int->V,pointer->Z,slice->F,bool->y5,agg->x7,string->q9,ownBlock->j4
open Go.IntKind renaming i64->Y,u64->x9
open Go.RowKit renaming Hid->U
open Or renaming inr->K,inl->H
open Go.Proofs.Tryz renaming prog->O
open Go.Ending renaming returned->E
open Nat renaming le_refl->G,le_trans->A,zero_le->z3,pow_succ->z7,pow_pos->z8,lt_or_ge->y6,shiftLeft_eq->y9,mul_div_cancel_left->x0,div_le_self->x6,pow_one->x8,pow_lt_pow_right->q5,sub_self->q7,add_comm->q8,one_mul->j1,zero_add->j6,mul_comm->j7
open Go.Obj renaming cells->L
open _root_.ByteArray renaming empty->C
open List renaming getElem?_cons_succ->z4,getElem?_append_left->z6,mem_cons_of_mem->y3,mem_cons_self->y4,length_cons->y7,range'_succ->y8,mem_append->x4,range_eq_range'->q4,range'->j0,length_map->j2,mem_cons->j5,range->j8
open Go renaming World->z5,Calls->z9,Value->q3
open Int renaming emod_nonneg->x5,toNat_of_nonneg->q6,natCast_add->j3
namespace Go.Proofs.YtccikgogjfbpeaaGreatDoor
set_option maxRecDepth 30000
set_option maxHeartbeats 8000000
open Go.RowKit
theorem xd {y c n}(d:(y::c).length=n)(h:n<=1):Z1 c=[]:=by
 cases c with
 |nil=>rfl
 |cons a b=>simp at d;omega
theorem AQ {y t}(h:UY y t=true):¬t.sort=3:=fun e=>by cases y<;>simp[UY,Zn,e]at h
theorem Dc {wr a T b c}(e:wr.alloc (L #[q9 T,V .u8 b,V Y c] 166)=a):a.cell? ⟨wr.heap.size,0,I⟩=S (q9 T)/\a.cell? ⟨wr.heap.size,1,I⟩=S (V .u8 b)/\a.cell? ⟨wr.heap.size,2,I⟩=S (V Y c)/\F0 wr a/\a.heap.size=wr.heap.size+1:=by
 subst e;have h:=aN wr (L #[q9 T,V .u8 b,V Y c] 166);exact⟨Zc h 0,Zc h 1,Zc h 2,Zt.alloc _,by simp⟩
theorem AR (w base v body en)(B0:en.sort=3/\en.text=C)(h:w.ownsRow base 166 3 v body.length (Vw body))(hb:∀t,t∈body->In t)(Z0:body.length<=3000)(N r)(l0:YJ (body++[en]) N [.rules] 0=S r):
  z9 O 79 #[v] w fun e w'=>e=.returned (.int .i64 (Vr (body++[en]) r))/\F0 w w':=by
 obtain⟨ii,hi,n0,o0,p0⟩:=info_parts OM;obtain⟨av,cv,rfl,C0⟩:=QV h;have D0:=Za C0;have HB:=Za hb;have HE:=Za B0;have E0:=Za l0;clear h C0 hb B0 l0;go_enter Tryz.func79,Tryz.ntmps79;go_wp2_with fail
 go_loopg [3,4] N (fun m o i wr=>∃st k,i=.int .i64 (k:Nat)/\k<=body.length/\U (vi st)/\U (YJ (body++[en]) m st k=S r)/\U (Wt wr w.heap.size o st)/\U (F0 w wr))
 case atStart=>
  have E:=aN w (.cells #[.string ⟨#[114,117,108,101,115]⟩] 9);refine⟨[.rules],0,rfl,z3 _,⟨by simp[vh],fun m e=>by(cases e),trivial⟩,E0.o,⟨_,_,rfl,by simp,fun _=>⟨w.heap.size,0,rfl,G _,by simp,fun j u D=>?_⟩⟩,Zt.alloc _⟩;rw[j6];exact bC E j _ (by simpa[Z1,UA]using D)
 obtain⟨st,k,rfl,hk,q,HR,HW,HF⟩:=hrel;have g1:=HF.o.size
 cases st with
 |nil=>
  obtain⟨a,c,rfl,hc,d⟩:=HW.o
  have e0:(if(Zo (body++[en]) k).sort=3 then I else S k)=r:=by
   have e:=HR.o;rw[Tl]at e;injection e
  clear d HW;simp only[List.length_nil]at hc ⊢;by_cases F:k<body.length
  ·obtain⟨gv,rfl,P0,q0,s⟩:=D0.o (by omega)
   obtain⟨t,ht⟩:∃t,body[k]?=S t:=⟨_,gE F⟩;obtain⟨r0,r1,r2⟩:=(s.fr HF.o q0) k t ht
   have US:Zo (body++[en]) k=t:=by
    unfold Zo;rw[gD,z6 F,ht];rfl
   have s0:=(HB.o t (mG ht)).2.2.1;rw[US,if_neg s0]at e0
   have HA:U (Vr (body++[en]) r=t.line):=by show _=_;rw[<-e0];simp only[Vr];rw[US,if_neg s0]
   have t0:(k:Int)<(body.length:Int):=by omega
   clear s ht US s0 e0;go_wp2;go_ret;exact⟨ZP HA.o.symm,HF.o⟩
  have US:Zo (body++[en]) k=en:=by
   unfold Zo;rw[gD,aR (by omega),show k-body.length=0 from by omega];rfl
  rw[US,if_pos HE.o.1]at e0
  have HA:U (Vr (body++[en]) r=0):=by show _=_;rw[<-e0];rfl
  have t0:¬(k:Int)<(body.length:Int):=by omega
  clear US e0;go_wp2;go_ret;exact⟨ZP HA.o.symm,HF.o⟩
 |cons y rest=>
  obtain⟨m,rfl⟩:∃m,gk=m+1:=by
   cases gk with
   |zero=>exact absurd HR.o (by simp[YJ])
   |succ m=>exact⟨m,rfl⟩
  obtain⟨a,c,rfl,hc,d⟩:=HW.o;obtain⟨g,o,rfl,Q0,hg,v0⟩:=d (by simp);have c0:wr.cell? ⟨g,o,I⟩=S (.string (UA y)):=v0 0 _ rfl;have R0:=Za v0;clear d v0 HW;obtain⟨n,E⟩:∃n,(y::rest).length=n:=⟨_,rfl⟩;rw[E]at hc ⊢
  have i1:(0:Int)<(n:Int):=by simp at E;omega
  obtain⟨t,ht⟩:∃t,Zo (body++[en]) k=t:=⟨_,rfl⟩;have L:=Za ht;rcases y6 k body.length with F|F
  case' inl=>
   obtain⟨gv,rfl,P0,q0,s⟩:=D0.o (by omega)
   have hG:body[k]?=S t:=by
    rw[<-ht];unfold Zo;rw[gD,z6 F,gE F];rfl
   obtain⟨r0,r1,r2⟩:=(s.fr (HF.o.alloc (.cells #[.string ⟨#[]⟩,.int .u8 101,.int .i64 0] 166)) q0) k t hG
   have t0:(k:Int)<(body.length:Int):=by omega
   have M:=HB.o t (mG hG);have HL:=Za M.1;have G0:(([78,65,77,69]:List UInt8)==t.text.toList)=false:=O7 M.2.2.2.2.1;have H0:(([73,78,84]:List UInt8)==t.text.toList)=false:=O7 M.2.2.2.2.2;have f0:=uh t;have f1:=wm t
   have f3:(UE t==101)=decide (t.sort=3):=by rw[ui t];simp[M.2.2.1]
   have P:U ((UE t==101)=decide (t.sort=3)/\(UE t !=101)=!decide (t.sort=3)):=⟨f3,by rw[bne,f3]⟩;clear f3;obtain⟨LN,H⟩:∃LN:Int,LN=t.line:=⟨_,rfl⟩;rw[<-H]at r2
   have I0:U (t.sort≠3->LN=t.line):=fun _=>H
   have w0:U (UY y t=true->k+1<=body.length):=fun _=>F
   clear M H hG s ht;go_wp2_with fail;clear r0 r1 r2;generalize J0:t.text=T at*;generalize UE t=KD at*;have a0:=Za J0.symm;clear J0;generalize e7:wr.alloc _=w7 at*;obtain⟨b0,b1,b2,F7,K0⟩:=Dc e7
  case' inr=>
   have t0:¬(k:Int)<(body.length:Int):=by omega
   have e:t=en:=by
    rw[<-ht];unfold Zo;rw[gD,aR (by omega),show k-body.length=0 from by omega];rfl
   have h1:=HE.o;rw[<-e]at h1
   have HL:U (VC t):=by
    have e:t=⟨3,C,t.line⟩:=by
     cases t
     simp at h1;obtain⟨rfl,rfl⟩:=h1;rfl
    show VC t
    rw[e];exact Fg _
   obtain⟨T,hT⟩:∃T:ByteArray,T=⟨#[]⟩:=⟨_,rfl⟩;obtain⟨KD,hK⟩:∃KD:Int,KD=101:=⟨_,rfl⟩;obtain⟨LN,H⟩:∃LN:Int,LN=0:=⟨_,rfl⟩
   have G0:(([78,65,77,69]:List UInt8)==T.toList)=false:=by rw[hT];exact O7 (by decide)
   have H0:(([73,78,84]:List UInt8)==T.toList)=false:=by rw[hT];exact O7 (by decide)
   have a0:U (T=t.text):=hT.trans h1.2.symm
   have f0:(KD==110)=decide (t.sort=0):=by simp[hK,h1.1]
   have f1:(KD==105)=decide (t.sort=1):=by simp[hK,h1.1]
   have P:U ((KD==101)=decide (t.sort=3)/\(KD !=101)=!decide (t.sort=3)):=⟨by simp[hK,h1.1],by simp[hK,h1.1]⟩
   have I0:U (t.sort≠3->LN=t.line):=fun h=>absurd h1.1 h
   have w0:U (UY y t=true->k+1<=body.length):=fun h=>by cases y<;>simp[UY,Zn,h1.1]at h
   have HQ:=Za (And.intro hT (And.intro hK H));clear ht e h1 hT hK H;go_wp2_with fail;generalize e7:wr.alloc _=w7 at*;obtain⟨b0,b1,b2,F7,K0⟩:=Dc e7;rw[<-HQ.o.1]at b0;rw[<-HQ.o.2.1]at b1;rw[<-HQ.o.2.2]at b2;clear HQ
  all_goals
   have H7:=Za (HF.o.trans F7);have c7:=F7.cell (p:=⟨g,o,I⟩) hg (by simp)|>.trans c0;have L0:=Za (fun j u D=>F7.cell (p:=⟨g,o+j,I⟩) hg (by simp)|>.trans (R0.o j u D))
   have g0:g<w7.heap.size:=by omega
   have x0:wr.heap.size<w7.heap.size:=by omega
   clear c0 F7 e7 K0
   cases h0:Yw y t with
   |some l=>
    have f:=Za h0;clear h0
    go_cut [6,7]from 11 to 74 (fun s6 s7 wx=>∃g2 c2,s6=.slice (S ⟨g2,0,I⟩) l.length c2/\s7=.bool true/\U (∀j u,(Z1 l)[j]?=S u->wx.cell? ⟨g2,j,I⟩=S u)/\U (F0 w7 wx)/\U (g2<wx.heap.size))
    case first=>
     go_region_with (go_at_call 130;refine(QW y t T KD LN _ q.o.2.1 HL.o a0.o).mono ?_;intro e w8 Q;obtain⟨⟨g2,c2,rfl,j1,S0,m0⟩,R⟩:=(TR.some f.o).1 Q;have b:U (F0 w7 w8):=(Zt.drew).trans R;have V:U (∀j u,(Z1 l)[j]?=S u->w8.cell? ⟨g2,j,I⟩=S u):=m0;clear R m0 Q)
     all_goals(go_wp2_with fail;go_meet;exact⟨g2,c2,rfl,rfl,V,b,S0⟩)
    obtain⟨g2,c2,rfl,rfl,V,b,k1⟩:=hcut;have J:=Za (H7.o.trans b.o)
    have i0:U (∀j u,(Z1 (y::rest))[j]?=S u->wc.cell? ⟨g,o+j,I⟩=S u):=fun j u D=>(b.o.cell (p:=⟨g,o+j,I⟩) g0).trans (L0.o j u D)
    have y0:g<wc.heap.size:=nL g0 b.o.size;have a1:=J.o.size
    have c1:l.length+rest.length<=15:=by have:=yU (Jz q.o f.o);simpa using this
    go_wp2_with (at_builtin;refine wpList_append_own_at _ rfl (.tmp 32) (.tmp 33) 28 rfl w.heap.size 9 ii _ 1 16 Tryz.underlying28 hi n0 o0 p0 rfl (by decide) (.slice I 0 0) 0 [] rfl (oZ _ _ _ _) ⟨g2,0,I⟩ l.length c2 (Z1 l) rfl ?hl ?hnews ?h1 ?h63 ?hb ?hbase ?go)
    case hl=>simp[Z1]
    case hnews=>intro j u D;rw[TS,j6];exact V.o j u D
    case h1=>intro u hu;simp[Z1]at hu;obtain⟨_,_,rfl⟩:=hu;rfl
    case h63=>unfold maxLen;omega
    case hb=>omega
    case hbase=>omega
    intro v1 w9 M0 z0 _ T0;have j0:=Za M0;have A0:=Za (J.o.grown z0 (fun k hk=>by simp[j4]at hk))
    have V0:U (∀j u,(Z1 (y::rest))[j]?=S u->w9.cell? ⟨g,o+j,I⟩=S u):=fun j u D=>(z0.cell_far ⟨g,o+j,I⟩ y0 (by simp[j4])).trans (i0.o j u D)
    have e1:=A0.o.size;clear M0 z0 T0;by_cases W0:c=1
    ·go_wp2_with (at_builtin;refine wpList_append_own_at _ rfl (.tmp 35) (.tmp 37) 28 rfl w.heap.size 9 ii _ 1 16 Tryz.underlying28 hi n0 o0 p0 rfl (by decide) v1 l.length (Z1 l) rfl j0.o ⟨g,o,I⟩ (n-1) 0 (Z1 rest) rfl ?hlx ?hnewsx ?h1x ?h63x ?hbx ?hbasex ?gox)
     case hlx=>simp[Z1];simp at E;omega
     case hnewsx=>intro j u D;rw[xd E (by omega)]at D;simp at D
     case h1x=>intro u hu;simp[Z1]at hu;obtain⟨_,_,rfl⟩:=hu;rfl
     case h63x=>unfold maxLen;simp at E;omega
     case hbx=>simp at E;omega
     case hbasex=>omega
     intro v2 X0 A B _ W;have Y:=Za A;have Z:=Za (A0.o.grown B (fun k hk=>K (j0.o.lt k hk).1));clear A B W;go_wp2;go_roundg m
     case measure=>omega
     refine⟨l++rest,k,rfl,hk,Jz q.o f.o,?_,?_,Z⟩
     ·have e:=HR.o
      simp only[YJ]at e;rw[L.o,f.o]at e;exact e
     refine Wt.of_row ?_
     have e:l.length+(n-1)=(l++rest).length:=by simp at E ⊢;omega
     have e2:Z1 l++Z1 rest=Z1 (l++rest):=by simp[Z1]
     rw[<-e,<-e2];exact Y.o
    go_wp2_with (at_builtin;refine wpList_append_own_at _ rfl (.tmp 35) (.tmp 37) 28 rfl w.heap.size 9 ii _ 1 16 Tryz.underlying28 hi n0 o0 p0 rfl (by decide) v1 l.length (Z1 l) rfl j0.o ⟨g,o+1,I⟩ (n-1) (c-1) (Z1 rest) rfl ?hlz ?hnewsz ?h1z ?h63z ?hbz ?hbasez ?goz)
    case hlz=>simp[Z1];simp at E;omega
    case hnewsz=>intro j u D;rw[TS,show o+1+j=o+(j+1)from by omega];exact V0.o (j+1) u (by simpa[Z1]using D)
    case h1z=>intro u hu;simp[Z1]at hu;obtain⟨_,_,rfl⟩:=hu;rfl
    case h63z=>unfold maxLen;simp at E;omega
    case hbz=>simp at E;omega
    case hbasez=>omega
    intro v2 X0 A B _ W;have Y:=Za A;have Z:=Za (A0.o.grown B (fun k hk=>K (j0.o.lt k hk).1));clear A B W;go_wp2;go_roundg m
    case measure=>omega
    refine⟨l++rest,k,rfl,hk,Jz q.o f.o,?_,?_,Z⟩
    ·have e:=HR.o
     simp only[YJ]at e;rw[L.o,f.o]at e;exact e
    refine Wt.of_row ?_
    have e:l.length+(n-1)=(l++rest).length:=by simp at E ⊢;omega
    have e2:Z1 l++Z1 rest=Z1 (l++rest):=by simp[Z1]
    rw[<-e,<-e2];exact Y.o
   |none=>
    have f:=Za h0;clear h0
    go_cut [6,7]from 11 to 74 (fun s6 s7 wx=>s6=.slice I 0 0/\s7=.bool false/\U (F0 w7 wx))
    case first=>
     go_region_with (go_at_call 130;refine(QW y t T KD LN _ q.o.2.1 HL.o a0.o).mono ?_;intro e w8 Q;obtain⟨rfl,R⟩:=(TR.none f.o).1 Q;have b:U (F0 w7 w8):=(Zt.drew).trans R;clear R Q)
     all_goals(go_wp2_with fail;go_meet;exact⟨rfl,rfl,b⟩)
    obtain⟨rfl,rfl,b⟩:=hcut;have J:=Za (H7.o.trans b.o)
    have i0:U (∀j u,(Z1 (y::rest))[j]?=S u->wc.cell? ⟨g,o+j,I⟩=S u):=fun j u D=>(b.o.cell (p:=⟨g,o+j,I⟩) g0).trans (L0.o j u D)
    have cc:wc.cell? ⟨g,o,I⟩=S (.string (UA y)):=i0.o 0 _ rfl;have d0:=(b.o.cell (p:=⟨wr.heap.size,0,I⟩) x0).trans b0;have d1:=(b.o.cell (p:=⟨wr.heap.size,1,I⟩) x0).trans b1;have d2:=(b.o.cell (p:=⟨wr.heap.size,2,I⟩) x0).trans b2;have y0:g<wc.heap.size:=nL g0 b.o.size;clear b0 b1 b2 c7
    have N0:U (UY y t=false->r=S k):=fun hf=>by
     have e:=HR.o;simp only[YJ]at e;rw[L.o,f.o,hf]at e;simp at e;exact e.symm
    have k0:U (UY y t=true->YJ (body++[en]) m rest (k+1)=S r):=fun hf=>by
     have e:=HR.o;simp only[YJ]at e;rw[L.o,f.o,hf]at e;exact e
    have HA:U (UY y t=false->Vr (body++[en]) r=if t.sort=3 then-1 else LN):=fun hf=>by
     rw[N0.o hf];simp only[Vr];rw[L.o];by_cases h3:t.sort=3
     ·rw[if_pos h3,if_pos h3]
     rw[if_neg h3,if_neg h3,I0.o h3]
    obtain⟨z,hz⟩:∃z,UY y t=z:=⟨_,rfl⟩;have HZ:=Za hz;rw[hz]at k0 HA
    cases y
    case' NAME=>
     have x1:((UA .NAME).toList==[78,65,77,69])=true:=wk (by decide);have x2:((UA .NAME).toList==[73,78,84])=false:=E8 (by decide)
     have x3:((UA .NAME).toList==T.toList)=false:=by rw[ByteArray.toList_eq];exact G0
     rw[show decide (t.sort=0)=z from hz]at f0;generalize UA .NAME=X at*
    case' INT=>
     have x1:((UA .INT).toList==[78,65,77,69])=false:=E8 (by decide);have x2:((UA .INT).toList==[73,78,84])=true:=wk (by decide)
     have x3:((UA .INT).toList==T.toList)=false:=by rw[ByteArray.toList_eq];exact H0
     rw[show decide (t.sort=1)=z from hz]at f1;generalize UA .INT=X at*
    case' lit x=>
     have hx:=q.o.2.1 x rfl;have x1:(x.toList==[78,65,77,69])=false:=E8 (NX x hx).1;have x2:(x.toList==[73,78,84])=false:=E8 (NX x hx).2;have x3:=AL HL.o hx a0.o;rw[show Zn t x=z from hz]at x3;simp only[UA]at cc;clear hx
    all_goals first|(exfalso;have h:=f.o;simp[Yw]at h;done)|skip
    all_goals
     clear hz
     cases z
     case' true=>
      have HG:=Za (k0.o rfl);have f3:=P.o.1;have f4:=P.o.2;rw[decide_eq_false (AQ HZ.o)]at f3 f4;clear HA k0;by_cases W0:c=1
      ·go_wp2_with fail
       go_big_quiet ((fail))
       go_wp2;go_roundg m
       case measure=>omega
       exact⟨rest,k+1,by go_num,w0.o HZ.o,q.o.2.2,HG,Wt.pop1 E (by omega),J.o.trans ⟨rfl,rfl,rfl,G _,fun _ _ _=>rfl⟩⟩
      go_wp2_with fail
      go_big_quiet ((fail))
      go_wp2;go_roundg m
      case measure=>omega
      exact⟨rest,k+1,by go_num,w0.o HZ.o,q.o.2.2,HG,(Wt.pop E hc Q0 y0 i0.o).fr ⟨rfl,rfl,rfl,G _,fun _ _ _=>rfl⟩,J.o.trans ⟨rfl,rfl,rfl,G _,fun _ _ _=>rfl⟩⟩
     case' false=>
      have O0:=Za (HA.o rfl);clear HA;clear k0
      cases h3:decide (t.sort=3)
      all_goals
       have f3:=P.o.1;have f4:=P.o.2;rw[h3]at f3 f4;have Y0:U (Vr (body++[en]) r=_):=O0.o.trans (by first|exact if_pos (of_decide_eq_true h3)|exact if_neg (of_decide_eq_false h3));clear h3 O0;go_wp2_with fail
       go_big_quiet ((fail))
       go_wp2;go_ret;exact⟨ZP Y0.o.symm,J.o.trans ⟨rfl,rfl,rfl,G _,fun _ _ _=>rfl⟩⟩
theorem PO {s k a k' t}(b:Zs s k a=.tok t k'):t.line=a:=by
 unfold Zs at b
 repeat' split at b
 all_goals first
  |contradiction
  |(injection b with c d;subst c;rfl)
theorem QX {s}:∀n k a b,s.size-k=n->1<=a->(∀t,t∈b->1<=t.line)->
  (∀l,ZL s k a b=.error l->1<=l)/\(∀ts,ZL s k a b=.ok ts->∀t,t∈ts->1<=t.line):=by
 intro n
 induction n using Nat.strongRecOn with
 |ind n i=>
  intro k a b j g d;by_cases e:k<s.size
  ·cases f:Zs s k a with
   |skip k' l'=>
    rw[YI e f];have:=X5 e f;exact i (s.size-k') (by omega) k' l' b rfl (by omega) d
   |tok t k'=>
    rw[WH e f];have:=WG e f;refine i (s.size-k') (by omega) k' a (b++[t]) rfl g (fun u c=>?_);rcases x4.1 c with c|c
    ·exact d u c
    simp at c
    subst c;rw[PO f];exact g
   |bad=>
    rw[Xq e f];exact⟨fun l h=>(by injection h with h;omega),fun ts h=>(by cases h)⟩
  rw[WI e]
  refine⟨fun l h=>(by cases h),fun ts h=>?_⟩;injection h with h;subst h;intro u c;rcases x4.1 c with c|c
  ·exact d u c
  simp at c
  subst c;exact g
theorem CC {s t}(h:UY s t=true):t.sort≠3:=by
 cases s<;>simp[UY,Zn]at h<;>first|omega|(rw[h];decide)|(rw[h.1];decide)
theorem Qj {body:List Tk}{en:Tk}(a:en.sort=3):∀(m:Nat)(b:List Ik)(i j:Nat),i<=body.length->YJ (body++[en]) m b i=S (S j)->j<=body.length
 |m,[],i,j,hi,h=>by
  rw[Tl]at h;injection h with h
  split at h
  ·cases h
  injection h with h;omega
 |0,s::rest,i,j,hi,h=>by simp[YJ]at h
 |m+1,s::rest,i,j,hi,h=>by
  rw[YJ]at h
  split at h
  ·exact Qj a m _ i j hi h
  split at h
  ·rename_i c
   have d:=O6 a (CC c);have:=(iG.1 d).1;exact Qj a m _ (i+1) j (by omega) h
  injection h with h
  injection h with h;omega
theorem AS {body en}(b:∀t,t∈body->t.sort≠3){j}(c:j<=body.length)(h:(Zo (body++[en]) j).sort=3):Zo (body++[en]) j=en:=by
 rcases y6 j body.length with a|a
 ·exact absurd h (Wq (en:=en) b (gE a))
 have e:j=body.length:=by omega
 subst e;unfold Zo;rw[gD,aR (G _),q7];rfl
theorem xe {body en j}(a:j<=body.length):Zo (body++[en]) j∈body++[en]:=by
 unfold Zo;rw[gD,gE (by simp;omega)];exact List.getElem_mem _
theorem xg {body en}(d:en.sort=3)(f:∀t,t∈body->t.sort≠3)(g:∀t,t∈body++[en]->1<=t.line):
  (∀i k,Zr (body++[en]) 0 []=.ok (i,k)->∃N,YJ (body++[en]) N [.rules] 0=S I)/\
  (∀l,Zr (body++[en]) 0 []=.error l->∃N j,YJ (body++[en]) N [.rules] 0=S (S j)/\((Vr (body++[en]) (S j)= -1/\l=en.line)\/(Vr (body++[en]) (S j)=(l:Int)/\1<=l))):=by
 obtain⟨m,n⟩:=Lw (ts:=body++[en]) _ 0 [] rfl;refine⟨m,fun l h=>?_⟩;obtain⟨j,⟨N,b⟩,e⟩:=n l h;have c:=Qj d N _ 0 j (z3 _) b;refine⟨N,j,b,?_⟩;by_cases a:(Zo (body++[en]) j).sort=3
 ·left
  refine⟨by simp[Vr,a],?_⟩;rw[AS f c a]at e;exact e.symm
 right
 refine⟨by simp[Vr,a,e],?_⟩;rw[<-e];exact g _ (xe c)
structure X9 (w:z5)(B q:Nat)(body:List Tk)(rts:List Zf)(rls:List Ze):Prop where
 tk:∃a c,w.cell? ⟨q,0,I⟩=S (F a body.length c)/\(0<body.length->∃g,a=S ⟨g,0,I⟩/\B<=g/\g<w.heap.size/\wl w g body)
 qb:B<=q/\q<w.heap.size
 few:body.length<=3000/\∀t,t∈body->t.text.size<=3000
 sA:VI rts rls=VT body body.length
 row:∃B2 vr vl xs,B<=B2/\w.cell? ⟨q,1,I⟩=S vr/\w.cell? ⟨q,2,I⟩=S vl/\w.ownsRow B2 189 3 vr rts.length (Yi rts)/\w.ownsRow B2 170 13 vl rls.length xs/\TD B2 w (rls.map Ze.ref) xs
theorem X9.fr {w w' B q body rts d}(h:X9 w B q body rts d)(b:F0 w w'):X9 w' B q body rts d:=by
 obtain⟨⟨a,c,j,k⟩,f,l,m,o,r,s,t,u,x,y,z,A,C⟩:=h;refine⟨⟨a,c,(b.cell (p:=⟨q,0,I⟩) f.2).trans j,fun D=>?_⟩,⟨f.1,nL f.2 b.size⟩,l,m,o,r,s,t,u,(b.cell (p:=⟨q,1,I⟩) f.2).trans x,(b.cell (p:=⟨q,2,I⟩) f.2).trans y,oF z b,oF A b,TD.keep (fun v n H E=>oF E b) C⟩;obtain⟨g,e,F,i,G⟩:=k D;exact⟨g,e,F,nL i b.size,G.fr b i⟩
def VW (x:Except (Nat×Nat) (List Zf×List Ze))(w:z5)(e:Ending)(w':z5):Prop:=
 match x with
 | .ok p=>(∃q body,e=E (.tuple #[Z (S ⟨q,0,I⟩),V Y 0,V Y 0])/\X9 w' w.heap.size q body p.1 p.2)/\F0 w w'
 | .error f=>e=E (.tuple #[Z I,V Y f.1,V Y f.2])/\F0 w w'
theorem VW.ok {x w w' e p}(h:x=.ok p):VW x w e w'↔(∃q body,e=E (.tuple #[Z (S ⟨q,0,I⟩),V Y 0,V Y 0])/\X9 w' w.heap.size q body p.1 p.2)/\F0 w w':=by subst h;exact Iff.rfl
theorem VW.err {x w w' e f}(h:x=.error f):VW x w e w'↔e=E (.tuple #[Z I,V Y f.1,V Y f.2])/\F0 w w':=by subst h;exact Iff.rfl
def uk (b:List Vu)(body:List Tk)(i:Nat)(f:Fa)(rts:List Zf)(a:List Xa):Prop:=
 (f=I->∃c,PL body i c/\YX [] [] b=YX rts a c/\rts.length<=6/\a.length<=8)/\(∀x,f=S x->YX [] [] b=.error x)
theorem CD {d c body j rts a r}(b:YX [] [] d=YX rts a (.route r::c))(f:PL body (j+1) c)(g:a.length<=8):
  uk d body (j+1) (Wp rts I r) (rts++[⟨r.name.text,Zd r.base,Zd r.rate⟩]) a:=by
 simp only[YX]at b;refine⟨fun e=>⟨c,f,?_,?_,g⟩,fun x h=>?_⟩
 ·rw[e]at b;exact b
 ·have:=NP e;simp;omega
 rw[h]at b;exact b
theorem AT {d c body j rts a r}(b:YX [] [] d=YX rts a (.rule r::c))(f:PL body (j+1) c)(g:rts.length<=6):
  uk d body (j+1) (Xt rts (a.map Xa.name) I r) rts (a++[Vo rts r]):=by
 simp only[YX]at b;refine⟨fun e=>⟨c,f,?_,g,?_⟩,fun x h=>?_⟩
 ·rw[e]at b;exact b
 ·have:=LA e;rw[j2]at this;simp;omega
 rw[h]at b;exact b
theorem IT {XS}(a:∀x,x∈XS->VE x):YX [] [] XS=(match ZS [] [] XS with| .error f=>.error f| .ok p=>.ok (p.1,p.2.map Ze.ref)):=
 ST XS [] [] (by simp) (by simp) trivial a
theorem xh {c body rts b}(l:∀x,x∈c->VE x)(h:uk c body body.length I rts b):∃p,ZS [] [] c=.ok p/\rts=p.1/\b=p.2.map Ze.ref:=by
 obtain⟨d,m,a,_⟩:=h.1 rfl
 cases d with
 |cons e d=>
  obtain⟨j,⟨g,i,_⟩,_⟩:=m;omega
 |nil=>
  simp only[YX]at a;rw[IT l]at a
  cases k:ZS [] [] c with
  |error f=>rw[k]at a;cases a
  |ok p=>
   rw[k]at a;injection a with a;injection a with g i;exact⟨p,rfl,g.symm,i.symm⟩
theorem CE {b body i x rts c}(e:∀x,x∈b->VE x)(h:uk b body i (S x) rts c):ZS [] [] b=.error x:=by
 have a:=h.2 x rfl;rw[IT e]at a
 cases d:ZS [] [] b with
 |error f=>rw[d]at a;injection a with a;rw[a]
 |ok p=>rw[d]at a;cases a
theorem O8.rulesAt {w b B c p q g i f body m d e rts a j}(h:O8 w B c p q g i f body m d e rts (a.map Ze.ref) j)(n:b<=g)(k:b<=B)(o:body.length<=3000)(r:∀t,t∈body->t.text.size<=3000)(s:VI rts a=VT body body.length):X9 w b q body rts a:=by
 have l:=h.lo;rw[j2]at l;exact⟨⟨_,_,h.wt.c0,fun _=>⟨g,rfl,n,h.wt.lt,h.wt.row⟩⟩,⟨A k h.qB.1,nL h.qB.2 h.b2⟩,⟨o,r⟩,s,c,d,e,j,A k (A h.pB.1 (Nat.le_of_lt h.pB.2)),h.q1,h.q2,h.ro,l,h.ru⟩
theorem xi (s w):z9 O 43 #[q9 s] w (VW (XG s) w):=by
 by_cases hs:3000<s.size
 ·have HQ:U (XG s=.error (1,0)):=by show _=_;unfold XG;rw[if_pos hs]
  go_enter Tryz.func43,Tryz.ntmps43;go_wp2_with fail
  go_ret3
  exact(VW.err HQ.o).2 ⟨rfl,Zt⟩
 have HS:=Za hs;go_enter Tryz.func43,Tryz.ntmps43;go_wp2_with fail;clear hs;refine(FF s w (by have:=HS.o;omega)).mono ?_;intro e w1 hT
 cases hL:ZL s 0 1 []with
 |error l=>
  obtain⟨rfl,y⟩:=(VV.err hL).1 hT;have HF:=Za y;have hl:=(QX _ 0 1 [] rfl (by omega) (by simp)).1 l hL
  have HQ:U (XG s=.error (2,l)):=by show _=_;unfold XG;rw[if_neg HS.o,hL]
  have d0:decide ((0:Int)<(l:Int))=true:=by simp;omega
  clear hT y hL;go_wp2_with fail
  go_ret3
  exact(VW.err HQ.o).2 ⟨rfl,HF.o⟩
 |ok ts=>
  obtain⟨⟨v,rfl,d⟩,y⟩:=(VV.ok hL).1 hT;obtain⟨body,s0,hB,Q⟩:=II hL;have R:=Oi _ 0 1 [] ts rfl (z3 _) hL;have q:=(QX (s:=s) _ 0 1 [] rfl (by omega) (by simp)).2 ts hL;rw[s0]at d R q;rw[List.dropLast_concat]at d
  have hb:body.length<=3000:=by have:=HS.o;simp at R;omega
  have C0:=Za y;have o0:=Za d;have D0:=Za hB;have r0:=Za Q
  have E0:U (XG s=match Zr (body++[⟨3,C,1+Pt s.data.toList⟩]) 0 []with| .error l=>.error (3,l)| .ok (xs,_)=>ZS [] [] xs):=by
   show _=_
   unfold XG;rw[if_neg HS.o,hL]
   dsimp only
   rw[s0];rfl
  obtain⟨G0,H0⟩:=xg (body:=body) (en:=⟨3,C,1+Pt s.data.toList⟩) rfl hB.ns q;have I0:=Za G0;have J0:=Za H0
  have t0:U (∀r N,YJ (body++[⟨3,C,1+Pt s.data.toList⟩]) N [.rules] 0=S r->z9 O 79 #[v] w1 fun e w'=>e=E (V Y (Vr (body++[⟨3,C,1+Pt s.data.toList⟩]) r))/\F0 w1 w'):=fun r N hN=>AR w1 w.heap.size v body _ ⟨rfl,rfl⟩ d (fun t T=>(Q t T).1) hb N r hN
  obtain⟨va,J,hv⟩:=oL d;clear hT y hL d hB Q R q G0 H0 s0;subst hv;obtain⟨n,hn⟩:∃n,body.length=n:=⟨_,rfl⟩;rw[hn]at o0 t0 hb ⊢;have D:=Za hn;clear hn
  cases hP:Zr (body++[⟨3,C,1+Pt s.data.toList⟩]) 0 []with
  |error l=>
   obtain⟨N,j,hN,K0⟩:=J0.o l hP
   have HQ:U (XG s=.error (3,l)):=by show _=_;rw[E0.o,hP]
   have HC:=Za (t0.o _ _ hN);have X0:=Za K0;clear hP hN K0;go_wp2_with fail;refine HC.o.mono ?_;rintro e w2 ⟨rfl,y⟩;have A:=Za (C0.o.trans y);clear y;rcases X0.o with⟨X,h2⟩|⟨X,h2⟩
   ·rw[X]
    have Y0:=Za h2;clear X h2;go_wp2_with fail
    go_loopg [7,8] s.size (fun m ln ix wr=>∃k lo,k<=s.size/\m=s.size-k/\ln=V Y (lo:Nat)/\ix=V Y (k:Nat)/\lo<=k+1/\U (lo+Pt (s.data.toList.drop k)=1+Pt s.data.toList)/\U (F0 w wr))
    case atStart=>exact⟨0,1,z3 _,rfl,rfl,rfl,by omega,by show _=_;rw[List.drop_zero],A⟩
    obtain⟨k,lo,hk,rfl,rfl,rfl,n1,u,z⟩:=hrel
    have o1:s.size<=3000:=by have:=HS.o;omega
    by_cases M:k<s.size
    ·have a0:(k:Int)<(s.size:Int):=by omega
     have Z0:=fun w=>VK (P:=O) Tryz.underlying9 s k (k:Int) rfl M w
     by_cases k0:ZD s k=10
     ·have HT:U (Pt (s.data.toList.drop k)=Pt (s.data.toList.drop (k+1))+1):=by show _=_;rw[Nw s k M,if_pos k0]
      rw[k0]at Z0;clear k0;go_wp2;go_roundg (s.size-(k+1))
      case measure=>omega
      exact⟨k+1,lo+1,by omega,rfl,by go_num,by go_num,by omega,by(have:=u.o;have:=HT.o;show _=_;omega),z⟩
     have HT:=Za (TL s k M k0)
     go_wp2;go_roundg (s.size-(k+1))
     case measure=>omega
     exact⟨k+1,lo,by omega,rfl,rfl,by go_num,by omega,by(have:=u.o;have:=HT.o;show _=_;omega),z⟩
    have a0:¬(k:Int)<(s.size:Int):=by omega
    have a1:U (lo=l):=by
     have e:=u.o;rw[dL (by simp;omega)]at e;have:=Y0.o
     show _=_
     simp[Pt]at e this;omega
    go_wp2_with fail
    go_ret3
    exact(VW.err HQ.o).2 ⟨by rw[a1.o];rfl,z.o⟩
   rw[X]
   have d1:((l:Int) !=0)=true:=by simp;omega
   have d2:decide ((l:Int)<0)=false:=by simp
   clear X;go_wp2_with fail
   go_ret3
   exact(VW.err HQ.o).2 ⟨rfl,A.o⟩
  |ok r=>
   obtain⟨xs,kk⟩:=r;obtain⟨N,hN⟩:=I0.o xs kk hP;have HC:=Za (t0.o _ _ hN)
   have l0:U (∀x,x∈xs->VE x):=NO (ts:=body++[⟨3,C,1+Pt s.data.toList⟩]) (n:=s.size) (fun t T=>by
    rcases x4.1 T with h|h
    ·exact(r0.o t h).2
    simp at h;subst h;exact⟨fun e=>by simp at e,by simp,by simp⟩) (by have:=HS.o;omega) (by have:=D.o;simp;omega) _ 0 [] xs kk rfl (by simp) hP
   have L0:U (PL body 0 xs):=by
    obtain⟨ys,e,h⟩:=Fv rfl D0.o _ 0 [] xs kk rfl (z3 _) l0.o hP;rw[e];exact h
   have HU:U (XG s=ZS [] [] xs):=by show _=_;rw[E0.o,hP]
   have M0:U (∀p,ZS [] [] xs=.ok p->VI p.1 p.2=VT body body.length):=fun p hp=>AE D0.o hP l0.o hp
   have N0:U (∀t,t∈body->t.text.size<=3000):=fun t T=>by have:=(r0.o t T).2.2.1;have:=HS.o;omega
   clear hP hN;go_wp2_with fail;refine HC.o.mono ?_;rintro e w2 ⟨rfl,y⟩;have A:=Za (C0.o.trans y);have v0:=Za (oF o0.o y);clear y;rcases Nat.eq_zero_or_pos n with h0|h0
   ·subst h0
    have O0:U (xs=[]):=by
     have e:=L0.o;have hn:=D.o
     cases xs with
     |nil=>rfl
     |cons x r=>obtain⟨j,⟨X,h2,_⟩,_⟩:=e;omega
    have b1:U (XG s=.ok ([],[])):=by show _=_;rw[HU.o,O0.o];rfl
    have P0:=Za (M0.o ([],[]) (by rw[O0.o];rfl));go_wp2_with fail;obtain⟨_,q0,p0⟩:=Ih w2 (L #[F va 0 J,F I 0 0,F I 0 0] 71) (L #[Z (S ⟨w2.heap.size,0,I⟩),V Y 0,V Y 0,V Y 0] 164);have b0:=(SE w2 (L #[F va 0 J,F I 0 0,F I 0 0] 71) (L #[Z (S ⟨w2.heap.size,0,I⟩),V Y 0,V Y 0,V Y 0] 164)).1;generalize(w2.alloc _).alloc _=W at*;have e1:=Za ((iA.1 q0).1);have w0:=Za q0;have m0:=Za p0;clear q0 p0
    go_loopg [] 0 (fun _ wr=>U (wr=W))
    case atStart=>exact rfl
    have e:=hrel.o;subst e;have c0:=Zc m0.o 0;have c1:=Zc m0.o 1;have c2:=Zc m0.o 2;have c3:=Zc m0.o 3;go_wp2_with fail
    go_ret3
    refine(VW.ok b1.o).2 ⟨⟨w2.heap.size,body,rfl,⟨⟨va,J,?_,fun h=>by have:=D.o;omega⟩,⟨A.o.size,e1.o⟩,⟨by have:=D.o;omega,N0.o⟩,P0.o,w.heap.size,F I 0 0,F I 0 0,[],G _,Zc w0.o 1,Zc w0.o 2,oZ _ _ _ _,oZ _ _ _ _,rfl⟩⟩,A.o.trans b0.o⟩;rw[D.o];exact Zc w0.o 0
   obtain⟨g,f1,HG⟩:∃g,va=S ⟨g,0,I⟩/\U (w.heap.size<=g/\g<w2.heap.size/\wl w2 g body):=by
    have e:=v0.o;rw[<-D.o]at e;obtain⟨a',c',e2,hr⟩:=QV e;injection e2 with e3 _ _;subst e3;obtain⟨g,e5,g1,i1,j1⟩:=hr (by have:=D.o;omega);exact⟨g,e5,g1,i1,j1⟩
   subst f1;go_wp2_with fail;obtain⟨_,q0,p0⟩:=Ih w2 (L #[F (S ⟨g,0,I⟩) n J,F I 0 0,F I 0 0] 71) (L #[Z (S ⟨w2.heap.size,0,I⟩),V Y 0,V Y 0,V Y 0] 164);have b0:=(SE w2 (L #[F (S ⟨g,0,I⟩) n J,F I 0 0,F I 0 0] 71) (L #[Z (S ⟨w2.heap.size,0,I⟩),V Y 0,V Y 0,V Y 0] 164)).1;generalize(w2.alloc _).alloc _=W at*
   have Q0:U (O8 W w2.heap.size (w2.heap.size+2) (w2.heap.size+1) w2.heap.size g 0 I body J (F I 0 0) (F I 0 0) [] [] []):=by
    refine⟨⟨Zc p0 0,Zc p0 1,Zc p0 2,Zc p0 3,fun o=>bF p0 o,fun x e=>by cases e⟩,⟨?_,nL HG.o.2.1 b0.o.size,HG.o.2.2.fr b0.o HG.o.2.1⟩,Zc q0 1,Zc q0 2,fun o=>bF q0 o,oZ _ _ _ _,oZ _ _ _ _,rfl,HG.o.2.1,⟨by omega,by omega⟩,⟨G _,by omega⟩,by omega,?_⟩
    ·rw[D.o];exact Zc q0 0
    have:=(iA.1 p0).1;omega
   obtain⟨B,hB⟩:∃B,w2.heap.size=B:=⟨_,rfl⟩
   have e0:U (w.heap.size<=B):=by rw[<-hB];exact A.o.size
   have k1:=Za HG.o.1;have l1:=Za (A.o.trans b0.o);rw[hB]at Q0;rw[hB];clear q0 p0 hB HG
   go_loopg [] n (fun m wr=>∃i f vr vl rts b ys,i<=n/\m=n-i/\U (O8 wr B (B+2) (B+1) B g i f body J vr vl rts b ys)/\U (uk xs body i f rts b)/\U (F0 w wr))
   case atStart=>exact⟨0,I,_,_,[],[],[],z3 _,rfl,Q0,⟨fun _=>⟨xs,L0.o,rfl,by simp,by simp⟩,fun x e=>by cases e⟩,l1⟩
   obtain⟨i,f,vr,vl,rts,b,ys,hi,rfl,u,x0,z⟩:=hrel;have c0:=u.o.wp.c0;have c1:=u.o.wp.c1;have c2:=u.o.wp.c2;have c3:=u.o.wp.c3
   cases f with
   |some x=>
    have p1:((x.1:Int)==0)=false:=by have:=u.o.wp.ok x rfl;simp;omega
    have q1:((x.1:Int) !=0)=true:=by have:=u.o.wp.ok x rfl;simp;omega
    have HE:U (XG s=.error x):=by show _=_;rw[HU.o];exact CE l0.o x0.o
    simp only[uc,uN]at c2 c3;by_cases M:i<n
    all_goals
     have a0:decide ((i:Int)<(n:Int))=decide (i<n):=by simp
     simp only[M]at a0;go_wp2_with fail
     go_quiet (fail)
     go_wp2_with fail
     go_ret3
     exact(VW.err HE.o).2 ⟨rfl,z.o.trans ⟨rfl,rfl,rfl,G _,fun _ _ _=>rfl⟩⟩
   |none=>
    simp only[uc,uN]at c2 c3;by_cases M:i<n
    ·have a0:(i:Int)<(n:Int):=by omega
     obtain⟨zs,R0,hu,h6,h8⟩:=x0.o.1 rfl
     cases zs with
     |nil=>exact absurd R0 (by have:=D.o;show¬i=body.length;omega)
     |cons e zs=>
      obtain⟨j,n0,f0⟩:=R0;have r1:=Za f0;have s1:i<j/\j<n:=⟨n0.2.1,by have:=n0.1;have:=D.o;omega⟩
      cases e with
      |route r=>
       obtain⟨_,_,⟨t,T,y0⟩,t1,t2,t3,d2,d3,hj⟩:=n0;have z0:=Za (XE wr (B+1) B g i I body J t u.o.wp u.o.wt T)
       have HW:U (∀W,F0 wr W->z9 O 81 #[Z (S ⟨B+1,0,I⟩)] W fun e w'=>e=E (.tuple #[])/\(∃S0,O8 w' B (B+2) (B+1) B g j (Wp rts I r) body J S0 vl (rts++[⟨r.name.text,Zd r.base,Zd r.rate⟩]) b ys)/\Fr (fun j=>B<=j) W w'):=fun W hW=>by
        rw[hj];exact FA W B (B+2) (B+1) B g i I body J vr vl rts b ys r.name r.base r.rate (u.o.step (u.o.wp.fr hW) hW.no) (by have:=D.o;omega) h6 t1 t2 t3 d2 d3
       have A0:=Za (CD hu f0 h8);clear T t1 t2 t3 d2 d3 hj hu f0 h6 h8;go_wp2_with fail;refine z0.o.mono ?_;rintro e w3 ⟨rfl,y⟩;have g0:=Za y;clear y c0 c1 c2 c3;go_wp2_with fail;refine(HW.o w3 g0.o).mono ?_;rintro e w4 ⟨rfl,⟨S0,i0⟩,j0⟩;have a:=Za i0;have B0:=Za ((z.o.trans g0.o).monoNew j0 (fun k hk=>K (by have:=e0.o;omega)));clear i0 j0 y0;have c0:=a.o.wp.c0;have c1:=a.o.wp.c1;have fz:=a.o.wp.fz
       have m1:j<=3000:=by omega
       have HM:U (Sx (w4.setCell ⟨B+1,1,I⟩ (V Y ((j:Int)+1))) (B+1) B (j+1) (Wp rts I r)/\Fr (fun k=>k=B+1) w4 (w4.setCell ⟨B+1,1,I⟩ (V Y ((j:Int)+1)))):=by have e:=a.o.wp.move (j+1);rw[j3]at e;exact e
       go_wp2;go_roundg (n-(j+1))
       case measure=>omega
       exact⟨j+1,_,_,_,_,_,_,by omega,rfl,a.o.step HM.o.1 HM.o.2,A0,B0.o.monoNew HM.o.2 (fun k hk=>K (by have:=e0.o;omega))⟩
      |rule r=>
       obtain⟨_,_,⟨t,T,y0⟩,T0⟩:=n0;have z0:=Za (XE wr (B+1) B g i I body J t u.o.wp u.o.wt T)
       have HW:U (∀W,F0 wr W->z9 O 82 #[Z (S ⟨B+1,0,I⟩)] W fun e w'=>e=E (.tuple #[])/\(∃V0 c,O8 w' B (B+2) (B+1) B g j (Xt rts (b.map Xa.name) I r) body J vr V0 rts (b++[Vo rts r]) (ys++c))/\Fr (fun j=>B<=j) W w'):=fun W hW=>
        CB W B (B+2) (B+1) B g i I body J vr vl rts b ys r j (u.o.step (u.o.wp.fr hW) hW.no) (by have:=D.o;omega) (by omega) h8 T0
       have A0:=Za (AT hu f0 h6);clear T T0 hu f0 h6 h8;go_wp2_with fail;refine z0.o.mono ?_;rintro e w3 ⟨rfl,y⟩;have g0:=Za y;clear y c0 c1 c2 c3;go_wp2_with fail;refine(HW.o w3 g0.o).mono ?_;rintro e w4 ⟨rfl,⟨V0,cc,i0⟩,j0⟩;have a:=Za i0;have B0:=Za ((z.o.trans g0.o).monoNew j0 (fun k hk=>K (by have:=e0.o;omega)));clear i0 j0 y0;have c0:=a.o.wp.c0;have c1:=a.o.wp.c1;have fz:=a.o.wp.fz
       have m1:j<=3000:=by omega
       have HM:U (Sx (w4.setCell ⟨B+1,1,I⟩ (V Y ((j:Int)+1))) (B+1) B (j+1) (Xt rts (b.map Xa.name) I r)/\Fr (fun k=>k=B+1) w4 (w4.setCell ⟨B+1,1,I⟩ (V Y ((j:Int)+1)))):=by have e:=a.o.wp.move (j+1);rw[j3]at e;exact e
       go_wp2;go_roundg (n-(j+1))
       case measure=>omega
       exact⟨j+1,_,_,_,_,_,_,by omega,rfl,a.o.step HM.o.1 HM.o.2,A0,B0.o.monoNew HM.o.2 (fun k hk=>K (by have:=e0.o;omega))⟩
    have a0:¬(i:Int)<(n:Int):=by omega
    have W0:i=body.length:=by have:=D.o;omega
    have HE:U (∃p,XG s=.ok p/\rts=p.1/\b=p.2.map Ze.ref/\VI p.1 p.2=VT body body.length):=by
     have e:=x0.o;rw[W0]at e;obtain⟨p,X,h2,h3⟩:=xh l0.o e;exact⟨p,by rw[HU.o];exact X,h2,h3,M0.o p X⟩
    clear W0;go_wp2_with fail
    go_ret3
    obtain⟨p,X,h2,h3,h4⟩:=HE.o;have e:=u.o;rw[h3,h2]at e;exact(VW.ok X).2 ⟨⟨B,body,rfl,e.rulesAt k1.o e0.o (by have:=D.o;omega) N0.o h4⟩,z.o⟩
def RP (c:Int)(n:Nat):Nat:=((if c<0 then-(c+1)else c)% (n:Int)).toNat
theorem AU (c n)(h:0<n):RP c n<n:=by
 unfold RP;have a:=x5 (if c<0 then-(c+1)else c) (b:=(n:Int)) (by omega);have d:=Int.emod_lt_of_pos (if c<0 then-(c+1)else c) (b:=(n:Int)) (by omega);omega
theorem AW (c)(n:Nat)(w)(i: -9223372036854775808<=c)(j:c<=9223372036854775807)(k:0<n)(l:n<=1000000):
  z9 O 44 #[V Y c,V Y n] w fun e w'=>e=E (V Y (RP c n))/\w'=w:=by
 have d:(0:Int)<(n:Int):=by omega
 have f:(n:Int)<=1000000:=by omega
 have g:((n:Int)==0)=false:=by simp;omega
 by_cases b:c<0
 ·have a:U ((RP c n:Int)=(-(c+1))% (n:Int)):=by
   show _=_
   unfold RP;rw[if_pos b,q6 (x5 _ (by omega))]
  go_enter Tryz.func44,Tryz.ntmps44;go_wp2;go_ret;exact⟨ZP (by rw[a.o,<-Int.neg_tmod,Int.tmod_eq_emod_of_nonneg (by omega)]),rfl⟩
 have a:U ((RP c n:Int)=c % (n:Int)):=by
  show _=_
  unfold RP;rw[if_neg b,q6 (x5 _ (by omega))]
 have h:0<=c:=by omega
 go_enter Tryz.func44,Tryz.ntmps44;go_wp2;go_ret;exact⟨ZP (by rw[a.o]),rfl⟩
theorem CF (w T b c d rts a f)(k:w.cell? ⟨T,0,I⟩=S (Z (S ⟨b,0,I⟩)))(g:Bk w b c d rts a f)(h:Yy rts a)(i:QS w):
  z9 O 17 #[Z (S ⟨T,0,I⟩)] w fun e w'=>e=E (q9 (ZR (VI rts a)))/\F0 w w':=by
 have l:=Za (Cx w b c d rts a f g h i);clear g h i;go_enter Tryz.func17,Tryz.ntmps17;go_wp2_with fail;refine l.o.mono ?_;rintro e n ⟨rfl,j⟩;have m:=Za j;clear j k;go_wp2;go_ret;exact⟨rfl,m.o⟩
section
variable {P:Program} {ops:Array Oper} {Q:Exit->Act->List Frame->z5->Prop} {a:Act} {cs cs':List Frame} {w w':z5} {o:Oper} {v:q3}
theorem Kk {f n2 q}(b:∀a w,f a w->n2 a w){r}(h:o.upon P a f q r):o.upon P a n2 q r:=by
 unfold Oper.upon at h ⊢
 split at h
 ·exact b _ _ h
 ·exact b _ _ h
 ·exact b _ _ h
 ·refine h.mono ?_
  intro e w' d
  cases e with
  |returned v=>exact b _ _ d
  |panicked c=>exact d
  |outgrown=>exact d
 ·exact h.mono fun _ _ d=>b _ _ d
 ·exact h
 exact h.elim
theorem Se (b:∀a w,¬Q .outgrown a cs w):∀(l:List Oper)(k:Nat),(∀j,l[j]?=ops[k+j]?)->∀(a:Act)(w:z5),wpList P ops (fun e a w=>Q e a cs w) l a w->wpOpsS P ops Q (j0 k l.length) a cs w
 |[],k,_,a,w,h=>h
 |o::l,k,hl,a,w,h=>by
  have g:ops[k]?=S o:=by simpa using(hl 0).symm
  have f:=Se b l (k+1) (fun j=>by have:=hl (j+1);simpa[Nat.add_assoc,q8 1 j]using this);simp only[y7,y8,wpOpsS,g];simp only[wpList]at h
  split at h
  ·rename_i c
   rw[if_pos c];rcases h with h|⟨_,d,w',h⟩
   ·unfold Oper.wp at h
    split
    ·rename_i w' i
     rw[i]at h;exact absurd h (by simp[Oper.upon])
    exact Kk (fun d w' h=>f d w' h) h
   exact absurd h (b d w')
  rename_i c
  rw[if_neg c];exact f _ _ h
theorem To {k g:Exit->Act->z5->Prop}(d:∀e a w,k e a w->g e a w):∀(l:List Oper)(a:Act)(w:z5),wpList P ops k l a w->wpList P ops g l a w
 |[],a,w,h=>d _ _ _ h
 |o::l,a,w,h=>by
  simp only[wpList]at h ⊢
  split at h
  ·rename_i i
   rw[if_pos i];rcases h with h|⟨m,j,w',h⟩
   ·left
    have b:=Kk (n2:=wpList P ops g l) (fun a w f=>To d l a w f) h;unfold Oper.wp;unfold Oper.upon at b ⊢
    split at b
    ·exact b
    ·exact b
    ·exact b
    ·refine b.mono ?_
     intro e w' f
     cases e with
     |returned v=>exact f
     |panicked c=>exact d _ _ _ f
     |outgrown=>obtain⟨j,w',f⟩:=f;exact⟨j,w',d _ _ _ f⟩
    ·exact b
    ·exact d _ _ _ b
    exact b.elim
   exact K ⟨m,j,w',d _ _ _ h⟩
  rename_i i
  rw[if_neg i];exact To d l _ _ h
theorem On {id y o l}(b:ops.toList=o::l)(f:Region.wanted o (yielded ops a.tmps)=true)(g:(execOp a.eval o).run P w=.ok .recover w')(i:recoverD cs=S (v,cs'))(c:∀a w,¬Q .outgrown a cs' w)(h:wpList P ops (Exit.then (y.wp P (fun e a w=>Q e a cs' w)) (fun e a w=>Q e a cs' w)) l (a.put o.dst v) w'):(Code.seq (.region id ops false) y).wpS P Q a cs w:=by
 refine wpS_seq (wpS_region ?_)
 have k:ops[0]?=S o:=by rw[<-Array.getElem?_toList,b];rfl
 have m:j8 ops.size=0::j0 1 l.length:=by rw[<-Array.length_toList,b,q4,y7,y8]
 rw[m];simp only[wpOpsS,k,f,if_true,g,i];refine Se (Q:=Exit.thenS (y.wpS P Q) Q) (fun a w=>c a w) l 1 (fun j=>?_) _ _ ?_
 ·rw[<-Array.getElem?_toList,b,q8,z4]
 have n:∀e a w,Exit.then (y.wp P (fun e a w=>Q e a cs' w)) (fun e a w=>Q e a cs' w) e a w->Exit.thenS (y.wpS P Q) Q e a cs' w:=fun e a w d=>by
  cases e with
  |normal=>exact wpS_of_wp d
  |_=>exact d
 exact To n l _ _ h
end
theorem OQ (a b c)(k l:Nat)(v0 v1 v2 w)(t:w.cell? ⟨a,0,I⟩=S v0)(z:w.cell? ⟨b,0,I⟩=S v1)(A:w.cell? ⟨c,0,I⟩=S v2)(D:w.frozen? ⟨a,0,I⟩=false)(F:w.frozen? ⟨b,0,I⟩=false)(G:w.frozen? ⟨c,0,I⟩=false)(g:¬a=b)(i:¬a=c)(m:¬b=c)(n:¬b=a)(q:¬c=a)(r:¬c=b):
  CallsD O 57 #[Z (S ⟨a,0,I⟩),Z (S ⟨b,0,I⟩),Z (S ⟨c,0,I⟩)] (.panicking [{v:=.iface 111 (x7 #[V Y k,V Y l]),recovered:=false}]) w fun e J w'=>
   e=E (.tuple #[])/\J=.panicking [{v:=.iface 111 (x7 #[V Y k,V Y l]),recovered:=true}]/\
    w'.cell? ⟨a,0,I⟩=S (Z I)/\w'.cell? ⟨b,0,I⟩=S (V Y k)/\w'.cell? ⟨c,0,I⟩=S (V Y l)/\Fr (fun j=>j=a\/j=b\/j=c) w w':=by
 have M:∀w:z5,(Instr.typeAssert (.iface 111 (x7 #[V Y k,V Y l])) 20 111 true).run O w=.ok (.tuple #[x7 #[V Y k,V Y l],y5 true]) w:=fun _=>by kernel_rfl
 refine callsD_of_wpS Tryz.func57 rfl fun P Q R=>?_
 have T:(#[Z (S ⟨a,0,I⟩),Z (S ⟨b,0,I⟩),Z (S ⟨c,0,I⟩)]++Array.replicate (Tryz.f57.ntmps-(#[Z (S ⟨a,0,I⟩),Z (S ⟨b,0,I⟩),Z (S ⟨c,0,I⟩)]:Array q3).size) undef:Array q3)=#[Z (S ⟨a,0,I⟩),Z (S ⟨b,0,I⟩),Z (S ⟨c,0,I⟩),undef,undef,undef,undef,undef,undef,undef,undef,undef,undef,undef,undef]:=by rw[show Tryz.f57.ntmps=15 from rfl];rfl
 rw[T];refine On (v:=.iface 111 (x7 #[V Y k,V Y l])) (cs':={P with mode:=.panicking [{v:=.iface 111 (x7 #[V Y k,V Y l]),recovered:=true}]}::Q) (w':=w) (o:=?o) (l:=?l) ?ho ?hw ?hx ?hr ?hno ?main
 case ho=>rfl
 case hw=>kernel_rfl
 case hx=>rfl
 case hr=>simp only[recoverD,R]
 case hno=>intro a w s;obtain⟨u,s,_⟩:=s;cases s
 show wpList O _ _ _ {tmps:=#[Z (S ⟨a,0,I⟩),Z (S ⟨b,0,I⟩),Z (S ⟨c,0,I⟩),undef,undef,undef,.iface 111 (x7 #[V Y k,V Y l]),undef,undef,undef,undef,undef,undef,undef,undef],defers:=[]} w
 go_wp2;have B:a<w.heap.size:=bL w _ t;have lb:b<w.heap.size:=bL w _ z;have C:c<w.heap.size:=bL w _ A;have f:=(Lt w (L #[V Y k,V Y l] 111)).1;have U:=Za f;have g0:=(f.cell (p:=⟨a,0,I⟩) B).trans t;have g1:=(f.cell (p:=⟨b,0,I⟩) lb).trans z;have g2:=(f.cell (p:=⟨c,0,I⟩) C).trans A;have y0:=(f.frozen (p:=⟨a,0,I⟩) B).trans D;have y1:=(f.frozen (p:=⟨b,0,I⟩) lb).trans F;have y2:=(f.frozen (p:=⟨c,0,I⟩) C).trans G;have k0:=bC (aN w (L #[V Y k,V Y l] 111)) 0 _ rfl;have k1:=bC (aN w (L #[V Y k,V Y l] 111)) 1 _ rfl;generalize hN:w.heap.size=N at*;generalize w.alloc _=wA at*
 have na:¬a=N:=by omega
 have nb:¬b=N:=by omega
 have nc:¬c=N:=by omega
 have W:¬N=a:=by omega
 have X:¬N=b:=by omega
 have a0:¬N=c:=by omega
 go_region
 have d:∀(v:z5)(x y:Nat)(u:q3),¬x=y->(v.setCell ⟨x,0,I⟩ u).cell? ⟨y,0,I⟩=v.cell? ⟨y,0,I⟩:=fun v x y u h=>cO _ _ _ _ (fun e=>h (by injection e))
 refine⟨rfl,_,rfl,.tuple #[],results_none rfl _ _ _,rfl,rfl,?_,?_,?_,?_⟩
 ·exact(d _ c a _ q).trans ((d _ b a _ n).trans (cS _ _ _ g0))
 ·exact(d _ c b _ r).trans (cS _ _ _ ((d _ a b _ g).trans g1))
 ·exact cS _ _ _ ((d _ b c _ m).trans ((d _ a c _ i).trans g2))
 exact((((U.o.mono).setCell (p:=⟨a,0,I⟩) (H (H rfl)) _).setCell (p:=⟨b,0,I⟩) (H (K (H rfl))) _).setCell (p:=⟨c,0,I⟩) (H (K (K rfl))) _).drew
theorem QY {P b Q a c w w' id y o l}(d:b.toList=o::l)(i:Region.wanted o (yielded b a.tmps)=true)(k:(execOp a.eval o).run P w=.ok .recover w')(m:recoverD c=I)(f:∀a w,¬Q .outgrown a c w)(h:wpList P b (Exit.then (y.wp P (fun e a w=>Q e a c w)) (fun e a w=>Q e a c w)) l (a.put o.dst .nilIface) w'):(Code.seq (.region id b false) y).wpS P Q a c w:=by
 refine wpS_seq (wpS_region ?_)
 have n:b[0]?=S o:=by rw[<-Array.getElem?_toList,d];rfl
 have p:j8 b.size=0::j0 1 l.length:=by rw[<-Array.length_toList,d,q4,y7,y8]
 rw[p];simp only[wpOpsS,n,i,if_true,k,m];refine Se (Q:=Exit.thenS (y.wpS P Q) Q) (fun a w=>f a w) l 1 (fun j=>?_) _ _ ?_
 ·rw[<-Array.getElem?_toList,d,q8,z4]
 have q:∀e a w,Exit.then (y.wp P (fun e a w=>Q e a c w)) (fun e a w=>Q e a c w) e a w->Exit.thenS (y.wpS P Q) Q e a c w:=fun e a w g=>by
  cases e with
  |normal=>exact wpS_of_wp g
  |_=>exact g
 exact To q l _ _ h
theorem FG (a b c w):
  CallsD O 57 #[Z (S ⟨a,0,I⟩),Z (S ⟨b,0,I⟩),Z (S ⟨c,0,I⟩)] .returning w fun e g w'=>
   e=E (.tuple #[])/\g=.returning/\F0 w w':=by
 have h:∀w:z5,(Instr.typeAssert .nilIface 20 111 true).run O w=.ok (.tuple #[x7 #[V Y 0,V Y 0],y5 false]) w:=fun _=>by kernel_rfl
 refine callsD_of_wpS Tryz.func57 rfl fun k m f=>?_
 have i:(#[Z (S ⟨a,0,I⟩),Z (S ⟨b,0,I⟩),Z (S ⟨c,0,I⟩)]++Array.replicate (Tryz.f57.ntmps-(#[Z (S ⟨a,0,I⟩),Z (S ⟨b,0,I⟩),Z (S ⟨c,0,I⟩)]:Array q3).size) undef:Array q3)=#[Z (S ⟨a,0,I⟩),Z (S ⟨b,0,I⟩),Z (S ⟨c,0,I⟩),undef,undef,undef,undef,undef,undef,undef,undef,undef,undef,undef,undef]:=by rw[show Tryz.f57.ntmps=15 from rfl];rfl
 rw[i];refine QY (w':=w) (o:=?o) (l:=?l) ?ho ?hw ?hx ?hr ?hno ?main
 case ho=>rfl
 case hw=>kernel_rfl
 case hx=>rfl
 case hr=>simp only[recoverD,f]
 case hno=>intro a w d;obtain⟨u,d,_⟩:=d;cases d
 show wpList O _ _ _ {tmps:=#[Z (S ⟨a,0,I⟩),Z (S ⟨b,0,I⟩),Z (S ⟨c,0,I⟩),undef,undef,undef,.nilIface,undef,undef,undef,undef,undef,undef,undef,undef],defers:=[]} w
 have j:=Za f;go_wp2;refine⟨rfl,.returning,by rw[<-j.o],.tuple #[],results_none rfl _ _ _,rfl,rfl,Zt.alloc _⟩
structure Z5 where
 d:Nat
 x:Nat
def Z5.longer (p:Z5)(k:Nat):Z5:=⟨p.d+1,p.x*10+k⟩
def Z5.holds (p q:Z5):Bool:=decide (p.d<=q.d)&&(q.x/10^(q.d-p.d)==p.x)
def Sy (a hi:Nat):Nat->Nat->Nat
 |0,k=>k
 |n+1,k=>if a/10^k % 10=0/\a+10^(k+1)<=hi+1 then Sy a hi n (k+1)else k
def SH (a hi:Nat):Nat:=Sy a hi 9 0
def Yp (d hi:Nat):Nat->Nat->List Z5
 |0,_=>[]
 |n+1,low=>if low<=hi then⟨d-SH low hi,low/10^SH low hi⟩::Yp d hi n (low+10^SH low hi)else[]
def YS (d lo hi:Nat):List Z5:=Yp d hi (hi+1-lo) lo
def ZI (q:Z5):List Z5->Nat
 |[]=>0
 |p::r=>if p.holds q then 2 else if q.holds p then 1 else ZI q r
def YT (q:Z5)(c:Nat):Prop:=c/10^(6-q.d)=q.x
def RQ (d lo hi c:Nat):Prop:=lo<=c/10^(6-d)/\c/10^(6-d)<=hi
theorem Y5 (c a b):c/10^(a+b)=c/10^a/10^b:=by rw[Nat.pow_add,Nat.div_div_eq_div_mul]
theorem UO {p q:Z5}:p.holds q=true↔p.d<=q.d/\q.x/10^(q.d-p.d)=p.x:=by
 unfold Z5.holds;simp
theorem IU {p q c}(h:p.holds q=true)(e:q.d<=6)(a:YT q c):YT p c:=by
 obtain⟨f,b⟩:=UO.1 h;unfold YT at*;rw[show 6-p.d=(6-q.d)+(q.d-p.d)from by omega,Y5,a,b]
theorem ul {p q c}(b:YT p c)(e:YT q c)(a:p.d<=q.d)(f:q.d<=6):p.holds q=true:=by
 refine UO.2 ⟨a,?_⟩;unfold YT at*;rw[<-e,<-Y5,show(6-q.d)+(q.d-p.d)=6-p.d from by omega];exact b
def xm (a hi k:Nat):Prop:=10^k∣a/\a+10^k<=hi+1
theorem IV {a hi k}(h:xm a hi k)(c:a/10^k % 10=0)(e:a+10^(k+1)<=hi+1):xm a hi (k+1):=by
 refine⟨?_,e⟩;obtain⟨m,d⟩:=h.1;have b:0<10^k:=z8 (by omega)
 have f:a/10^k=m:=by rw[d,x0 _ b]
 rw[f]at c;obtain⟨j,g⟩:10∣m:=Nat.dvd_of_mod_eq_zero c;exact⟨j,by rw[d,g,z7,Nat.mul_assoc]⟩
theorem Kl {a hi:Nat}:∀(n k:Nat),xm a hi k->xm a hi (Sy a hi n k)
 |0,_,h=>h
 |n+1,k,h=>by
  unfold Sy
  split
  ·rename_i b
   exact Kl n (k+1) (IV h b.1 b.2)
  exact h
theorem O9 {a hi}(h:a<=hi):xm a hi (SH a hi):=Kl 9 0 ⟨by simp,by simp;omega⟩
theorem Sf {a b}(h:10^a<=10^b):a<=b:=(Nat.pow_le_pow_iff_right (by omega)).1 h
theorem AX {a hi d}(h:a<=hi)(b:hi<10^d):SH a hi<=d:=by
 have c:=(O9 h).2;exact Sf (by omega)
theorem IW {d a hi c}(h:a<=hi)(i:hi<10^d)(o:d<=6):YT ⟨d-SH a hi,a/10^SH a hi⟩ c↔a<=c/10^(6-d)/\c/10^(6-d)<a+10^SH a hi:=by
 have p:=AX h i;obtain⟨m,j⟩:=(O9 h).1;generalize SH a hi=k at*;unfold YT;have b:0<10^k:=z8 (by omega)
 show c/10^(6-(d-k))=a/10^k↔_
 rw[show 6-(d-k)=(6-d)+k from by omega,Y5,j,x0 _ b];generalize c/10^(6-d)=y
 constructor
 ·intro e
  have f:=Nat.div_add_mod y (10^k);have g:=Nat.mod_lt y b;rw[e]at f;omega
 rintro⟨f,g⟩
 have l:=f
 have n:y<10^k*(m+1):=by rw[Nat.mul_add,Nat.mul_one];exact g
 apply Nat.le_antisymm
 ·exact Nat.le_of_lt_succ ((Nat.div_lt_iff_lt_mul b).2 (by rw[j7];exact n))
 exact(Nat.le_div_iff_mul_le b).2 (by rw[j7];exact l)
theorem Ut {d hi c:Nat}(g:hi<10^d)(i:d<=6){p:Z5}:∀(n a:Nat),p∈Yp d hi n a->p.d<=d/\(YT p c->a<=c/10^(6-d)/\c/10^(6-d)<=hi)
 |0,_,h=>by simp[Yp]at h
 |n+1,a,h=>by
  unfold Yp at h
  split at h
  ·rename_i j
   rcases j5.1 h with e|h
   ·subst e
    refine⟨Nat.sub_le _ _,fun b=>?_⟩;have f:=(IW j g i).1 b;have l:=(O9 j).2;omega
   have f:=Ut g i n _ h (c:=c)
   have k:0<10^SH a hi:=z8 (by omega);exact⟨f.1,fun b=>by have:=f.2 b;omega⟩
  cases h
theorem Oo {d hi c:Nat}(e:hi<10^d)(f:d<=6):∀(n a:Nat),hi+1-a<=n->a<=c/10^(6-d)->c/10^(6-d)<=hi->∃p,p∈Yp d hi n a/\YT p c
 |0,a,hn,h1,h2=>by omega
 |n+1,a,hn,h1,h2=>by
  have g:a<=hi:=by omega
  unfold Yp;rw[if_pos g];have h:0<10^SH a hi:=z8 (by omega);by_cases i:c/10^(6-d)<a+10^SH a hi
  ·exact⟨_,y4,(IW g e f).2 ⟨h1,i⟩⟩
  obtain⟨p,j,b⟩:=Oo e f n (a+10^SH a hi) (by omega) (by omega) h2
  exact⟨p,y3 _ j,b⟩
theorem Km {q:Z5}:∀{a:List Z5},ZI q a=2->∃p,p∈a/\p.holds q=true
 |[],h=>by simp[ZI]at h
 |p::r,h=>by
  unfold ZI at h
  split at h
  ·rename_i b;exact⟨p,y4,b⟩
  split at h
  ·omega
  obtain⟨c,d,e⟩:=Km h
  exact⟨c,y3 _ d,e⟩
theorem Kn {q:Z5}:∀{c:List Z5},ZI q c=1->∃p,p∈c/\q.d<p.d
 |[],h=>by simp[ZI]at h
 |p::r,h=>by
  unfold ZI at h
  split at h
  ·omega
  rename_i g
  split at h
  ·rename_i i
   refine⟨p,y4,?_⟩;obtain⟨f,a⟩:=UO.1 i;rcases y6 q.d p.d with b|j
   ·exact b
   exfalso
   have e:q.d=p.d:=by omega
   apply g;refine UO.2 ⟨by omega,?_⟩;rw[e,q7,Nat.pow_zero,Nat.div_one]at a ⊢;exact a.symm
  obtain⟨k,f,a⟩:=Kn h
  exact⟨k,y3 _ f,a⟩
theorem N8 {q:Z5}:∀{c:List Z5},ZI q c=0->∀p,p∈c->p.holds q=false/\q.holds p=false
 |[],_,_,b=>by cases b
 |p::r,h,p',a=>by
  unfold ZI at h
  split at h
  ·omega
  rename_i b
  split at h
  ·omega
  rename_i d
  rcases j5.1 a with e|a
  ·subst e;exact⟨by simpa using b,by simpa using d⟩
  exact N8 h p' a
theorem Ko (q:Z5):∀a:List Z5,ZI q a<=2
 |[]=>by simp[ZI]
 |p::r=>by
  unfold ZI
  split
  ·omega
  split
  ·omega
  exact Ko q r
theorem CG {d lo hi q}(a:hi<10^d)(b:d<=6)(e:q.d<=6)(h:ZI q (YS d lo hi)=2){c}(f:YT q c):RQ d lo hi c:=by
 obtain⟨p,g,i⟩:=Km h;exact(Ut a b _ _ g).2 (IU i e f)
theorem FH {d lo hi q}(f:hi<10^d)(g:d<=6)(k:q.d<=6)(h:ZI q (YS d lo hi)=0){c}(i:YT q c):¬RQ d lo hi c:=by
 rintro⟨l,m⟩;obtain⟨p,j,b⟩:=Oo f g (hi+1-lo) lo (G _) l m;have e:=N8 h p j;have n:=(Ut (c:=c) f g _ _ j).1;rcases Nat.le_total p.d q.d with a|a
 ·rw[ul b i a k]at e;exact absurd e.1 (by simp)
 rw[ul i b a (by omega)]at e;exact absurd e.2 (by simp)
theorem N9 {d lo hi q}(a:hi<10^d)(b:d<=6)(h:ZI q (YS d lo hi)=1):q.d<d:=by
 obtain⟨p,e,f⟩:=Kn h;have:=(Ut (c:=0) a b _ _ e).1;omega
inductive Tr where
 |leaf (p:Nat)
 |node (kids:Nat->Tr)
def YA (q:Z5)(op:Nat):Nat->List Ze->Nat×Nat->Nat×Nat
 |_,[],a=>a
 |i,r::rs,a=>YA q op (i+1) rs (if op.testBit i then(if ZI q (YS r.digits r.lo r.hi)=2 then(a.1|||1<<<i,a.2)else if ZI q (YS r.digits r.lo r.hi)=1 then(a.1,a.2|||1<<<i)else a)else a)
def Vg (a:List Nat)(m:Nat):Nat:=a.idxOf m
def Wy (a:List Nat)(m:Nat):List Nat:=if m∈a then a else a++[m]
def YB (f:Nat->List Nat->Tr×List Nat):Nat->List Nat->(Nat->Tr)×List Nat
 |0,ps=>(fun _=>.leaf 0,ps)
 |k+1,ps=>(fun d=>if d=k then(f k (YB f k ps).2).1 else(YB f k ps).1 d,(f k (YB f k ps).2).2)
def ZH (R:List Ze):Nat->Z5->Nat->Nat->List Nat->Tr×List Nat
 |0,_,_,_,ps=>(.leaf 0,ps)
 |n+1,q,met,op,ps=>
  if(YA q op 0 R (met,0)).2=0 then(.leaf (Vg ps (YA q op 0 R (met,0)).1),Wy ps (YA q op 0 R (met,0)).1)
  else(.node (YB (fun d a=>ZH R n (q.longer d) (YA q op 0 R (met,0)).1 (YA q op 0 R (met,0)).2 a) 10 ps).1,(YB (fun d a=>ZH R n (q.longer d) (YA q op 0 R (met,0)).1 (YA q op 0 R (met,0)).2 a) 10 ps).2)
def Tr.find:Tr->(Nat->Nat)->Nat->Nat
 | .leaf p,_,_=>p
 | .node k,dg,n=>(k (dg n)).find dg (n+1)
def Tr.deep:Tr->Nat->Prop
 | .leaf _,_=>True
 | .node k,n=>n<6/\∀d,d<10->(k d).deep (n+1)
def IY (c n:Nat):Nat:=c/10^(5-n)% 10
theorem AY (a i j):(a|||1<<<i).testBit j=(a.testBit j||decide (i=j)):=by
 rw[Nat.testBit_or,y9,j1,Nat.testBit_two_pow]
theorem QZ {q:Z5}{op:Nat}:∀(R:List Ze)(i:Nat)(a:Nat×Nat)(j:Nat),
    ((YA q op i R a).1.testBit j=true↔a.1.testBit j=true\/∃r,i<=j/\R[j-i]?=S r/\op.testBit j=true/\ZI q (YS r.digits r.lo r.hi)=2)/\
    ((YA q op i R a).2.testBit j=true↔a.2.testBit j=true\/∃r,i<=j/\R[j-i]?=S r/\op.testBit j=true/\ZI q (YS r.digits r.lo r.hi)=1)
  |[],i,a,j=>by simp[YA]
  | r::rs,i,a,j=>by
    have n:=fun a=>QZ (q:=q) (op:=op) rs (i+1) a j
    simp only[YA]
    have g:∀(P:Ze->Prop),(∃d,i<=j/\(r::rs)[j-i]?=S d/\P d)↔((i=j/\P r)\/∃d,i+1<=j/\rs[j-(i+1)]?=S d/\P d):=by
      intro P
      constructor
      · rintro⟨d,f,b,l⟩
        rcases Nat.eq_or_lt_of_le f with e|m
        · subst e
          rw[q7]at b;simp at b;subst b;exact H ⟨rfl,l⟩
        rw[show j-i=(j-(i+1))+1 from by omega,z4]at b
        exact K ⟨d,m,b,l⟩
      rintro(⟨e,h⟩|⟨d,f,b,l⟩)
      · subst e
        exact⟨r,G _,by simp,h⟩
      refine⟨d,by omega,?_,l⟩
      rw[show j-i=(j-(i+1))+1 from by omega,z4];exact b
    rw[(n _).1,(n _).2,g,g]
    split
    · rename_i k
      split
      · rename_i b
        simp only[AY]
        constructor
        · simp only[Bool.or_eq_true,decide_eq_true_eq]
          constructor
          · rintro((h|h)|h)
            · exact H h
            · exact K (H ⟨h,by rw[<-h];exact k,b⟩)
            exact K (K h)
          rintro(h|⟨h,_⟩|h)
          · exact H (H h)
          · exact H (K h)
          exact K h
        constructor
        · rintro(h|h)
          · exact H h
          exact K (K h)
        rintro(h|⟨h,_,c⟩|h)
        · exact H h
        · omega
        exact K h
      rename_i b
      split
      · rename_i f
        simp only[AY]
        constructor
        · constructor
          · rintro(h|h)
            · exact H h
            exact K (K h)
          rintro(h|⟨h,_,c⟩|h)
          · exact H h
          · exact absurd c b
          exact K h
        simp only[Bool.or_eq_true,decide_eq_true_eq]
        constructor
        · rintro((h|h)|h)
          · exact H h
          · exact K (H ⟨h,by rw[<-h];exact k,f⟩)
          exact K (K h)
        rintro(h|⟨h,_⟩|h)
        · exact H (H h)
        · exact H (K h)
        exact K h
      rename_i f
      constructor
      · constructor
        · rintro(h|h)
          · exact H h
          exact K (K h)
        rintro(h|⟨h,_,c⟩|h)
        · exact H h
        · exact absurd c b
        exact K h
      constructor
      · rintro(h|h)
        · exact H h
        exact K (K h)
      rintro(h|⟨h,_,c⟩|h)
      · exact H h
      · exact absurd c f
      exact K h
    rename_i k
    constructor
    · constructor
      · rintro(h|h)
        · exact H h
        exact K (K h)
      rintro(h|⟨h,c,_⟩|h)
      · exact H h
      · subst h;exact absurd c k
      exact K h
    constructor
    · rintro(h|h)
      · exact H h
      exact K (K h)
    rintro(h|⟨h,c,_⟩|h)
    · exact H h
    · subst h;exact absurd c k
    exact K h
def Q0 (r:Ze):Prop:=r.digits<=6/\r.hi<10^r.digits
def Sg (R:List Ze)(q:Z5)(met op:Nat):Prop:=
 ∀i r,R[i]?=S r->(met.testBit i=true->∀c,YT q c->RQ r.digits r.lo r.hi c)/\(met.testBit i=false->op.testBit i=false->∀c,YT q c->¬RQ r.digits r.lo r.hi c)
theorem Ma {R}(n:∀r,r∈R->Q0 r){q}(m:q.d<=6){met op}(h:Sg R q met op):Sg R q (YA q op 0 R (met,0)).1 (YA q op 0 R (met,0)).2:=by
 intro i r b;have j:=n r (mG b);have f:=QZ (q:=q) (op:=op) R 0 (met,0) i;rw[Nat.sub_zero]at f
 constructor
 ·intro k c g
  rcases f.1.1 k with o|⟨v,_,l,_,p⟩
  ·exact(h i r b).1 o c g
  rw[b]at l
  injection l with l;subst l;exact CG j.2 j.1 m p g
 intro k s c g
 have t:¬(met.testBit i=true):=fun e=>by have:=f.1.2 (H e);rw[k]at this;cases this
 by_cases a:op.testBit i=true
 ·refine FH j.2 j.1 m ?_ g
  have u:=Ko q (YS r.digits r.lo r.hi)
  have n2:ZI q (YS r.digits r.lo r.hi)≠2:=fun e=>by have:=f.1.2 (K ⟨r,z3 _,b,a,e⟩);rw[k]at this;cases this
  have w:ZI q (YS r.digits r.lo r.hi)≠1:=fun e=>by have:=f.2.2 (K ⟨r,z3 _,b,a,e⟩);rw[s]at this;cases this
  omega
 exact(h i r b).2 (by simpa using t) (by simpa using a) c g
theorem CH {q c}(a:q.d<6):YT (q.longer (IY c q.d)) c↔YT q c:=by
 unfold YT IY Z5.longer;simp only;rw[show 6-q.d=(5-q.d)+1 from by omega,show 6-(q.d+1)=5-q.d from by omega,Y5];simp only[x8];generalize c/10^(5-q.d)=y;omega
theorem Q4 {R q met op d}(j:q.d<6)(k:d<10)(h:Sg R q met op):Sg R (q.longer d) met op:=by
 intro i r f
 have b:∀c,YT (q.longer d) c->YT q c:=by
  intro c a;unfold YT Z5.longer at*;simp only at a;rw[show 6-q.d=(5-q.d)+1 from by omega,Y5];rw[show 6-(q.d+1)=5-q.d from by omega]at a;rw[a,x8];omega
 exact⟨fun e c a=>(h i r f).1 e c (b c a),fun e g c a=>(h i r f).2 e g c (b c a)⟩
theorem FI (a m):∃s,Wy a m=a++s:=by
 unfold Wy
 split
 ·exact⟨[],by simp⟩
 exact⟨[m],rfl⟩
theorem Kp (a m):(Wy a m)[Vg a m]?=S m:=by
 unfold Wy Vg
 split
 ·rename_i h
  have:=List.idxOf_lt_length_of_mem h;rw[gE this,List.getElem_idxOf this]
 rename_i h
 rw[List.idxOf_eq_length h];simp
theorem JC {c m}(h:c.Nodup):(Wy c m).Nodup:=by
 unfold Wy
 split
 ·exact h
 rename_i f
 rw[List.nodup_append];exact⟨h,by simp,fun a g b d=>by simp at d;subst d;exact fun e=>f (e▸g)⟩
theorem Sh {R}(b:∀r,r∈R->Q0 r){q met op}(h:(YA q op 0 R (met,0)).2≠0):q.d<6:=by
 obtain⟨j,c⟩:=Nat.exists_testBit_of_ne_zero h;rcases(QZ R 0 (met,0) j).2.1 c with e|⟨r,_,f,_,g⟩
 ·simp at e
 have a:=b r (mG f)
 have:=N9 a.2 a.1 g;have:=a.1;omega
def Qk (R:List Ze)(q:Z5)(t:Tr)(a:List Nat):Prop:=
 t.deep q.d/\∀c,YT q c->∃m,a[t.find (IY c) q.d]?=S m/\∀i r,R[i]?=S r->(m.testBit i=true↔RQ r.digits r.lo r.hi c)
theorem Qk.ext {R q t a s}(h:Qk R q t a):Qk R q t (a++s):=
 ⟨h.1,fun c d=>by
  obtain⟨m,b,e⟩:=h.2 c d
  exact⟨m,by rw[z6 (iG.1 b).1];exact b,e⟩⟩
theorem IZ {f:Nat->List Nat->Tr×List Nat}(b:∀d a,∃s,(f d a).2=a++s):∀(k:Nat)(a:List Nat),∃s,(YB f k a).2=a++s
 |0,a=>⟨[],by simp[YB]⟩
 |k+1,a=>by
  obtain⟨c,e⟩:=IZ b k a;obtain⟨g,h⟩:=b k (YB f k a).2;exact⟨c++g,by show(f k (YB f k a).2).2=_;rw[h,e,List.append_assoc]⟩
theorem Dd {R:List Ze}{q:Z5}{f:Nat->List Nat->Tr×List Nat}(b:∀d a,∃s,(f d a).2=a++s)(c:∀d a,d<10->Qk R (q.longer d) (f d a).1 (f d a).2):∀(k:Nat)(a:List Nat),k<=10->∀d,d<k->Qk R (q.longer d) ((YB f k a).1 d) (YB f k a).2
 |0,_,_,_,hd=>by omega
 |k+1,a,hk,d,hd=>by
  by_cases e:d=k
  ·subst e
   simp only[YB,if_true];exact c d _ (by omega)
  simp only[YB,if_neg e]
  obtain⟨s,g⟩:=b k (YB f k a).2;rw[g];exact(Dd b c k a (by omega) d (by omega)).ext
theorem Mb (R:List Ze):∀(n:Nat)(q:Z5)(met op:Nat)(b:List Nat),∃s,(ZH R n q met op b).2=b++s
 |0,_,_,_,b=>⟨[],by simp[ZH]⟩
 |n+1,q,met,op,b=>by
  simp only[ZH]
  split
  ·exact FI _ _
  exact IZ (f:=fun d a=>ZH R n (q.longer d) (YA q op 0 R (met,0)).1 (YA q op 0 R (met,0)).2 a) (fun d a=>Mb R n _ _ _ a) 10 b
theorem JD {R:List Ze}(j:∀r,r∈R->Q0 r):∀(n:Nat)(q:Z5)(met op:Nat)(g:List Nat),7<=n+q.d->q.d<=6->Sg R q met op->Qk R q (ZH R n q met op g).1 (ZH R n q met op g).2
 |0,q,_,_,_,hn,hq,_=>by omega
 |n+1,q,met,op,g,hn,hq,hk=>by
  have k:=Ma j hq hk;simp only[ZH]
  split
  ·rename_i l
   refine⟨trivial,fun c h=>⟨_,Kp _ _,fun i r o=>?_⟩⟩
   constructor
   ·intro m;exact(k i r o).1 m c h
   intro hi
   cases m:(YA q op 0 R (met,0)).1.testBit i with
   |true=>rfl
   |false=>exact absurd hi ((k i r o).2 m (by rw[l];simp) c h)
  rename_i l
  have b:=Sh j l
  have p:∀d a,d<10->Qk R (q.longer d) (ZH R n (q.longer d) (YA q op 0 R (met,0)).1 (YA q op 0 R (met,0)).2 a).1 (ZH R n (q.longer d) (YA q op 0 R (met,0)).1 (YA q op 0 R (met,0)).2 a).2:=fun d a e=>
   JD j n (q.longer d) _ _ a (by show 7<=n+(q.d+1);omega) (by show q.d+1<=6;omega) (Q4 b e k)
  have f:=Dd (fun d a=>Mb R n _ _ _ a) p 10 g (G _);refine⟨⟨b,fun d e=>(f d e).1⟩,fun c h=>?_⟩
  have e:IY c q.d<10:=by unfold IY;omega
  exact(f _ e).2 c ((CH b).2 h)
theorem SV {a b}(h:a=b):Ending.returned (y5 a)=E (y5 b):=by rw[h]
theorem has_eq (s i:Nat)(c:s<256):(bits BinOp.and x9 ((s:Int)/2^i) 1 !=0)=s.testBit i:=by
 have e:((s:Int)/2^i)=((s/2^i:Nat):Int):=by simp
 have b:s/2^i<=s:=x6 _ _;have a:=bits_and_u64_nat (s/2^i) 1 (by omega) (by omega);rw[e];rw[show((1:Nat):Int)=(1:Int)from rfl]at a;rw[a];unfold Nat.testBit;rw[Nat.shiftRight_eq_div_pow,Nat.and_comm]
 have:∀n:Nat,((n:Int) !=0)=(n !=0):=fun n=>by cases n<;>rfl
 exact this _
theorem xn (s i:Nat)(c:s<256)(hi:i<8):bits BinOp.or x9 (s:Int) (x9.wrap (2^i))=((s|||1<<<i:Nat):Int):=by
 have b:2^i<256:=by
  have:=q5 (a:=2) (by omega) hi
  simpa using this
 have e:x9.wrap (2^i)=((2^i:Nat):Int):=by
  rw[show((2:Int)^i)=((2^i:Nat):Int)from by simp];generalize 2^i=y at b;exact IntWalk.u64_in _ (by omega)
 rw[e,bits_or_u64_nat s (2^i) (by omega) (by omega),y9,j1]
theorem ww (s i)(c:s<256)(hi:i<8):s|||1<<<i<256:=by
 have b:1<<<i<2^8:=by
  rw[y9,j1];exact q5 (a:=2) (by omega) hi
 exact Nat.or_lt_two_pow (n:=8) (by omega) b
theorem De (s i:Nat)(w)(a:s<256)(hi:i<8):
  z9 O 145 #[V .u64 s,V Y i] w fun e w'=>e=E (y5 (s.testBit i))/\w'=w:=by
 have b:(0:Int)<=(i:Int):=by omega
 have c:(0:Int)<=(s:Int):=by omega
 have d:(s:Int)<256:=by omega
 go_enter Tryz.func145,Tryz.ntmps145;go_wp2;go_ret;exact⟨SV (has_eq s i a),rfl⟩
theorem AZ (s i:Nat)(w)(a:s<256)(hi:i<8):
  z9 O 147 #[V .u64 s,V Y i] w fun e w'=>e=E (V .u64 (s|||1<<<i:Nat))/\w'=w:=by
 have b:(0:Int)<=(i:Int):=by omega
 have c:(0:Int)<=(s:Int):=by omega
 have d:(s:Int)<256:=by omega
 go_enter Tryz.func147,Tryz.ntmps147;go_wp2;go_ret;exact⟨ZP (xn s i a hi),rfl⟩
def PQ (w:z5)(b c d a x:Nat):Prop:=
 w.cell? ⟨b,0,I⟩=S (V Y c)/\w.cell? ⟨b,1,I⟩=S (V Y d)/\w.cell? ⟨b+1,0,I⟩=S (V Y a)/\w.cell? ⟨b+1,1,I⟩=S (V Y x)/\∀o,w.frozen? ⟨b+1,o,I⟩=false
theorem PQ.less {w b c d a x}(h:PQ w b c d a x)(k:0<a):PQ ((w.setCell ⟨b+1,0,I⟩ (V Y ((a:Int)-1))).setCell ⟨b+1,1,I⟩ (V Y ((x:Int)/10))) b c d (a-1) (x/10):=by
 obtain⟨e,f,g,i,j⟩:=h;refine⟨?_,?_,?_,?_,fun o=>by simp[j o]⟩
 ·rw[cO _ _ _ _ (by simp),cO _ _ _ _ (by simp)];exact e
 ·rw[cO _ _ _ _ (by simp),cO _ _ _ _ (by simp)];exact f
 ·rw[cO _ _ _ _ (by simp),cS _ _ _ g,show((a-1:Nat):Int)=(a:Int)-1 from by omega]
 rw[cS _ _ _ (by rw[cO _ _ _ _ (by simp)];exact i),show((x/10:Nat):Int)=(x:Int)/10 from by omega]
def VX (p:Z5):q3:=x7 #[V Y p.d,V Y p.x]
theorem FJ (p)(k:Nat)(w)(a:p.d<=6)(b:p.x<=1000000)(c:k<10):
  z9 O 149 #[VX p,V Y k] w fun e w'=>e=E (VX (p.longer k))/\Below w.heap.size w w':=by
 unfold VX Z5.longer;obtain⟨d,x⟩:=p;simp only at*;go_enter Tryz.func149,Tryz.ntmps149;go_wp2;refine bodyPost_ret (v:=x7 #[V Y ((d:Int)+1),V Y ((x:Int)*10+(k:Int))]) (by simp[results,Tryz.results149,go_sem]) rfl ⟨by go_num,?_⟩;exact((Below.refl _ _).alloc (G _) _).alloc (by simp) _
theorem CI (p q w)(hp:p.d<=6)(hq:q.d<=6)(R:q.x<=1000000)(hy:p.x<=1000000):
  z9 O 186 #[VX p,VX q] w fun e w'=>e=E (y5 (p.holds q))/\Below w.heap.size w w':=by
 unfold VX;obtain⟨c,r⟩:=p;obtain⟨g,s⟩:=q;simp only at*;go_enter Tryz.func186,Tryz.ntmps186;go_wp2_with fail;obtain⟨v,l,i⟩:=Ih w (L #[V Y c,V Y r] 181) (L #[V Y g,V Y s] 181);generalize(w.alloc _).alloc _=W at*;obtain⟨b,D⟩:∃b,w.heap.size=b:=⟨_,rfl⟩;rw[D]at l i ⊢;have S:=Za D;have T:U (Fr (fun k=>b<=k) w W):=v.mono;have X:U (PQ W b c r g s):=⟨Zc l 0,Zc l 1,Zc i 0,Zc i 1,fun o=>bF i o⟩;clear v l i D
 go_loopg [] 7 (fun m wr=>∃j,j<=g/\(j=0\/c<=g-j)/\j+m=7/\U (Fr (fun k=>b<=k) w wr)/\U (PQ wr b c r (g-j) (s/10^j)))
 case atStart=>exact⟨0,z3 _,H rfl,rfl,T,by have:=X.o;show PQ _ _ _ _ _ _;simpa using this⟩
 obtain⟨j,hj,Z,hm,y,t⟩:=hrel;obtain⟨a,F⟩:∃a,g-j=a:=⟨_,rfl⟩;obtain⟨x,n⟩:∃x,s/10^j=x:=⟨_,rfl⟩
 have a0:x<=1000000:=by rw[<-n];exact A (x6 _ _) R
 have N:=Za n;have f:=Za F;rw[F,n]at t
 have b0:a<=6:=by omega
 obtain⟨c0,c1,d0,d1,fz⟩:=t.o;clear F n;by_cases e0:c<a
 ·have z:(c:Int)<(a:Int):=by omega
  have P:=t.o.less (by omega);have J:=Za P;clear P;go_wp2;go_roundg (7-(j+1))
  case measure=>omega
  refine⟨j+1,by have:=f.o;omega,K (by have:=f.o;omega),by omega,(y.o.setCell (p:=⟨b+1,0,I⟩) (H (by show b<=b+1;omega)) _).setCell (p:=⟨b+1,1,I⟩) (H (by show b<=b+1;omega)) _,?_⟩
  have B:g-(j+1)=a-1:=by have:=f.o;omega
  have C:s/10^(j+1)=x/10:=by rw[<-N.o,Y5,x8]
  rw[B,C];exact J
 have z:¬(c:Int)<(a:Int):=by omega
 have M:U (Z5.holds ⟨c,r⟩ ⟨g,s⟩=(decide (a=c)&&decide (x=r))):=by
  show _=_
  unfold Z5.holds;simp only;rcases y6 g c with Q|Q
  ·rw[decide_eq_false (by omega:¬c<=g),decide_eq_false (by have:=f.o;omega:¬a=c)]
   simp
  have e:a=c:=by have:=f.o;omega
  rw[decide_eq_true Q,decide_eq_true e,<-N.o,show j=g-c from by have:=f.o;omega]
  by_cases h:s/10^(g-c)=r<;>simp[h]
 have u:=Za (y.o.below (G _) (fun k hk=>by have:=S.o;omega));by_cases B:a=c
 ·subst B
  by_cases C:x=r
  ·subst C
   go_wp2_with fail;go_ret;exact⟨SV (by rw[M.o];simp),u.o⟩
  have ex:((x:Int)==(r:Int))=false:=by simp;omega
  go_wp2_with fail;go_ret;exact⟨SV (by rw[M.o];simp[C]),u.o⟩
 have ea:((a:Int)==(c:Int))=false:=by simp;omega
 go_wp2_with fail;go_ret;exact⟨SV (by rw[M.o];simp[B]),u.o⟩
open Go.Shelf
attribute [local go_sem] Oper.semAt_some
theorem LE (w:z5)(o):w.grownBy (w.alloc o) I:=by
 have f:=(Fr.refl (fun _=>False) w).alloc o;exact⟨f.os,f.tape,f.output,f.size,fun k a _=>f.block k a (by simp)⟩
abbrev SW:={p:Z5//p.d<=6/\p.x<=1000000}
theorem CJ (D lo hi:Nat)(w):
  z9 O 185 #[V Y D,x7 #[V Y lo,V Y hi]] w fun e w'=>e=E (.func (.func 221) #[] #[Z (S ⟨w.heap.size+1,0,I⟩),Z (S ⟨w.heap.size,0,I⟩)])/\w'=(w.alloc (L #[V Y D] 3)).alloc (L #[V Y lo,V Y hi] 118):=by
 have a:∀(fn:Fn)(first cap:Array q3)(w:z5),(Instr.makeFunc fn first cap).run O w=.ok (.func fn first cap) w:=fun _ _ _ _=>rfl
 go_enter Tryz.func185,Tryz.ntmps185;go_wp2;go_ret;exact⟨rfl,rfl⟩
set_option maxRecDepth 100000 in
theorem CK (n l Bs Bd F D lo hi C)(hD:D<=6)(v0:lo<=1000000)(f0:hi<10^D)(w0:C.map Subtype.val=YS D lo hi)(J Jx:List SW->z5->Prop)(W)(hJ:AbidesFrom W.heap.size J)(hY:∀pre x H,J pre H->pre.length<C.length->YieldAt Fence.wide (n-1) O l #[VX x.1] H fun e B=>
      (e=E (y5 true)/\J (pre++[x]) B/\Below F H B)\/(e=E (y5 false)/\Jx (pre++[x]) B))(g0:F<=W.heap.size)(K:Bs<F)(x0:Bd<F)(h0:W.cell? ⟨Bs,0,I⟩=S (V Y lo))(h1:W.cell? ⟨Bs,1,I⟩=S (V Y hi))(h2:W.cell? ⟨Bd,0,I⟩=S (V Y D))(hj:J [] W):
    CallsIn Fence.wide n O 221 #[.func (.yield l) #[] #[],Z (S ⟨Bs,0,I⟩),Z (S ⟨Bd,0,I⟩)] W fun e B=>(∃v,e=E v)/\
      ((∃ys,ys=C/\J ys B)\/(∃pre,pre<+:C/\Jx pre B)):=by
  refine callsIn_wide.2 ?_;go_enter Tryz.func221,Tryz.ntmps221;have HJ:=Za hJ
  have HY:U (∀pre x H,J pre H->pre.length<C.length->YieldAt Fence.wide (n-1) O l #[VX x.1] H fun e B=>
      (e=E (y5 true)/\J (pre++[x]) B/\Below F H B)\/(e=E (y5 false)/\Jx (pre++[x]) B)):=hY
  have y0:=Za w0;have HC:U (W.cell? ⟨Bs,1,I⟩=S (V Y hi)/\W.cell? ⟨Bd,0,I⟩=S (V Y D)):=⟨h1,h2⟩;have i0:=Za f0;have K0:hi<1000000:=nL f0 (Nat.pow_le_pow_right (n:=10) (by omega) hD);go_wp2_with fail
  go_loopg [4] (hi+1-lo) (fun m lw wr=>∃(pre f:List SW)(b:Nat),lw=V Y (b:Nat)/\b<=1000000/\hi+1-b<=m/\U (C=pre++f)/\U (f.map Subtype.val=Yp D hi m b)/\U (J pre wr)/\U (Below F W wr)/\U (W.heap.size<=wr.heap.size))
  case atStart=>exact⟨[],C,lo,rfl,v0,by omega,rfl,y0,hj,Below.refl _ _,G _⟩
  obtain⟨pre,f,b,rfl,j0,hm,HX,HR,k0,HB,z0⟩:=hrel;obtain⟨M,hM⟩:∃M,M=gk:=⟨_,rfl⟩;subst hM;have c1:=(HB.o.cell (p:=⟨Bs,1,I⟩) K).trans HC.o.1;have c2:wr.cell? ⟨Bd,0,I⟩=S (V Y D):=(HB.o.cell (p:=⟨Bd,0,I⟩) x0).trans HC.o.2;by_cases l0:b<=hi
  · have m0:(b:Int)<=(hi:Int):=by omega
    have c3:(wr.alloc (L #[V Y 0,V Y 0] 181)).cell? ⟨Bd,0,I⟩=S (V Y D):=by rw[World.cell?_alloc_some _ _ _ (by simp[c2])];exact c2
    go_wp2_with fail
    go_region
    have A0:U (J pre wr.drew):=HJ.o pre wr wr.drew I k0.o ⟨rfl,rfl,rfl,G _,fun _ _ _=>rfl⟩ (fun _ e=>by cases e);have B0:U (Below F W wr.drew):=HB.o.drew;have C0:U (W.heap.size<=wr.drew.heap.size):=z0.o;have N:(wr.alloc (L #[V Y D,V Y b] 181)).drew=wr.drew.alloc (L #[V Y D,V Y b] 181):=rfl;rw[N];obtain⟨P,hP⟩:∃P,wr.heap.size=P:=⟨_,rfl⟩;have D0:U (wr.drew.heap.size=P):=hP;rw[hP];generalize wr.drew=Wd at*;go_wp2_with fail
    go_loopg [5] 9 (fun m sz wq=>∃(k:Nat)(i:z5),k+m=9/\sz=V Y ((10^k:Nat):Int)/\U (Sy b hi m k=SH b hi)/\U (xm b hi k)/\U (J pre i)/\U (Below F W i)/\U (W.heap.size<=i.heap.size)/\U (i.heap.size=P)/\U (wq=i.alloc (L #[V Y ((D-k:Nat):Int),V Y ((b/10^k:Nat):Int)] 181)))
    case atStart=>exact⟨0,Wd,rfl,rfl,rfl,⟨by simp,by simp;omega⟩,A0,B0,C0,D0,by show _=_;simp⟩
    obtain⟨k,i,L0,rfl,n0,g,o0,j,q,E0,F0⟩:=hrel;have eW:=F0.o;subst eW;have eP:=E0.o;subst eP;have M0:k<=6:=Sf (by have:=g.o.2;show 10^k<=1000000;omega);have N0:k<=D:=Sf (by have:=g.o.2;have:=i0.o;omega);obtain⟨y,hy⟩:∃y,10^k=y:=⟨_,rfl⟩;obtain⟨z,hz⟩:∃z,b/10^k=z:=⟨_,rfl⟩;obtain⟨a,ha⟩:∃a,D-k=a:=⟨_,rfl⟩;have d:=Za hy;have s:=Za hz;have Q:=Za ha
    have O0:y<=1000000:=by have:=g.o.2;omega
    have P0:z<=1000000:=by rw[<-hz];exact A (x6 _ _) j0
    have Q0:a<=6:=by omega
    rw[hz,ha];rw[hy];have c1:(i.alloc (L #[V Y a,V Y z] 181)).cell? ⟨Bs,1,I⟩=S (V Y hi):=((j.o.cell (p:=⟨Bs,1,I⟩) K).trans HC.o.1)▸(World.cell?_alloc_some _ _ _ (by rw[(j.o.cell (p:=⟨Bs,1,I⟩) K),HC.o.1];simp));by_cases hc:z % 10=0/\b+y*10<=hi+1
    · have G0:((z:Int)% 10==0)=true:=by simp;omega
      have p0:(b:Int)+(y:Int)*10-1<=(hi:Int):=by omega
      have R:=Za (HJ.o pre i i.drew I o0.o ⟨rfl,rfl,rfl,G _,fun _ _ _=>rfl⟩ (fun _ e=>by cases e))
      have R0:1<=a:=by
        have h1:=g.o.2
        have h2:10^(k+1)<=10^D:=by rw[z7,d.o];have:=i0.o;omega
        have:=Sf h2;have:=Q.o;omega
      go_wp2_with fail
      go_region
      go_wp2_with fail;go_roundg (8-k)
      case measure=>omega
      refine⟨k+1,i.drew,by omega,?_,?_,?_,R,j.o.drew,q,rfl,?_⟩
      · rw[z7,d.o];go_num
      · have e:=n0.o
        obtain⟨g1,H0⟩:∃g1,gk=g1+1:=⟨8-k,by omega⟩;rw[H0]at e;unfold Sy at e;rw[if_pos ⟨by rw[s.o];exact hc.1,by rw[z7,d.o];exact hc.2⟩]at e
        show _=_
        rw[show 8-k=g1 from by omega];exact e
      · exact IV g.o (by rw[s.o];exact hc.1) (by rw[z7,d.o];exact hc.2)
      have e1:((D-(k+1):Nat):Int)=(a:Int)-1:=by have:=Q.o;omega
      have e2:((b/10^(k+1):Nat):Int)=(z:Int)/10:=by rw[Y5,s.o,x8];omega
      show _=_
      rw[e1,e2];rfl
    have HK:U (SH b hi=k):=by
      have e:=n0.o
      show _=_
      rw[<-e]
      cases gk with
      |zero=>rfl
      |succ g1=>unfold Sy;rw[if_neg (by rw[s.o,z7,d.o];exact hc)]
    obtain⟨x,c,t,hx,q0⟩:∃(x:SW)(c:List SW),U (f=x::c)/\x.1=⟨a,z⟩/\U (c.map Subtype.val=Yp D hi (M-1) (b+y)):=by
      have e:=HR.o;obtain⟨M',r0⟩:∃M',M=M'+1:=⟨M-1,by omega⟩;rw[r0]at e;unfold Yp at e;rw[if_pos l0,HK.o,s.o,d.o,Q.o]at e
      cases f with
      |nil=>simp at e
      | cons x r=>
        simp only[List.map_cons,List.cons.injEq]at e;exact⟨x,r,rfl,e.1,by rw[r0,Nat.add_sub_cancel];exact e.2⟩
    have R:U (J pre (i.alloc (L #[V Y a,V Y z] 181))):=HJ.o pre i _ I o0.o (LE i _) (fun _ e=>by cases e);obtain⟨fn,tmps,t0,body,T,hR⟩:=HY.o pre x _ R.o (by rw[HX.o,t.o];simp);rw[hx]at T;unfold VX at T;simp only at T;have s0:=Za hR;by_cases G0:z % 10=0
    · have I0:((z:Int)% 10==0)=true:=by simp;omega
      have p0:¬(b:Int)+(y:Int)*10-1<=(hi:Int):=by omega
      go_upto_region 5 with fail;refine(wpIn_wide (n:=n)).1 ?_
      gi_wp2
      refine⟨fun h=>(by cases h),s0.o.mono ?_⟩;rintro e W3 (⟨rfl,X,u⟩|⟨rfl,w⟩)
      · have a0:=Za X
        have b0:=Za ((j.o.alloc (A g0 q.o) _).trans u);have c0:=Za (A q.o (A (by simp) u.size))
        gi_wp2
        go_wp2_with fail;go_roundg (M-1)
        case measure=>omega
        exact⟨pre++[x],c,b+y,by go_num,by have:=g.o.2;have:=d.o;omega,by have:0<y:=by{have:=d.o;have:0<10^k:=z8 (by omega);omega};omega,by show _=_;rw[HX.o,t.o];simp,q0,a0,b0,c0⟩
      have d0:=Za w
      gi_wp2
      go_wp2_with fail;refine bodyPost_ret (results_none rfl _ _ _) rfl ?_;exact⟨⟨_,rfl⟩,.inr ⟨pre++[x],⟨c,by rw[HX.o,t.o];simp⟩,d0.o⟩⟩
    have I0:((z:Int)% 10==0)=false:=by simp;omega
    go_upto_region 5 with fail;refine(wpIn_wide (n:=n)).1 ?_
    gi_wp2
    refine⟨fun h=>(by cases h),s0.o.mono ?_⟩;rintro e W3 (⟨rfl,X,u⟩|⟨rfl,w⟩)
    · have a0:=Za X
      have b0:=Za ((j.o.alloc (A g0 q.o) _).trans u);have c0:=Za (A q.o (A (by simp) u.size))
      gi_wp2
      go_wp2_with fail;go_roundg (M-1)
      case measure=>omega
      exact⟨pre++[x],c,b+y,by go_num,by have:=g.o.2;have:=d.o;omega,by have:0<y:=by{have:=d.o;have:0<10^k:=z8 (by omega);omega};omega,by show _=_;rw[HX.o,t.o];simp,q0,a0,b0,c0⟩
    have d0:=Za w
    gi_wp2
    go_wp2_with fail;refine bodyPost_ret (results_none rfl _ _ _) rfl ?_;exact⟨⟨_,rfl⟩,.inr ⟨pre++[x],⟨c,by rw[HX.o,t.o];simp⟩,d0.o⟩⟩
  have m0:¬(b:Int)<=(hi:Int):=by omega
  have J0:U (pre=C):=by
    have e:=HR.o
    have e2:Yp D hi M b=[]:=by cases M with
      |zero=>rfl
      |succ M'=>unfold Yp;rw[if_neg l0]
    rw[e2]at e;have:f=[]:=List.map_eq_nil_iff.1 e
    show _=_
    rw[HX.o,this];simp
  go_wp2_with fail
  go_end0
  have e0:=k0.o;rw[J0.o]at e0;exact⟨⟨_,rfl⟩,.inl (by first|exact e0|exact⟨C,rfl,e0⟩)⟩
