import Derived.Test.YtccikgogjfbpeaaGreatDoorQp
import Derived.Maps.AppendAt
open Option renaming none->I,some->J
open Go.Value renaming string->P,int->Y,slice->E,ownBlock->B
open Go.RowKit renaming Hid->V
open Go renaming World->Z,Value->D
open Nat renaming le_refl->U,zero_add->H
open List renaming getElem?_append_left->K
open _root_.ByteArray renaming empty->O
namespace Go.Proofs.YtccikgogjfbpeaaGreatDoor
set_option maxRecDepth 30000
set_option maxHeartbeats 8000000
open Go.RowKit
theorem Tc (g o k:Nat):(⟨g,o,I⟩:Addr).add k=⟨g,o+k,I⟩:=by unfold Addr.add;split<;>simp_all
def C2:V5->Nat
 | .rules=>15
 | .amounts=>4
 | .mccs| .curs| .ints| .names| .action=>3
 |_=>1
def C3:List V5->Prop
 |[]=>True
 |y::r=>C2 y+r.length<=15/\(∀m,y=.lit m->m∈YO)/\C3 r
theorem Eu {y:V5}{r:List V5}(a:C2 y+r.length<=15)(b:∀m,y=.lit m->m∈YO)(c:C3 r):C3 (y::r):=⟨a,b,c⟩
theorem M3 {y:V5}{r l:List V5}{t:Tk}(h:C3 (y::r))(a:Zm y t=J l):C3 (l++r):=by
 obtain⟨b,d,c⟩:=h
 cases y<;>simp only[Zm]at a
 all_goals first|(injection a with a)|(cases a;done)
 all_goals subst a
 all_goals repeat' split
 all_goals simp only[U7,TS,List.cons_append,List.nil_append]
 all_goals simp only[C2]at b
 all_goals repeat' (apply Eu)
 all_goals first|exact c|(simp only[C2,List.length_cons];omega)|(intro m e;cases e;done)|(intro m e;cases e;simp[YO])
theorem DY {a:List V5}(h:C3 a):a.length<=15:=by
 cases a with
 |nil=>simp
 |cons y r=>
  have b:=h.1
  have:1<=C2 y:=by cases y<;>simp[C2]
  simp;omega
theorem P8:∀(ts:List Tk)(j:Nat)(t:Tk),ts[j]?=J t->(WX ts)[j*3]?=J (P t.text)/\(WX ts)[j*3+1]?=J (Y .u8 (Uk t))/\(WX ts)[j*3+2]?=J (Y .i64 t.line)
 |[],j,t,h=>by simp at h
 |x::r,0,t,h=>by simp at h;subst h;exact⟨rfl,rfl,rfl⟩
 |x::r,j+1,t,h=>by
  have:=P8 r j t (by simpa using h)
  have e:WX (x::r)=Vw x++WX r:=by simp[WX]
  have l:(Vw x).length=3:=rfl;rw[e];refine⟨?_,?_,?_⟩
  ·rw[aR (by omega),l,show(j+1)*3-3=j*3 from by omega];exact this.1
  ·rw[aR (by omega),l,show(j+1)*3+1-3=j*3+1 from by omega];exact this.2.1
  ·rw[aR (by omega),l,show(j+1)*3+2-3=j*3+2 from by omega];exact this.2.2
def CJ (w:Z)(g:Nat)(ts:List Tk):Prop:=∀j t,ts[j]?=J t->w.cell? ⟨g,j*3,I⟩=J (P t.text)/\w.cell? ⟨g,j*3+1,I⟩=J (Y .u8 (Uk t))/\w.cell? ⟨g,j*3+2,I⟩=J (Y .i64 t.line)
theorem CJ.fr {w w':Z}{g:Nat}{ts:List Tk}{S:Nat->Prop}(h:CJ w g ts)(a:Fr S w w')(b:g<w.heap.size)(c:¬S g):CJ w' g ts:=fun j t d=>
 ⟨(a.cell (p:=⟨g,j*3,I⟩) b c).trans (h j t d).1,(a.cell (p:=⟨g,j*3+1,I⟩) b c).trans (h j t d).2.1,(a.cell (p:=⟨g,j*3+2,I⟩) b c).trans (h j t d).2.2⟩
theorem RL {w:Z}{base:Nat}{v:D}{ts:List Tk}(h:w.ownsRow base 166 3 v ts.length (WX ts)):
  ∃a c,v=E a ts.length c/\(0<ts.length->∃g,a=J ⟨g,0,I⟩/\base<=g/\g<w.heap.size/\CJ w g ts):=by
 obtain⟨a,c,e⟩:=oL h;refine⟨a,c,e,fun l=>?_⟩;obtain⟨g,cap,i,m,n⟩:=h.form l;rw[e]at i;injection i with o _ p;subst o p;subst e;refine⟨g,rfl,m,n,fun j t q=>?_⟩;obtain⟨a,b,c⟩:=P8 ts j t q
 have d:∀k,(⟨g,0,I⟩:Addr).add k=⟨g,k,I⟩:=fun k=>by unfold Addr.add;split<;>simp_all
 have f:=h.cells (g:=g) rfl;exact⟨by have:=f _ _ a;rwa [d]at this,by have:=f _ _ b;rwa [d]at this,by have:=f _ _ c;rwa [d]at this⟩
def Wt (w:Z)(base:Nat)(v:D)(b:List V5):Prop:=
 ∃a c,v=E a b.length c/\b.length<=c/\(0<b.length->∃g o,a=J ⟨g,o,I⟩/\base<=g/\g<w.heap.size/\∀j u,(Z0 b)[j]?=J u->w.cell? ⟨g,o+j,I⟩=J u)
theorem Wt.fr {w w':Z}{base:Nat}{v:D}{d:List V5}(h:Wt w base v d)(f:F0 w w'):Wt w' base v d:=by
 obtain⟨a,c,e,k,h⟩:=h;refine⟨a,c,e,k,fun l=>?_⟩;obtain⟨g,o,m,n,i,b⟩:=h l;exact⟨g,o,m,n,nL i f.size,fun j u q=>(f.cell (p:=⟨g,o+j,I⟩) i (by simp)).trans (b j u q)⟩
theorem Wt.of_row {w:Z}{base:Nat}{v:D}{b:List V5}(h:w.ownsRow base 9 1 v b.length (Z0 b)):Wt w base v b:=by
 rcases h.2 with⟨rfl,i⟩|⟨g,cap,l,rfl,_⟩
 ·exact⟨I,0,by rw[i],by omega,fun d=>by omega⟩
 ·refine⟨_,_,rfl,?_,fun d=>?_⟩
  ·rename_i m
   exact m.2.2.1
  ·obtain⟨n,f,e,o,p⟩:=h.form d
   injection e with c s t
   have q:g=n:=by injection c with c;injection c
   subst q
   have a:∀k,(⟨g,0,I⟩:Addr).add k=⟨g,k,I⟩:=fun k=>by unfold Addr.add;split<;>simp_all
   refine⟨g,0,rfl,o,p,fun j u r=>?_⟩;have:=h.cells (g:=g) rfl j u r;rw[a]at this;rw[H];exact this
theorem Pj:(Tryz.prog.info? 9).map (fun i=>(i.zero,i.size,i.bytes))=J (J (P O),1,16):=by kernel_rfl
def WT (ts:List Tk)(r:Option Nat):Int:=
 match r with
 |none=>0
 |some j=>if(Zs ts j).sort=3 then-1 else((Zs ts j).line:Int)
theorem RM (y:V5)(t:Tk)(T:ByteArray)(a b:Int)(w:Z)(c:∀m,y=.lit m->m∈YO)(d:Vh t)(e:T=t.text):
  Calls Tryz.prog 130 #[P (Rb y),.agg #[P T,Y .u8 a,Y .i64 b]] w (Y5 (Zm y t) w):=by
 subst e;exact L4 y t a b w c d
theorem BO (t:Tk):(Uk t==110)=decide (t.sort=0):=by
 unfold Uk;by_cases a:t.sort=0
 ·simp[a]
 ·by_cases b:t.sort=1
  ·simp[b]
  ·by_cases c:Xh t.text=true<;>simp[a,b,c]
theorem CK (t:Tk):(Uk t==105)=decide (t.sort=1):=by
 unfold Uk;by_cases a:t.sort=0
 ·simp[a]
 ·by_cases b:t.sort=1
  ·simp[b]
  ·by_cases c:Xh t.text=true<;>simp[a,b,c]
theorem BP (t:Tk):(Uk t==101)=false:=by
 unfold Uk;by_cases a:t.sort=0
 ·simp[a]
 ·by_cases b:t.sort=1
  ·simp[b]
  ·by_cases c:Xh t.text=true<;>simp[a,b,c]
theorem Pz {t:ByteArray}{a:UInt8}{l:List UInt8}(h:Zv t 0≠(a.toNat:Int)):((a::l)==t.toList)=false:=by
 rw[Bool.eq_false_iff];intro e
 have b:a::l=t.toList:=by simpa using e
 rw[ByteArray.toList_eq]at b;apply h;unfold Zv;rw[<-b];rfl
theorem P9:∀m,m∈YO->(m.data.toList==[78,65,77,69])=false/\(m.data.toList==[73,78,84])=false:=by decide
theorem Ev {t:Tk}(h:Vh t){m T:ByteArray}(a:m∈YO)(b:T=t.text):(m.toList==T.toList)=Zq t m:=by
 rw[h m a,b,Bool.eq_iff_iff];simp only[beq_iff_eq];exact eq_comm
theorem Wt.pop1 {w:Z}{base g o n:Nat}{y:V5}{c:List V5}(d:(y::c).length=n)(f:n<=1):Wt w base (E (J ⟨g,o,I⟩) (n-1) 0) c:=by
 have e:c=[]:=by
  cases c with
  |nil=>rfl
  |cons a b=>simp at d;omega
 subst e;exact⟨_,0,by simp at d;subst d;rfl,by simp,fun h=>by simp at h⟩
theorem Wt.pop {w:Z}{base g o n c:Nat}{y:V5}{a:List V5}(d:(y::a).length=n)(k:n<=c)(f:base<=g)(h:g<w.heap.size)(b:∀j u,(Z0 (y::a))[j]?=J u->w.cell? ⟨g,o+j,I⟩=J u):Wt w base (E (J ⟨g,o+1,I⟩) (n-1) (c-1)) a:=by
 have e:n-1=a.length:=by simp at d;omega
 exact⟨_,c-1,by rw[e],by omega,fun _=>⟨g,o+1,rfl,f,h,fun j u i=>by rw[show o+1+j=o+(j+1)from by omega];exact b (j+1) u (by simpa[Z0]using i)⟩⟩
theorem DZ {y:V5}{c:List V5}{n:Nat}(d:(y::c).length=n)(h:n<=1):Z0 c=[]:=by
 cases c with
 |nil=>rfl
 |cons a b=>simp at d;omega
theorem Ew {y:V5}{t:Tk}(h:Uw y t=true):¬t.sort=3:=fun e=>by cases y<;>simp[Uw,Zq,e]at h
theorem I2 {wr a:Z}{T:ByteArray}{b c:Int}(e:wr.alloc (.cells #[P T,Y .u8 b,Y .i64 c] 166)=a):a.cell? ⟨wr.heap.size,0,I⟩=J (P T)/\a.cell? ⟨wr.heap.size,1,I⟩=J (Y .u8 b)/\a.cell? ⟨wr.heap.size,2,I⟩=J (Y .i64 c)/\F0 wr a/\a.heap.size=wr.heap.size+1:=by
 subst e;have h:=aN wr (.cells #[P T,Y .u8 b,Y .i64 c] 166);exact⟨bC h 0 _ rfl,bC h 1 _ rfl,bC h 2 _ rfl,(Fr.refl _ _).alloc _,by simp⟩
theorem Ex (w:Z)(base:Nat)(v:D)(body:List Tk)(en:Tk)(I0:en.sort=3/\en.text=O)(h:w.ownsRow base 166 3 v body.length (WX body))(hb:∀t,t∈body->LS t)(k1:body.length<=3000)
  (N:Nat)(r:Option Nat)(s0:YG (body++[en]) N [.rules] 0=J r):
  Calls Tryz.prog 79 #[v] w fun e w'=>e=.returned (Y .i64 (WT (body++[en]) r))/\F0 w w':=by
 obtain⟨ii,hi,v0,w0,x0⟩:=info_parts Pj;obtain⟨av,cv,rfl,J0⟩:=RL h;have K0:=Za J0;have HB:=Za hb;have HE:=Za I0;have L0:=Za s0;clear h J0 hb I0 s0;go_enter Tryz.func79,Tryz.ntmps79;go_wp2_with fail
 go_loopg [3,4] N (fun m o i wr=>∃st k,i=Y .i64 (k:Nat)/\k<=body.length/\V (C3 st)/\V (YG (body++[en]) m st k=J r)/\V (Wt wr w.heap.size o st)/\V (F0 w wr))
 case atStart=>
  have G:=aN w (.cells #[P ⟨#[114,117,108,101,115]⟩] 9);refine⟨[.rules],0,rfl,Nat.zero_le _,⟨by simp[C2],fun m e=>by(cases e),trivial⟩,L0.o,⟨_,_,rfl,by simp,fun _=>⟨w.heap.size,0,rfl,U _,by simp,fun j u F=>?_⟩⟩,(Fr.refl _ _).alloc _⟩;rw[H];exact bC G j _ (by simpa[Z0,Rb]using F)
 case round=>
  obtain⟨st,k,rfl,hk,q,HR,HW,HF⟩:=hrel;have o1:=HF.o.size
  cases st with
  |nil=>
   obtain⟨a,c,rfl,hc,d⟩:=HW.o
   have e0:(if(Zs (body++[en]) k).sort=3 then I else J k)=r:=by
    have e:=HR.o;rw[UO]at e;injection e
   clear d HW;simp only[List.length_nil]at hc ⊢;by_cases L:k<body.length
   ·obtain⟨gv,rfl,W0,y0,s⟩:=K0.o (by omega)
    obtain⟨t,ht⟩:∃t,body[k]?=J t:=⟨_,gE L⟩;obtain⟨r0,r1,r2⟩:=(s.fr HF.o y0 (by simp)) k t ht
    have Uq:Zs (body++[en]) k=t:=by
     unfold Zs;rw[gD,K L,ht];rfl
    have z0:=(HB.o t (mG ht)).2.2.1;rw[Uq,if_neg z0]at e0
    have HA:V (WT (body++[en]) r=t.line):=by show _=_;rw[<-e0];simp only[WT];rw[Uq,if_neg z0]
    have A0:(k:Int)<(body.length:Int):=by omega
    clear s ht Uq z0 e0;go_wp2;go_ret;exact⟨ZH HA.o.symm,HF.o⟩
   ·have Uq:Zs (body++[en]) k=en:=by
     unfold Zs;rw[gD,aR (by omega),show k-body.length=0 from by omega];rfl
    rw[Uq,if_pos HE.o.1]at e0
    have HA:V (WT (body++[en]) r=0):=by show _=_;rw[<-e0];rfl
    have A0:¬(k:Int)<(body.length:Int):=by omega
    clear Uq e0;go_wp2;go_ret;exact⟨ZH HA.o.symm,HF.o⟩
  |cons y rest=>
   obtain⟨m,rfl⟩:∃m,gk=m+1:=by
    cases gk with
    |zero=>exact absurd HR.o (by simp[YG])
    |succ m=>exact⟨m,rfl⟩
   obtain⟨a,c,rfl,hc,d⟩:=HW.o;obtain⟨g,o,rfl,X0,hg,B0⟩:=d (by simp);have c0:wr.cell? ⟨g,o,I⟩=J (P (Rb y)):=B0 0 _ rfl;have Y0:=Za B0;clear d B0 HW;obtain⟨n,G⟩:∃n,(y::rest).length=n:=⟨_,rfl⟩;rw[G]at hc ⊢
   have p1:(0:Int)<(n:Int):=by simp at G;omega
   obtain⟨t,ht⟩:∃t,Zs (body++[en]) k=t:=⟨_,rfl⟩;have R:=Za ht;rcases Nat.lt_or_ge k body.length with L|L
   case' inl=>
    obtain⟨gv,rfl,W0,y0,s⟩:=K0.o (by omega)
    have hG:body[k]?=J t:=by
     rw[<-ht];unfold Zs;rw[gD,K L,gE L];rfl
    obtain⟨r0,r1,r2⟩:=(s.fr (HF.o.alloc (.cells #[P ⟨#[]⟩,Y .u8 101,Y .i64 0] 166)) y0 (by simp)) k t hG
    have A0:(k:Int)<(body.length:Int):=by omega
    have S:=HB.o t (mG hG);have HL:=Za S.1;have M0:(([78,65,77,69]:List UInt8)==t.text.toList)=false:=Pz S.2.2.2.2.1;have N0:(([73,78,84]:List UInt8)==t.text.toList)=false:=Pz S.2.2.2.2.2;have f0:=BO t;have f1:=CK t
    have f3:(Uk t==101)=decide (t.sort=3):=by rw[BP t];simp[S.2.2.1]
    have W:V ((Uk t==101)=decide (t.sort=3)/\(Uk t !=101)=!decide (t.sort=3)):=⟨f3,by rw[bne,f3]⟩;clear f3;obtain⟨LN,M⟩:∃LN:Int,LN=t.line:=⟨_,rfl⟩;rw[<-M]at r2
    have O0:V (t.sort≠3->LN=t.line):=fun _=>M
    have C0:V (Uw y t=true->k+1<=body.length):=fun _=>L
    clear S M hG s ht;go_wp2_with fail;clear r0 r1 r2;generalize P0:t.text=T at*;generalize Uk t=KD at*;have l0:=Za P0.symm;clear P0;generalize e7:wr.alloc (.cells #[P T,Y .u8 KD,Y .i64 LN] 166)=w7 at*;obtain⟨b0,b1,b2,F7,Q0⟩:=I2 e7
   case' inr=>
    have A0:¬(k:Int)<(body.length:Int):=by omega
    have e:t=en:=by
     rw[<-ht];unfold Zs;rw[gD,aR (by omega),show k-body.length=0 from by omega];rfl
    have h1:=HE.o;rw[<-e]at h1
    have HL:V (Vh t):=by
     have e:t=⟨3,O,t.line⟩:=by
      cases t
      simp at h1;obtain⟨rfl,rfl⟩:=h1;rfl
     show Vh t
     rw[e];exact JB _
    obtain⟨T,hT⟩:∃T:ByteArray,T=⟨#[]⟩:=⟨_,rfl⟩;obtain⟨KD,hK⟩:∃KD:Int,KD=101:=⟨_,rfl⟩;obtain⟨LN,M⟩:∃LN:Int,LN=0:=⟨_,rfl⟩
    have M0:(([78,65,77,69]:List UInt8)==T.toList)=false:=by rw[hT];exact Pz (by decide)
    have N0:(([73,78,84]:List UInt8)==T.toList)=false:=by rw[hT];exact Pz (by decide)
    have l0:V (T=t.text):=hT.trans h1.2.symm
    have f0:(KD==110)=decide (t.sort=0):=by simp[hK,h1.1]
    have f1:(KD==105)=decide (t.sort=1):=by simp[hK,h1.1]
    have W:V ((KD==101)=decide (t.sort=3)/\(KD !=101)=!decide (t.sort=3)):=⟨by simp[hK,h1.1],by simp[hK,h1.1]⟩
    have O0:V (t.sort≠3->LN=t.line):=fun h=>absurd h1.1 h
    have C0:V (Uw y t=true->k+1<=body.length):=fun h=>by cases y<;>simp[Uw,Zq,h1.1]at h
    have HQ:=Za (And.intro hT (And.intro hK M));clear ht e h1 hT hK M;go_wp2_with fail;generalize e7:wr.alloc (.cells #[P ⟨#[]⟩,Y .u8 101,Y .i64 0] 166)=w7 at*;obtain⟨b0,b1,b2,F7,Q0⟩:=I2 e7;rw[<-HQ.o.1]at b0;rw[<-HQ.o.2.1]at b1;rw[<-HQ.o.2.2]at b2;clear HQ
   all_goals
    have H7:=Za (HF.o.trans F7);have c7:=F7.cell (p:=⟨g,o,I⟩) hg (by simp)|>.trans c0;have R0:=Za (fun j u F=>F7.cell (p:=⟨g,o+j,I⟩) hg (by simp)|>.trans (Y0.o j u F))
    have m0:g<w7.heap.size:=by omega
    have D0:wr.heap.size<w7.heap.size:=by omega
    clear c0 F7 e7 Q0
    cases n0:Zm y t with
    |some l=>
     have f:=Za n0;clear n0
     go_cut [6,7]from 11 to 74 (fun s6 s7 wx=>∃g2 c2,s6=E (J ⟨g2,0,I⟩) l.length c2/\s7=.bool true/\V (∀j u,(Z0 l)[j]?=J u->wx.cell? ⟨g2,j,I⟩=J u)/\V (F0 w7 wx)/\V (g2<wx.heap.size))
     case first=>
      go_region_with (go_at_call 130;refine(RM y t T KD LN _ q.o.2.1 HL.o l0.o).mono ?_;intro e w8 a0;obtain⟨⟨g2,c2,rfl,q1,a1,t0⟩,g0⟩:=(Y5.some f.o).1 a0;have b:V (F0 w7 w8):=((Fr.refl _ _).drew).trans g0;have h0:V (∀j u,(Z0 l)[j]?=J u->w8.cell? ⟨g2,j,I⟩=J u):=t0;clear g0 t0 a0)
      all_goals(go_wp2_with fail;go_meet;exact⟨g2,c2,rfl,rfl,h0,b,a1⟩)
     case rest=>
      obtain⟨g2,c2,rfl,rfl,h0,b,s1⟩:=hcut;have Q:=Za (H7.o.trans b.o)
      have o0:V (∀j u,(Z0 (y::rest))[j]?=J u->wc.cell? ⟨g,o+j,I⟩=J u):=fun j u F=>(b.o.cell (p:=⟨g,o+j,I⟩) m0 (by simp)).trans (R0.o j u F)
      have E0:g<wc.heap.size:=nL m0 b.o.size;have l1:=Q.o.size
      have m1:l.length+rest.length<=15:=by have:=DY (M3 q.o f.o);simpa using this
      go_wp2_with (at_builtin;refine wpList_append_own_at _ rfl (.tmp 32) (.tmp 33) 28 rfl w.heap.size 9 ii _ 1 16 Tryz.underlying28 hi v0 w0 x0 rfl (by decide) (E I 0 0) 0 [] rfl (oZ _ _ _ _) ⟨g2,0,I⟩ l.length c2 (Z0 l) rfl ?hl ?hnews ?h1 ?h63 ?hb ?hbase ?go)
      case hl=>simp[Z0]
      case hnews=>intro j u F;rw[Tc,H];exact h0.o j u F
      case h1=>intro u hu;simp[Z0]at hu;obtain⟨_,_,rfl⟩:=hu;rfl
      case h63=>unfold maxLen;omega
      case hb=>omega
      case hbase=>omega
      case go=>
       intro v1 w9 S0 G0 _ c1;have p0:=Za S0;have H0:=Za (Q.o.grown G0 (fun k hk=>by simp[B]at hk))
       have e1:V (∀j u,(Z0 (y::rest))[j]?=J u->w9.cell? ⟨g,o+j,I⟩=J u):=fun j u F=>(G0.cell_far ⟨g,o+j,I⟩ E0 (by simp[B])).trans (o0.o j u F)
       have n1:=H0.o.size;clear S0 G0 c1;by_cases g1:c=1
       ·go_wp2_with (at_builtin;refine wpList_append_own_at _ rfl (.tmp 35) (.tmp 37) 28 rfl w.heap.size 9 ii _ 1 16 Tryz.underlying28 hi v0 w0 x0 rfl (by decide) v1 l.length (Z0 l) rfl p0.o ⟨g,o,I⟩ (n-1) 0 (Z0 rest) rfl ?hlx ?hnewsx ?h1x ?h63x ?hbx ?hbasex ?gox)
        case hlx=>simp[Z0];simp at G;omega
        case hnewsx=>intro j u F;rw[DZ G (by omega)]at F;simp at F
        case h1x=>intro u hu;simp[Z0]at hu;obtain⟨_,_,rfl⟩:=hu;rfl
        case h63x=>unfold maxLen;simp at G;omega
        case hbx=>simp at G;omega
        case hbasex=>omega
        case gox=>
         intro v2 i1 A C _ i0;have j0:=Za A;have k0:=Za (H0.o.grown C (fun k hk=>Or.inr (p0.o.lt k hk).1));clear A C i0;go_wp2;go_roundg m
         case measure=>omega
         case rel=>
          refine⟨l++rest,k,rfl,hk,M3 q.o f.o,?_,?_,k0⟩
          ·have e:=HR.o
           simp only[YG]at e;rw[R.o,f.o]at e;exact e
          ·refine Wt.of_row ?_
           have e:l.length+(n-1)=(l++rest).length:=by simp at G ⊢;omega
           have e2:Z0 l++Z0 rest=Z0 (l++rest):=by simp[Z0]
           rw[<-e,<-e2];exact j0.o
       ·go_wp2_with (at_builtin;refine wpList_append_own_at _ rfl (.tmp 35) (.tmp 37) 28 rfl w.heap.size 9 ii _ 1 16 Tryz.underlying28 hi v0 w0 x0 rfl (by decide) v1 l.length (Z0 l) rfl p0.o ⟨g,o+1,I⟩ (n-1) (c-1) (Z0 rest) rfl ?hlz ?hnewsz ?h1z ?h63z ?hbz ?hbasez ?goz)
        case hlz=>simp[Z0];simp at G;omega
        case hnewsz=>intro j u F;rw[Tc,show o+1+j=o+(j+1)from by omega];exact e1.o (j+1) u (by simpa[Z0]using F)
        case h1z=>intro u hu;simp[Z0]at hu;obtain⟨_,_,rfl⟩:=hu;rfl
        case h63z=>unfold maxLen;simp at G;omega
        case hbz=>simp at G;omega
        case hbasez=>omega
        case goz=>
         intro v2 i1 A C _ i0;have j0:=Za A;have k0:=Za (H0.o.grown C (fun k hk=>Or.inr (p0.o.lt k hk).1));clear A C i0;go_wp2;go_roundg m
         case measure=>omega
         case rel=>
          refine⟨l++rest,k,rfl,hk,M3 q.o f.o,?_,?_,k0⟩
          ·have e:=HR.o
           simp only[YG]at e;rw[R.o,f.o]at e;exact e
          ·refine Wt.of_row ?_
           have e:l.length+(n-1)=(l++rest).length:=by simp at G ⊢;omega
           have e2:Z0 l++Z0 rest=Z0 (l++rest):=by simp[Z0]
           rw[<-e,<-e2];exact j0.o
    |none=>
     have f:=Za n0;clear n0
     go_cut [6,7]from 11 to 74 (fun s6 s7 wx=>s6=E I 0 0/\s7=.bool false/\V (F0 w7 wx))
     case first=>
      go_region_with (go_at_call 130;refine(RM y t T KD LN _ q.o.2.1 HL.o l0.o).mono ?_;intro e w8 a0;obtain⟨rfl,g0⟩:=(Y5.none f.o).1 a0;have b:V (F0 w7 w8):=((Fr.refl _ _).drew).trans g0;clear g0 a0)
      all_goals(go_wp2_with fail;go_meet;exact⟨rfl,rfl,b⟩)
     case rest=>
      obtain⟨rfl,rfl,b⟩:=hcut;have Q:=Za (H7.o.trans b.o)
      have o0:V (∀j u,(Z0 (y::rest))[j]?=J u->wc.cell? ⟨g,o+j,I⟩=J u):=fun j u F=>(b.o.cell (p:=⟨g,o+j,I⟩) m0 (by simp)).trans (R0.o j u F)
      have cc:wc.cell? ⟨g,o,I⟩=J (P (Rb y)):=o0.o 0 _ rfl;have d0:=(b.o.cell (p:=⟨wr.heap.size,0,I⟩) D0 (by simp)).trans b0;have d1:=(b.o.cell (p:=⟨wr.heap.size,1,I⟩) D0 (by simp)).trans b1;have d2:=(b.o.cell (p:=⟨wr.heap.size,2,I⟩) D0 (by simp)).trans b2;have E0:g<wc.heap.size:=nL m0 b.o.size;clear b0 b1 b2 c7
      have T0:V (Uw y t=false->r=J k):=fun hf=>by
       have e:=HR.o;simp only[YG]at e;rw[R.o,f.o,hf]at e;simp at e;exact e.symm
      have q0:V (Uw y t=true->YG (body++[en]) m rest (k+1)=J r):=fun hf=>by
       have e:=HR.o;simp only[YG]at e;rw[R.o,f.o,hf]at e;exact e
      have HA:V (Uw y t=false->WT (body++[en]) r=if t.sort=3 then-1 else LN):=fun hf=>by
       rw[T0.o hf];simp only[WT];rw[R.o];by_cases h3:t.sort=3
       ·rw[if_pos h3,if_pos h3]
       ·rw[if_neg h3,if_neg h3,O0.o h3]
      obtain⟨z,hz⟩:∃z,Uw y t=z:=⟨_,rfl⟩;have HZ:=Za hz;rw[hz]at q0 HA
      cases y
      case' NAME=>
       have x1:((Rb .NAME).toList==[78,65,77,69])=true:=VN (by decide);have x2:((Rb .NAME).toList==[73,78,84])=false:=Zx (by decide)
       have x3:((Rb .NAME).toList==T.toList)=false:=by rw[ByteArray.toList_eq];exact M0
       rw[show decide (t.sort=0)=z from hz]at f0;generalize Rb .NAME=X at*
      case' INT=>
       have x1:((Rb .INT).toList==[78,65,77,69])=false:=Zx (by decide);have x2:((Rb .INT).toList==[73,78,84])=true:=VN (by decide)
       have x3:((Rb .INT).toList==T.toList)=false:=by rw[ByteArray.toList_eq];exact N0
       rw[show decide (t.sort=1)=z from hz]at f1;generalize Rb .INT=X at*
      case' lit x=>
       have hx:=q.o.2.1 x rfl;have x1:(x.toList==[78,65,77,69])=false:=Zx (P9 x hx).1;have x2:(x.toList==[73,78,84])=false:=Zx (P9 x hx).2;have x3:=Ev HL.o hx l0.o;rw[show Zq t x=z from hz]at x3;simp only[Rb]at cc;clear hx
      all_goals first|(exfalso;have h:=f.o;simp[Zm]at h;done)|skip
      all_goals
       clear hz
       cases z
       case' true=>
        have HG:=Za (q0.o rfl);have f3:=W.o.1;have f4:=W.o.2;rw[decide_eq_false (Ew HZ.o)]at f3 f4;clear HA q0;by_cases g1:c=1
        ·go_wp2_with fail
         go_big_quiet ((fail))
         go_wp2;go_roundg m
         case measure=>omega
         case rel=>exact⟨rest,k+1,by go_num,C0.o HZ.o,q.o.2.2,HG,Wt.pop1 G (by omega),Q.o.trans ⟨rfl,rfl,rfl,U _,fun _ _ _=>rfl⟩⟩
        ·go_wp2_with fail
         go_big_quiet ((fail))
         go_wp2;go_roundg m
         case measure=>omega
         case rel=>exact⟨rest,k+1,by go_num,C0.o HZ.o,q.o.2.2,HG,(Wt.pop G hc X0 E0 o0.o).fr ⟨rfl,rfl,rfl,U _,fun _ _ _=>rfl⟩,Q.o.trans ⟨rfl,rfl,rfl,U _,fun _ _ _=>rfl⟩⟩
       case' false=>
        have V0:=Za (HA.o rfl);clear HA;clear q0
        cases h3:decide (t.sort=3)
        all_goals
         have f3:=W.o.1;have f4:=W.o.2;rw[h3]at f3 f4;have j1:V (WT (body++[en]) r=_):=V0.o.trans (by first|exact if_pos (of_decide_eq_true h3)|exact if_neg (of_decide_eq_false h3));clear h3 V0;go_wp2_with fail
         go_big_quiet ((fail))
         go_wp2;go_ret;exact⟨ZH j1.o.symm,Q.o.trans ⟨rfl,rfl,rfl,U _,fun _ _ _=>rfl⟩⟩
