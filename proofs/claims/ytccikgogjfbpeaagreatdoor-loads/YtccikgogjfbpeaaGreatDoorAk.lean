import Derived.Test.YtccikgogjfbpeaaGreatDoorAi
import Derived.Test.YtccikgogjfbpeaaGreatDoorAj
import Derived.Maps.AppendAt
open Option renaming some->I,none->J
open Go.RowKit renaming Hid->P
open _root_.ByteArray renaming empty->V
open Go.Value renaming slice->Y,string->Z,int->U,bool->G,ownBlock->M,string->R
open Nat renaming le_refl->K,zero_add->D
open Go.Ending renaming returned->O
open List renaming getElem?_append_left->E
open Go.Proofs.Tryz renaming prog->B
namespace Go.Proofs.YtccikgogjfbpeaaGreatDoor
set_option maxRecDepth 30000
set_option maxHeartbeats 8000000
open Go.RowKit
def UB (t:Tk):Int:=if t.sort=0 then 110 else if t.sort=1 then 105 else if Y7 t.text then 107 else 115
def VR (t:Tk):List Value:=[Z t.text,U .u8 (UB t),U .i64 t.line]
def Vt (ts:List Tk):List Value:=ts.flatMap VR
theorem ID (ts t):Vt (ts++[t])=Vt ts++VR t:=by simp[Vt]
theorem Js:(B.info? 166).map (fun i=>(i.zero,i.size,i.bytes))=I (I (.agg #[Z V,U .u8 0,U .i64 0]),3,32):=by kernel_rfl
def Uw:In->ByteArray
 | .rules=>⟨#[114,117,108,101,115]⟩
 | .mccs=>⟨#[109,99,99,115]⟩
 | .amounts=>⟨#[97,109,111,117,110,116,115]⟩
 | .curs=>⟨#[99,117,114,115]⟩
 | .ints=>⟨#[105,110,116,115]⟩
 | .names=>⟨#[110,97,109,101,115]⟩
 | .action=>⟨#[97,99,116,105,111,110]⟩
 | .NAME=>⟨#[78,65,77,69]⟩
 | .INT=>⟨#[73,78,84]⟩
 | .lit m=>m
def ZZ (l:List In):List Value:=l.map fun y=>R (Uw y)
def TL (x:Option (List In))(w:World)(e:Ending)(w':World):Prop:=
 match x with
 |some l=>(∃g c,e=O (.tuple #[Y (I ⟨g,0,J⟩) l.length c,G true])/\w.heap.size<=g/\g<w'.heap.size/\∀j u,(ZZ l)[j]?=I u->w'.cell? ⟨g,j,J⟩=I u)/\F0 w w'
 |none=>e=O (.tuple #[Y J 0 0,G false])/\F0 w w'
theorem TL.some {x w w' e l}(h:x=I l):TL x w e w'↔(∃g c,e=O (.tuple #[Y (I ⟨g,0,J⟩) l.length c,G true])/\w.heap.size<=g/\g<w'.heap.size/\∀j u,(ZZ l)[j]?=I u->w'.cell? ⟨g,j,J⟩=I u)/\F0 w w':=by subst h;exact Iff.rfl
theorem TL.none {x w w' e}(h:x=J):TL x w e w'↔e=O (.tuple #[Y J 0 0,G false])/\F0 w w':=by subst h;exact Iff.rfl
theorem Ce {w w2 l b c H T}(d:F0 w w2)(a:b.toList=ZZ l)(f:w2.heap.size=H):TL (I l) w (O (.tuple #[Y (I ⟨H,0,J⟩) l.length c,G true])) (w2.alloc (.cells b T)):=by
 subst f;refine(TL.some rfl).2 ⟨⟨_,_,rfl,d.size,by simp,fun j u e=>?_⟩,d.alloc _⟩;rw[<-a]at e;exact bC (aN w2 _) j _ (by simpa using e)
theorem IE {w w' l c g}(a:l=[])(b:w.heap.size<=g)(d:g<w'.heap.size)(e:F0 w w'):TL (I l) w (O (.tuple #[Y (I ⟨g,0,J⟩) 0 c,G true])) w':=by
 subst a;exact(TL.some rfl).2 ⟨⟨_,_,rfl,b,d,fun j u f=>by simp[ZZ]at f⟩,e⟩
theorem Cf:∀m,m∈X5->(m.data.toList==[114,117,108,101,115])=false/\(m.data.toList==[109,99,99,115])=false/\(m.data.toList==[97,109,111,117,110,116,115])=false/\(m.data.toList==[99,117,114,115])=false/\(m.data.toList==[105,110,116,115])=false/\(m.data.toList==[110,97,109,101,115])=false/\(m.data.toList==[97,99,116,105,111,110])=false:=by decide
theorem EX {a:ByteArray}{l}(h:(a.data.toList==l)=false):(a.toList==l)=false:=by rw[ByteArray.toList_eq];exact h
theorem xU {a:ByteArray}{l}(h:(a.data.toList==l)=true):(a.toList==l)=true:=by rw[ByteArray.toList_eq];exact h
theorem Up {t}(h:VC t){m}(a:m∈X5){l}(b:m.data.toList=l):(t.text.toList==l)=Zn t m:=by
 rw[h m a,ByteArray.toList_eq m,b]
theorem IF (y t)(b c:Int)(w)(d:∀m,y=.lit m->m∈X5)(a:VC t):
    Calls B 130 #[.string (Uw y),.agg #[.string t.text,.int .u8 b,.int .i64 c]] w (TL (Yv y t) w):=by
  have e:Yv y t=(if((Uw y).toList==[114,117,108,101,115])=true then(if Zn t WU=true then I Pv else if Zn t Ub=true then I Nv else I [])
      else if((Uw y).toList==[109,99,99,115])=true then(if Zn t W7=true then I [.lit W7,.INT,.ints]else I [])
      else if((Uw y).toList==[97,109,111,117,110,116,115])=true then(if Zn t Z6=true then I [.lit Z6,.INT,.lit V8,.INT]else I [])
      else if((Uw y).toList==[99,117,114,115])=true then(if Zn t Vw=true then I [.lit Vw,.INT,.ints]else I [])
      else if((Uw y).toList==[105,110,116,115])=true then(if Zn t Y1=true then I [.lit Y1,.INT,.ints]else I [])
      else if((Uw y).toList==[110,97,109,101,115])=true then(if Zn t Y1=true then I [.lit Y1,.NAME,.names]else I [])
      else if((Uw y).toList==[97,99,116,105,111,110])=true then(if Zn t YL=true then I [.lit YL]else if Zn t Yi=true then I [.lit Yi,.NAME,.names]else I [.NAME,.names])
      else J):=by
    rw[ByteArray.toList_eq]
    cases y with
    | lit m=>
      have h:=Cf m (d m rfl);simp[Uw,Yv,h]
    |_=>simp[Uw,Yv]<;>(repeat' split)<;>rfl
  rw[e];have f:=Up a (m:=WU) (by simp[X5]) rfl;have g:=Up a (m:=Ub) (by simp[X5]) rfl;have i:=Up a (m:=W7) (by simp[X5]) rfl;have j:=Up a (m:=Z6) (by simp[X5]) rfl;have k:=Up a (m:=Vw) (by simp[X5]) rfl;have l:=Up a (m:=Y1) (by simp[X5]) rfl;have n:=Up a (m:=YL) (by simp[X5]) rfl;have o:=Up a (m:=Yi) (by simp[X5]) rfl;generalize Uw y=x at*
  (repeat' split)<;>
    (simp only[Bool.not_eq_true,<-f,<-g,<-i,<-j,<-k,<-l,<-n,<-o]at*
     try simp only[WU,Ub,W7,Z6,Vw,Y1,YL,Yi,List.toList_toArray]at*
     go_enter Tryz.func130,Tryz.ntmps130;go_wp2
     go_ret2
     first|exact Ce ((Zt.alloc _).alloc _) (by rfl) (by simp)|exact IE rfl (by simp) (by simp) ((Zt.alloc _).alloc _)|exact(TL.none rfl).2 ⟨rfl,(Zt.alloc _).alloc _⟩)
theorem TM (g o k):(⟨g,o,J⟩:Addr).add k=⟨g,o+k,J⟩:=by unfold Addr.add;split<;>simp_all
def wT:In->Nat
 | .rules=>15
 | .amounts=>4
 | .mccs| .curs| .ints| .names| .action=>3
 |_=>1
def wU:List In->Prop
 |[]=>True
 |y::r=>wT y+r.length<=15/\(∀m,y=.lit m->m∈X5)/\wU r
theorem Aq {y r}(a:wT y+r.length<=15)(b:∀m,y=.lit m->m∈X5)(c:wU r):wU (y::r):=⟨a,b,c⟩
theorem Jt {y r l t}(h:wU (y::r))(a:Yv y t=I l):wU (l++r):=by
 obtain⟨b,d,c⟩:=h
 cases y<;>simp only[Yv]at a
 all_goals first|(injection a with a)|(cases a;done)
 all_goals subst a
 all_goals repeat' split
 all_goals simp only[Pv,Nv,List.cons_append,List.nil_append]
 all_goals simp only[wT]at b
 all_goals repeat' (apply Aq)
 all_goals first|exact c|(simp only[wT,List.length_cons];omega)|(intro m e;cases e;done)|(intro m e;cases e;simp[X5])
theorem yK {st}(h:wU st):st.length<=15:=by
 cases st with
 |nil=>simp
 |cons y r=>
  have a:=h.1
  have:1<=wT y:=by cases y<;>simp[wT]
  simp;omega
theorem NI:∀(ts:List Tk)(j:Nat)(t:Tk),ts[j]?=I t->(Vt ts)[j*3]?=I (Z t.text)/\(Vt ts)[j*3+1]?=I (U .u8 (UB t))/\(Vt ts)[j*3+2]?=I (U .i64 t.line)
 |[],j,t,h=>by simp at h
 |x::r,0,t,h=>by simp at h;subst h;exact⟨rfl,rfl,rfl⟩
 |x::r,j+1,t,h=>by
  have:=NI r j t (by simpa using h)
  have e:Vt (x::r)=VR x++Vt r:=by simp[Vt]
  have l:(VR x).length=3:=rfl;rw[e];refine⟨?_,?_,?_⟩
  ·rw[aR (by omega),l,show(j+1)*3-3=j*3 from by omega];exact this.1
  ·rw[aR (by omega),l,show(j+1)*3+1-3=j*3+1 from by omega];exact this.2.1
  rw[aR (by omega),l,show(j+1)*3+2-3=j*3+2 from by omega];exact this.2.2
def xV (w:World)(g:Nat)(ts:List Tk):Prop:=∀j t,ts[j]?=I t->w.cell? ⟨g,j*3,J⟩=I (Z t.text)/\w.cell? ⟨g,j*3+1,J⟩=I (U .u8 (UB t))/\w.cell? ⟨g,j*3+2,J⟩=I (U .i64 t.line)
theorem xV.fr {w w' g ts S}(h:xV w g ts)(a:Fr S w w')(b:g<w.heap.size)(c:¬S g:=by simp):xV w' g ts:=fun j t d=>
 ⟨(a.cell (p:=⟨g,j*3,J⟩) b c).trans (h j t d).1,(a.cell (p:=⟨g,j*3+1,J⟩) b c).trans (h j t d).2.1,(a.cell (p:=⟨g,j*3+2,J⟩) b c).trans (h j t d).2.2⟩
theorem QR {w base v ts}(h:w.ownsRow base 166 3 v ts.length (Vt ts)):
  ∃a c,v=Y a ts.length c/\(0<ts.length->∃g,a=I ⟨g,0,J⟩/\base<=g/\g<w.heap.size/\xV w g ts):=by
 obtain⟨a,c,e⟩:=oL h;refine⟨a,c,e,fun l=>?_⟩;obtain⟨g,cap,i,m,n⟩:=h.form l;rw[e]at i;injection i with o _ p;subst o p;subst e;refine⟨g,rfl,m,n,fun j t q=>?_⟩;obtain⟨a,b,c⟩:=NI ts j t q
 have d:∀k,(⟨g,0,J⟩:Addr).add k=⟨g,k,J⟩:=fun k=>by unfold Addr.add;split<;>simp_all
 have f:=h.cells (g:=g) rfl;exact⟨by have:=f _ _ a;rwa [d]at this,by have:=f _ _ b;rwa [d]at this,by have:=f _ _ c;rwa [d]at this⟩
def Wt (w:World)(base:Nat)(v:Value)(b:List In):Prop:=
 ∃a c,v=Y a b.length c/\b.length<=c/\(0<b.length->∃g o,a=I ⟨g,o,J⟩/\base<=g/\g<w.heap.size/\∀j u,(ZZ b)[j]?=I u->w.cell? ⟨g,o+j,J⟩=I u)
theorem Wt.fr {w w' base v d}(h:Wt w base v d)(f:F0 w w'):Wt w' base v d:=by
 obtain⟨a,c,e,k,h⟩:=h;refine⟨a,c,e,k,fun l=>?_⟩;obtain⟨g,o,m,n,i,b⟩:=h l;exact⟨g,o,m,n,nL i f.size,fun j u q=>(f.cell (p:=⟨g,o+j,J⟩) i).trans (b j u q)⟩
theorem Wt.of_row {w base v b}(h:w.ownsRow base 9 1 v b.length (ZZ b)):Wt w base v b:=by
 rcases h.2 with⟨rfl,i⟩|⟨g,cap,l,rfl,_⟩
 ·exact⟨J,0,by rw[i],by omega,fun d=>by omega⟩
 refine⟨_,_,rfl,?_,fun d=>?_⟩
 ·rename_i m
  exact m.2.2.1
 obtain⟨n,f,e,o,p⟩:=h.form d
 injection e with c s t
 have q:g=n:=by injection c with c;injection c
 subst q
 have a:∀k,(⟨g,0,J⟩:Addr).add k=⟨g,k,J⟩:=fun k=>by unfold Addr.add;split<;>simp_all
 refine⟨g,0,rfl,o,p,fun j u r=>?_⟩;have:=h.cells (g:=g) rfl j u r;rw[a]at this;rw[D];exact this
theorem OH:(B.info? 9).map (fun i=>(i.zero,i.size,i.bytes))=I (I (Z V),1,16):=by kernel_rfl
def Vm (ts:List Tk)(r:Option Nat):Int:=
 match r with
 |none=>0
 |some j=>if(Zo ts j).sort=3 then-1 else((Zo ts j).line:Int)
theorem QS (y t T)(a b:Int)(w)(c:∀m,y=.lit m->m∈X5)(d:VC t)(e:T=t.text):
  Calls B 130 #[.string (Uw y),.agg #[.string T,.int .u8 a,.int .i64 b]] w (TL (Yv y t) w):=by
 subst e;exact IF y t a b w c d
theorem ud (t):(UB t==110)=decide (t.sort=0):=by
 unfold UB;by_cases a:t.sort=0
 ·simp[a]
 by_cases b:t.sort=1
 ·simp[b]
 by_cases c:Y7 t.text=true<;>simp[a,b,c]
theorem xW (t):(UB t==105)=decide (t.sort=1):=by
 unfold UB;by_cases a:t.sort=0
 ·simp[a]
 by_cases b:t.sort=1
 ·simp[b]
 by_cases c:Y7 t.text=true<;>simp[a,b,c]
theorem ue (t):(UB t==101)=false:=by
 unfold UB;by_cases a:t.sort=0
 ·simp[a]
 by_cases b:t.sort=1
 ·simp[b]
 by_cases c:Y7 t.text=true<;>simp[a,b,c]
theorem O3 {t a l}(h:ZC t 0≠(a.toNat:Int)):((a::l)==t.toList)=false:=by
 rw[Bool.eq_false_iff];intro e
 have b:a::l=t.toList:=by simpa using e
 rw[ByteArray.toList_eq]at b;apply h;unfold ZC;rw[<-b];rfl
theorem NJ:∀m,m∈X5->(m.data.toList==[78,65,77,69])=false/\(m.data.toList==[73,78,84])=false:=by decide
theorem Ar {t}(h:VC t){m T}(a:m∈X5)(b:T=t.text):(m.toList==T.toList)=Zn t m:=by
 rw[h m a,b,Bool.eq_iff_iff];simp only[beq_iff_eq];exact eq_comm
theorem Wt.pop1 {w base g o n y c}(d:(y::c).length=n)(f:n<=1):Wt w base (Y (I ⟨g,o,J⟩) (n-1) 0) c:=by
 have e:c=[]:=by
  cases c with
  |nil=>rfl
  |cons a b=>simp at d;omega
 subst e;exact⟨_,0,by simp at d;subst d;rfl,by simp,fun h=>by simp at h⟩
theorem Wt.pop {w base g o n c y a}(d:(y::a).length=n)(k:n<=c)(f:base<=g)(h:g<w.heap.size)(b:∀j u,(ZZ (y::a))[j]?=I u->w.cell? ⟨g,o+j,J⟩=I u):Wt w base (Y (I ⟨g,o+1,J⟩) (n-1) (c-1)) a:=by
 have e:n-1=a.length:=by simp at d;omega
 exact⟨_,c-1,by rw[e],by omega,fun _=>⟨g,o+1,rfl,f,h,fun j u i=>by rw[show o+1+j=o+(j+1)from by omega];exact b (j+1) u (by simpa[ZZ]using i)⟩⟩
theorem yL {y c n}(d:(y::c).length=n)(h:n<=1):ZZ c=[]:=by
 cases c with
 |nil=>rfl
 |cons a b=>simp at d;omega
theorem Au {y t}(h:UW y t=true):¬t.sort=3:=fun e=>by cases y<;>simp[UW,Zn,e]at h
theorem EY {wr a T}{b c:Int}(e:wr.alloc (.cells #[Z T,U .u8 b,U .i64 c] 166)=a):a.cell? ⟨wr.heap.size,0,J⟩=I (Z T)/\a.cell? ⟨wr.heap.size,1,J⟩=I (U .u8 b)/\a.cell? ⟨wr.heap.size,2,J⟩=I (U .i64 c)/\F0 wr a/\a.heap.size=wr.heap.size+1:=by
 subst e;have h:=aN wr (.cells #[Z T,U .u8 b,U .i64 c] 166);exact⟨Zc h 0,Zc h 1,Zc h 2,Zt.alloc _,by simp⟩
theorem Av (w base v body en)(D0:en.sort=3/\en.text=V)(h:w.ownsRow base 166 3 v body.length (Vt body))(hb:∀t,t∈body->Iz t)(c1:body.length<=3000)(N r)(n0:YI (body++[en]) N [.rules] 0=I r):
  Calls B 79 #[v] w fun e w'=>e=.returned (.int .i64 (Vm (body++[en]) r))/\F0 w w':=by
 obtain⟨ii,hi,p0,q0,s0⟩:=info_parts OH;obtain⟨av,cv,rfl,E0⟩:=QR h;have G0:=Za E0;have HB:=Za hb;have HE:=Za D0;have H0:=Za n0;clear h E0 hb D0 n0;go_enter Tryz.func79,Tryz.ntmps79;go_wp2_with fail
 go_loopg [3,4] N (fun m o i wr=>∃st k,i=.int .i64 (k:Nat)/\k<=body.length/\P (wU st)/\P (YI (body++[en]) m st k=I r)/\P (Wt wr w.heap.size o st)/\P (F0 w wr))
 case atStart=>
  have G:=aN w (.cells #[.string ⟨#[114,117,108,101,115]⟩] 9);refine⟨[.rules],0,rfl,Nat.zero_le _,⟨by simp[wT],fun m e=>by(cases e),trivial⟩,H0.o,⟨_,_,rfl,by simp,fun _=>⟨w.heap.size,0,rfl,K _,by simp,fun j u F=>?_⟩⟩,Zt.alloc _⟩;rw[D];exact bC G j _ (by simpa[ZZ,Uw]using F)
 obtain⟨st,k,rfl,hk,q,HR,HW,HF⟩:=hrel;have j1:=HF.o.size
 cases st with
 |nil=>
  obtain⟨a,c,rfl,hc,d⟩:=HW.o
  have e0:(if(Zo (body++[en]) k).sort=3 then J else I k)=r:=by
   have e:=HR.o;rw[Th]at e;injection e
  clear d HW;simp only[List.length_nil]at hc ⊢;by_cases H:k<body.length
  ·obtain⟨gv,rfl,R0,t0,s⟩:=G0.o (by omega)
   obtain⟨t,ht⟩:∃t,body[k]?=I t:=⟨_,gE H⟩;obtain⟨r0,r1,r2⟩:=(s.fr HF.o t0) k t ht
   have UP:Zo (body++[en]) k=t:=by
    unfold Zo;rw[gD,E H,ht];rfl
   have v0:=(HB.o t (mG ht)).2.2.1;rw[UP,if_neg v0]at e0
   have HA:P (Vm (body++[en]) r=t.line):=by show _=_;rw[<-e0];simp only[Vm];rw[UP,if_neg v0]
   have w0:(k:Int)<(body.length:Int):=by omega
   clear s ht UP v0 e0;go_wp2;go_ret;exact⟨ZO HA.o.symm,HF.o⟩
  have UP:Zo (body++[en]) k=en:=by
   unfold Zo;rw[gD,aR (by omega),show k-body.length=0 from by omega];rfl
  rw[UP,if_pos HE.o.1]at e0
  have HA:P (Vm (body++[en]) r=0):=by show _=_;rw[<-e0];rfl
  have w0:¬(k:Int)<(body.length:Int):=by omega
  clear UP e0;go_wp2;go_ret;exact⟨ZO HA.o.symm,HF.o⟩
 |cons y rest=>
  obtain⟨m,rfl⟩:∃m,gk=m+1:=by
   cases gk with
   |zero=>exact absurd HR.o (by simp[YI])
   |succ m=>exact⟨m,rfl⟩
  obtain⟨a,c,rfl,hc,d⟩:=HW.o;obtain⟨g,o,rfl,S0,hg,x0⟩:=d (by simp);have c0:wr.cell? ⟨g,o,J⟩=I (.string (Uw y)):=x0 0 _ rfl;have T0:=Za x0;clear d x0 HW;obtain⟨n,G⟩:∃n,(y::rest).length=n:=⟨_,rfl⟩;rw[G]at hc ⊢
  have k1:(0:Int)<(n:Int):=by simp at G;omega
  obtain⟨t,ht⟩:∃t,Zo (body++[en]) k=t:=⟨_,rfl⟩;have Q:=Za ht;rcases Nat.lt_or_ge k body.length with H|H
  case' inl=>
   obtain⟨gv,rfl,R0,t0,s⟩:=G0.o (by omega)
   have hG:body[k]?=I t:=by
    rw[<-ht];unfold Zo;rw[gD,E H,gE H];rfl
   obtain⟨r0,r1,r2⟩:=(s.fr (HF.o.alloc (.cells #[.string ⟨#[]⟩,.int .u8 101,.int .i64 0] 166)) t0) k t hG
   have w0:(k:Int)<(body.length:Int):=by omega
   have R:=HB.o t (mG hG);have HL:=Za R.1;have I0:(([78,65,77,69]:List UInt8)==t.text.toList)=false:=O3 R.2.2.2.2.1;have J0:(([73,78,84]:List UInt8)==t.text.toList)=false:=O3 R.2.2.2.2.2;have f0:=ud t;have f1:=xW t
   have f3:(UB t==101)=decide (t.sort=3):=by rw[ue t];simp[R.2.2.1]
   have S:P ((UB t==101)=decide (t.sort=3)/\(UB t !=101)=!decide (t.sort=3)):=⟨f3,by rw[bne,f3]⟩;clear f3;obtain⟨LN,L⟩:∃LN:Int,LN=t.line:=⟨_,rfl⟩;rw[<-L]at r2
   have K0:P (t.sort≠3->LN=t.line):=fun _=>L
   have y0:P (UW y t=true->k+1<=body.length):=fun _=>H
   clear R L hG s ht;go_wp2_with fail;clear r0 r1 r2;generalize L0:t.text=T at*;generalize UB t=KD at*;have h0:=Za L0.symm;clear L0;generalize e7:wr.alloc _=w7 at*;obtain⟨b0,b1,b2,F7,M0⟩:=EY e7
  case' inr=>
   have w0:¬(k:Int)<(body.length:Int):=by omega
   have e:t=en:=by
    rw[<-ht];unfold Zo;rw[gD,aR (by omega),show k-body.length=0 from by omega];rfl
   have h1:=HE.o;rw[<-e]at h1
   have HL:P (VC t):=by
    have e:t=⟨3,V,t.line⟩:=by
     cases t
     simp at h1;obtain⟨rfl,rfl⟩:=h1;rfl
    show VC t
    rw[e];exact Fo _
   obtain⟨T,hT⟩:∃T:ByteArray,T=⟨#[]⟩:=⟨_,rfl⟩;obtain⟨KD,hK⟩:∃KD:Int,KD=101:=⟨_,rfl⟩;obtain⟨LN,L⟩:∃LN:Int,LN=0:=⟨_,rfl⟩
   have I0:(([78,65,77,69]:List UInt8)==T.toList)=false:=by rw[hT];exact O3 (by decide)
   have J0:(([73,78,84]:List UInt8)==T.toList)=false:=by rw[hT];exact O3 (by decide)
   have h0:P (T=t.text):=hT.trans h1.2.symm
   have f0:(KD==110)=decide (t.sort=0):=by simp[hK,h1.1]
   have f1:(KD==105)=decide (t.sort=1):=by simp[hK,h1.1]
   have S:P ((KD==101)=decide (t.sort=3)/\(KD !=101)=!decide (t.sort=3)):=⟨by simp[hK,h1.1],by simp[hK,h1.1]⟩
   have K0:P (t.sort≠3->LN=t.line):=fun h=>absurd h1.1 h
   have y0:P (UW y t=true->k+1<=body.length):=fun h=>by cases y<;>simp[UW,Zn,h1.1]at h
   have HQ:=Za (And.intro hT (And.intro hK L));clear ht e h1 hT hK L;go_wp2_with fail;generalize e7:wr.alloc _=w7 at*;obtain⟨b0,b1,b2,F7,M0⟩:=EY e7;rw[<-HQ.o.1]at b0;rw[<-HQ.o.2.1]at b1;rw[<-HQ.o.2.2]at b2;clear HQ
  all_goals
   have H7:=Za (HF.o.trans F7);have c7:=F7.cell (p:=⟨g,o,J⟩) hg (by simp)|>.trans c0;have N0:=Za (fun j u F=>F7.cell (p:=⟨g,o+j,J⟩) hg (by simp)|>.trans (T0.o j u F))
   have i0:g<w7.heap.size:=by omega
   have z0:wr.heap.size<w7.heap.size:=by omega
   clear c0 F7 e7 M0
   cases j0:Yv y t with
   |some l=>
    have f:=Za j0;clear j0
    go_cut [6,7]from 11 to 74 (fun s6 s7 wx=>∃g2 c2,s6=.slice (I ⟨g2,0,J⟩) l.length c2/\s7=.bool true/\P (∀j u,(ZZ l)[j]?=I u->wx.cell? ⟨g2,j,J⟩=I u)/\P (F0 w7 wx)/\P (g2<wx.heap.size))
    case first=>
     go_region_with (go_at_call 130;refine(QS y t T KD LN _ q.o.2.1 HL.o h0.o).mono ?_;intro e w8 U;obtain⟨⟨g2,c2,rfl,l1,V0,o0⟩,W⟩:=(TL.some f.o).1 U;have b:P (F0 w7 w8):=(Zt.drew).trans W;have Y:P (∀j u,(ZZ l)[j]?=I u->w8.cell? ⟨g2,j,J⟩=I u):=o0;clear W o0 U)
     all_goals(go_wp2_with fail;go_meet;exact⟨g2,c2,rfl,rfl,Y,b,V0⟩)
    obtain⟨g2,c2,rfl,rfl,Y,b,m1⟩:=hcut;have O:=Za (H7.o.trans b.o)
    have k0:P (∀j u,(ZZ (y::rest))[j]?=I u->wc.cell? ⟨g,o+j,J⟩=I u):=fun j u F=>(b.o.cell (p:=⟨g,o+j,J⟩) i0).trans (N0.o j u F)
    have A0:g<wc.heap.size:=nL i0 b.o.size;have e1:=O.o.size
    have g1:l.length+rest.length<=15:=by have:=yK (Jt q.o f.o);simpa using this
    go_wp2_with (at_builtin;refine wpList_append_own_at _ rfl (.tmp 32) (.tmp 33) 28 rfl w.heap.size 9 ii _ 1 16 Tryz.underlying28 hi p0 q0 s0 rfl (by decide) (.slice J 0 0) 0 [] rfl (oZ _ _ _ _) ⟨g2,0,J⟩ l.length c2 (ZZ l) rfl ?hl ?hnews ?h1 ?h63 ?hb ?hbase ?_)
    case hl=>simp[ZZ]
    case hnews=>intro j u F;rw[TM,D];exact Y.o j u F
    case h1=>intro u hu;simp[ZZ]at hu;obtain⟨_,_,rfl⟩:=hu;rfl
    case h63=>unfold maxLen;omega
    case hb=>omega
    case hbase=>omega
    intro v1 w9 O0 B0 _ W0;have l0:=Za O0;have C0:=Za (O.o.grown B0 (fun k hk=>by simp[M]at hk))
    have X0:P (∀j u,(ZZ (y::rest))[j]?=I u->w9.cell? ⟨g,o+j,J⟩=I u):=fun j u F=>(B0.cell_far ⟨g,o+j,J⟩ A0 (by simp[M])).trans (k0.o j u F)
    have i1:=C0.o.size;clear O0 B0 W0;by_cases Y0:c=1
    ·go_wp2_with (at_builtin;refine wpList_append_own_at _ rfl (.tmp 35) (.tmp 37) 28 rfl w.heap.size 9 ii _ 1 16 Tryz.underlying28 hi p0 q0 s0 rfl (by decide) v1 l.length (ZZ l) rfl l0.o ⟨g,o,J⟩ (n-1) 0 (ZZ rest) rfl ?hlx ?hnewsx ?h1x ?h63x ?hbx ?hbasex ?_)
     case hlx=>simp[ZZ];simp at G;omega
     case hnewsx=>intro j u F;rw[yL G (by omega)]at F;simp at F
     case h1x=>intro u hu;simp[ZZ]at hu;obtain⟨_,_,rfl⟩:=hu;rfl
     case h63x=>unfold maxLen;simp at G;omega
     case hbx=>simp at G;omega
     case hbasex=>omega
     intro v2 Z0 A C _ Z;have a0:=Za A;have g0:=Za (C0.o.grown C (fun k hk=>Or.inr (l0.o.lt k hk).1));clear A C Z;go_wp2;go_roundg m
     case measure=>omega
     refine⟨l++rest,k,rfl,hk,Jt q.o f.o,?_,?_,g0⟩
     ·have e:=HR.o
      simp only[YI]at e;rw[Q.o,f.o]at e;exact e
     refine Wt.of_row ?_
     have e:l.length+(n-1)=(l++rest).length:=by simp at G ⊢;omega
     have e2:ZZ l++ZZ rest=ZZ (l++rest):=by simp[ZZ]
     rw[<-e,<-e2];exact a0.o
    go_wp2_with (at_builtin;refine wpList_append_own_at _ rfl (.tmp 35) (.tmp 37) 28 rfl w.heap.size 9 ii _ 1 16 Tryz.underlying28 hi p0 q0 s0 rfl (by decide) v1 l.length (ZZ l) rfl l0.o ⟨g,o+1,J⟩ (n-1) (c-1) (ZZ rest) rfl ?hlz ?hnewsz ?h1z ?h63z ?hbz ?hbasez ?_)
    case hlz=>simp[ZZ];simp at G;omega
    case hnewsz=>intro j u F;rw[TM,show o+1+j=o+(j+1)from by omega];exact X0.o (j+1) u (by simpa[ZZ]using F)
    case h1z=>intro u hu;simp[ZZ]at hu;obtain⟨_,_,rfl⟩:=hu;rfl
    case h63z=>unfold maxLen;simp at G;omega
    case hbz=>simp at G;omega
    case hbasez=>omega
    intro v2 Z0 A C _ Z;have a0:=Za A;have g0:=Za (C0.o.grown C (fun k hk=>Or.inr (l0.o.lt k hk).1));clear A C Z;go_wp2;go_roundg m
    case measure=>omega
    refine⟨l++rest,k,rfl,hk,Jt q.o f.o,?_,?_,g0⟩
    ·have e:=HR.o
     simp only[YI]at e;rw[Q.o,f.o]at e;exact e
    refine Wt.of_row ?_
    have e:l.length+(n-1)=(l++rest).length:=by simp at G ⊢;omega
    have e2:ZZ l++ZZ rest=ZZ (l++rest):=by simp[ZZ]
    rw[<-e,<-e2];exact a0.o
   |none=>
    have f:=Za j0;clear j0
    go_cut [6,7]from 11 to 74 (fun s6 s7 wx=>s6=.slice J 0 0/\s7=.bool false/\P (F0 w7 wx))
    case first=>
     go_region_with (go_at_call 130;refine(QS y t T KD LN _ q.o.2.1 HL.o h0.o).mono ?_;intro e w8 U;obtain⟨rfl,W⟩:=(TL.none f.o).1 U;have b:P (F0 w7 w8):=(Zt.drew).trans W;clear W U)
     all_goals(go_wp2_with fail;go_meet;exact⟨rfl,rfl,b⟩)
    obtain⟨rfl,rfl,b⟩:=hcut;have O:=Za (H7.o.trans b.o)
    have k0:P (∀j u,(ZZ (y::rest))[j]?=I u->wc.cell? ⟨g,o+j,J⟩=I u):=fun j u F=>(b.o.cell (p:=⟨g,o+j,J⟩) i0).trans (N0.o j u F)
    have cc:wc.cell? ⟨g,o,J⟩=I (.string (Uw y)):=k0.o 0 _ rfl;have d0:=(b.o.cell (p:=⟨wr.heap.size,0,J⟩) z0).trans b0;have d1:=(b.o.cell (p:=⟨wr.heap.size,1,J⟩) z0).trans b1;have d2:=(b.o.cell (p:=⟨wr.heap.size,2,J⟩) z0).trans b2;have A0:g<wc.heap.size:=nL i0 b.o.size;clear b0 b1 b2 c7
    have P0:P (UW y t=false->r=I k):=fun hf=>by
     have e:=HR.o;simp only[YI]at e;rw[Q.o,f.o,hf]at e;simp at e;exact e.symm
    have m0:P (UW y t=true->YI (body++[en]) m rest (k+1)=I r):=fun hf=>by
     have e:=HR.o;simp only[YI]at e;rw[Q.o,f.o,hf]at e;exact e
    have HA:P (UW y t=false->Vm (body++[en]) r=if t.sort=3 then-1 else LN):=fun hf=>by
     rw[P0.o hf];simp only[Vm];rw[Q.o];by_cases h3:t.sort=3
     ·rw[if_pos h3,if_pos h3]
     rw[if_neg h3,if_neg h3,K0.o h3]
    obtain⟨z,hz⟩:∃z,UW y t=z:=⟨_,rfl⟩;have HZ:=Za hz;rw[hz]at m0 HA
    cases y
    case' NAME=>
     have x1:((Uw .NAME).toList==[78,65,77,69])=true:=xU (by decide);have x2:((Uw .NAME).toList==[73,78,84])=false:=EX (by decide)
     have x3:((Uw .NAME).toList==T.toList)=false:=by rw[ByteArray.toList_eq];exact I0
     rw[show decide (t.sort=0)=z from hz]at f0;generalize Uw .NAME=X at*
    case' INT=>
     have x1:((Uw .INT).toList==[78,65,77,69])=false:=EX (by decide);have x2:((Uw .INT).toList==[73,78,84])=true:=xU (by decide)
     have x3:((Uw .INT).toList==T.toList)=false:=by rw[ByteArray.toList_eq];exact J0
     rw[show decide (t.sort=1)=z from hz]at f1;generalize Uw .INT=X at*
    case' lit x=>
     have hx:=q.o.2.1 x rfl;have x1:(x.toList==[78,65,77,69])=false:=EX (NJ x hx).1;have x2:(x.toList==[73,78,84])=false:=EX (NJ x hx).2;have x3:=Ar HL.o hx h0.o;rw[show Zn t x=z from hz]at x3;simp only[Uw]at cc;clear hx
    all_goals first|(exfalso;have h:=f.o;simp[Yv]at h;done)|skip
    all_goals
     clear hz
     cases z
     case' true=>
      have HG:=Za (m0.o rfl);have f3:=S.o.1;have f4:=S.o.2;rw[decide_eq_false (Au HZ.o)]at f3 f4;clear HA m0;by_cases Y0:c=1
      ·go_wp2_with fail
       go_big_quiet ((fail))
       go_wp2;go_roundg m
       case measure=>omega
       exact⟨rest,k+1,by go_num,y0.o HZ.o,q.o.2.2,HG,Wt.pop1 G (by omega),O.o.trans ⟨rfl,rfl,rfl,K _,fun _ _ _=>rfl⟩⟩
      go_wp2_with fail
      go_big_quiet ((fail))
      go_wp2;go_roundg m
      case measure=>omega
      exact⟨rest,k+1,by go_num,y0.o HZ.o,q.o.2.2,HG,(Wt.pop G hc S0 A0 k0.o).fr ⟨rfl,rfl,rfl,K _,fun _ _ _=>rfl⟩,O.o.trans ⟨rfl,rfl,rfl,K _,fun _ _ _=>rfl⟩⟩
     case' false=>
      have Q0:=Za (HA.o rfl);clear HA;clear m0
      cases h3:decide (t.sort=3)
      all_goals
       have f3:=S.o.1;have f4:=S.o.2;rw[h3]at f3 f4;have a1:P (Vm (body++[en]) r=_):=Q0.o.trans (by first|exact if_pos (of_decide_eq_true h3)|exact if_neg (of_decide_eq_false h3));clear h3 Q0;go_wp2_with fail
       go_big_quiet ((fail))
       go_wp2;go_ret;exact⟨ZO a1.o.symm,O.o.trans ⟨rfl,rfl,rfl,K _,fun _ _ _=>rfl⟩⟩
