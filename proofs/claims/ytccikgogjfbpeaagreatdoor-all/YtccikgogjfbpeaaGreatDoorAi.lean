import Derived.Test.YtccikgogjfbpeaaGreatDoorAd
import Derived.Maps.AppendAt
import Derived.Deep.CutBlock
open Option renaming some->I,none->J
open Go.RowKit renaming Hid->V
open Go.Value renaming int->Y,string->Z,slice->B,bool->G,ownBlock->z9
open Go.Proofs.Tryz renaming prog->U
open Go.Ending renaming returned->K
open Go.IntKind renaming i64->O,i64->C,u8->Q
open Nat renaming le_refl->E,zero_le->R,zero_add->z4,lt_or_ge->y1
open _root_.ByteArray renaming empty->D
open Bool renaming or_eq_true->M,eq_false_iff->z5,eq_iff_iff->z6
open List renaming getD_eq_getElem?_getD->L,getElem?_append_left->W,take_of_length_le->A,mem_append->z8
open Go renaming Calls->F,World->z7,Value->y0
open Go.Proofs.Tryz
namespace Go.Proofs.YtccikgogjfbpeaaGreatDoor
set_option linter.defProp false
set_option maxRecDepth 30000
set_option maxHeartbeats 8000000
open Go.RowKit
def Ti (s w)(g:Dg s):
  F U 133 #[Z s] w fun e h=>e=K (Y O (ZA s.data.toList))/\h=w:=by
 have b:=o g;have j:=g.1;go_enter func133,ntmps133;go_wp2
 go_loop [3,4] (fun n i=>∃k:Nat,k<=s.size/\i=Y O k/\n=Y O (ZA (s.data.toList.take k))) (fun _ i=>s.size-(intOf i).toNat)
 case atStart=>exact⟨0,R _,rfl,rfl⟩
 obtain⟨k,l,rfl,rfl⟩:=hrel;have q:=Rk s b.o k l;by_cases a:k<s.size
 ·have m:=fun w=>Xf (P:=U) underlying9 s k (k:Int) rfl a w
  have d:=o (Mg s b.o k a);have p:=b.o.2 k a;have f:=af k s.size;generalize ZA (s.data.toList.take k)=n at*;generalize Zy s k=c at*;go_wp2;refine⟨⟨k+1,z,aE,?_⟩,by simp[intOf];omega⟩;rw[d.o,Int.mul_comm]
 have f:=ai k s.size;go_wp2;go_ret;exact⟨ZQ (by rw[A aF]),rfl⟩
def Wb (s:ByteArray)(k:Nat):Nat:=if OS s k 46 46||OS s k 45 62 then 2 else if Zy s k=59\/Zy s k=58\/Zy s k=44 then 1 else 0
def Nj (s k a b)(h:k+2<=s.size):((s.extract k (k+2)).toList==[a,b])=OS s k (a.toNat:Int) (b.toNat:Int):=by
 rw[ByteArray.toList_eq,Lib.extract_data,show k+2-k=2 from z];unfold OS Zy;have c:(s.data.toList.drop k).length=s.size-k:=aA
 have g0:s.data.toList.getD k 0=(s.data.toList.drop k).getD 0 0:=by simp[L]
 have g1:s.data.toList.getD (k+1) 0=(s.data.toList.drop k).getD 1 0:=by simp[L]
 rw[g0,g1];generalize s.data.toList.drop k=l at*
 match l,c with
 |[],c=>simp at c;omega
 |[_],c=>simp at c;omega
 |x::y::r,c=>
  have e:∀u v:UInt8,(u==v)=decide ((u.toNat:Int)=(v.toNat:Int)):=by
   intro u v;rw[z6];simp only[beq_iff_eq,decide_eq_true_eq];rw[<-UInt8.toNat_inj];omega
  simp[h,e]
def GR (s)(k:Nat)(w)(t:k<s.size)(B:s.size<=3000):
  F U 129 #[Z s,Y O k] w fun e u=>e=K (Y O (Wb s k))/\u=w:=by
 have v:=fun w=>Xf (P:=U) underlying9 s k (k:Int) rfl t w
 by_cases j:k+2<=s.size
 ·have m:(k:Int)+1<(s.size:Int):=az;have x:(k:Int)<=(k:Int)+2:=az;have y:(k:Int)+2<=(s.size:Int):=az;have C:((k:Int)+2).toNat=k+2:=az;have t1:((s.extract k (k+2)).toList==[46,46])=OS s k 46 46:=Nj s k 46 46 j;have r:((s.extract k (k+2)).toList==[45,62])=OS s k 45 62:=Nj s k 45 62 j
  cases i:OS s k 46 46 with
  |true=>
   have a:V (Wb s k=2):=by show _=_;simp[Wb,i]
   rw[i]at t1;go_enter func129,ntmps129;go_wp2;go_ret;exact⟨ZQ (by rw[a.o];rfl),rfl⟩
  |false=>
   cases l:OS s k 45 62 with
   |true=>
    have a:V (Wb s k=2):=by show _=_;simp[Wb,i,l]
    rw[i]at t1;rw[l]at r;go_enter func129,ntmps129;go_wp2;go_ret;exact⟨ZQ (by rw[a.o];rfl),rfl⟩
   |false=>
    have a:V (Wb s k=if Zy s k=59\/Zy s k=58\/Zy s k=44 then 1 else 0):=by show _=_;simp[Wb,i,l]
    rw[i]at t1;rw[l]at r;generalize Zy s k=c at*;by_cases d:c=59
    ·have n:(c==59)=true:=by simp[d]
     have b:=o d;go_enter func129,ntmps129;go_wp2;go_ret;exact⟨ZQ (by rw[a.o,b.o];rfl),rfl⟩
    have n:(c==59)=false:=by simp[d]
    by_cases f:c=58
    ·have p:(c==58)=true:=by simp[f]
     have b:=o f;go_enter func129,ntmps129;go_wp2;go_ret;exact⟨ZQ (by rw[a.o,b.o];rfl),rfl⟩
    have p:(c==58)=false:=by simp[f]
    by_cases g:c=44
    ·have q:(c==44)=true:=by simp[g]
     have b:=o g;go_enter func129,ntmps129;go_wp2;go_ret;exact⟨ZQ (by rw[a.o,b.o];rfl),rfl⟩
    have q:(c==44)=false:=by simp[g]
    have h:V (Wb s k=0):=by show _=_;rw[a.o,if_neg az]
    go_enter func129,ntmps129;go_wp2;go_ret;exact⟨ZQ (by rw[h.o];rfl),rfl⟩
 have m:¬(k:Int)+1<(s.size:Int):=az
 have z:OS s k 46 46=false:=by simp[OS,j]
 have A:OS s k 45 62=false:=by simp[OS,j]
 have a:V (Wb s k=if Zy s k=59\/Zy s k=58\/Zy s k=44 then 1 else 0):=by show _=_;simp[Wb,z,A]
 generalize Zy s k=c at*;by_cases d:c=59
 ·have n:(c==59)=true:=by simp[d]
  have b:=o d;go_enter func129,ntmps129;go_wp2;go_ret;exact⟨ZQ (by rw[a.o,b.o];rfl),rfl⟩
 have n:(c==59)=false:=by simp[d]
 by_cases f:c=58
 ·have p:(c==58)=true:=by simp[f]
  have b:=o f;go_enter func129,ntmps129;go_wp2;go_ret;exact⟨ZQ (by rw[a.o,b.o];rfl),rfl⟩
 have p:(c==58)=false:=by simp[f]
 by_cases g:c=44
 ·have q:(c==44)=true:=by simp[g]
  have b:=o g;go_enter func129,ntmps129;go_wp2;go_ret;exact⟨ZQ (by rw[a.o,b.o];rfl),rfl⟩
 have q:(c==44)=false:=by simp[g]
 have h:V (Wb s k=0):=by show _=_;rw[a.o,if_neg az]
 go_enter func129,ntmps129;go_wp2;go_ret;exact⟨ZQ (by rw[h.o];rfl),rfl⟩
def UN (t:Tk):Int:=if t.sort=0 then 110 else if t.sort=1 then 105 else if Xe t.text then 107 else 115
def V9 (t:Tk):List y0:=[Z t.text,Y Q (UN t),Y O t.line]
def VF (a:List Tk):List y0:=a.flatMap V9
def GS (a t):VF (a++[t])=VF a++V9 t:=by simp[VF]
def IG:(U.info? 166).map (fun i=>(i.zero,i.size,i.bytes))=I (I (.agg #[Z D,Y Q 0,Y O 0]),3,32):=n
def UJ:Hs->ByteArray
 | .rules=>⟨#[114,117,108,101,115]⟩
 | .mccs=>⟨#[109,99,99,115]⟩
 | .amounts=>⟨#[97,109,111,117,110,116,115]⟩
 | .curs=>⟨#[99,117,114,115]⟩
 | .ints=>⟨#[105,110,116,115]⟩
 | .names=>⟨#[110,97,109,101,115]⟩
 | .action=>⟨#[97,99,116,105,111,110]⟩
 | .NAME=>⟨#[78,65,77,69]⟩
 | .INT=>⟨#[73,78,84]⟩
 | .lit m=>m
def Z3 (l:List Hs):List y0:=l.map fun y=>Value.string (UJ y)
def T9 (x:Option (List Hs))(w:z7)(e:Ending)(a:z7):Prop:=
 match x with
 |some l=>(∃g c,e=K (.tuple #[B (I ⟨g,0,J⟩) l.length c,G true])/\w.heap.size<=g/\g<a.heap.size/\∀j u,(Z3 l)[j]?=I u->a.cell? ⟨g,j,J⟩=I u)/\F0 w a
 |none=>e=K (.tuple #[B J 0 0,G false])/\F0 w a
def T9.some {x w w' e l}(h:x=I l):T9 x w e w'↔(∃g c,e=K (.tuple #[B (I ⟨g,0,J⟩) l.length c,G true])/\w.heap.size<=g/\g<w'.heap.size/\∀j u,(Z3 l)[j]?=I u->w'.cell? ⟨g,j,J⟩=I u)/\F0 w w':=by subst h;exact Iff.rfl
def T9.none {x w w' e}(h:x=J):T9 x w e w'↔e=K (.tuple #[B J 0 0,G false])/\F0 w w':=by subst h;exact Iff.rfl
def AC {w a l d c H T}(e:F0 w a)(b:d.toList=Z3 l)(g:a.heap.size=H):T9 (I l) w (K (.tuple #[B (I ⟨H,0,J⟩) l.length c,G true])) (a.alloc (.cells d T)):=by
 subst g;refine(T9.some rfl).2 ⟨⟨_,_,rfl,e.size,y,fun j u f=>?_⟩,e.alloc _⟩;rw[<-b]at f;exact bC (aN a _) j _ (by simpa using f)
def GT {w a l c g}(b:l=[])(d:w.heap.size<=g)(e:g<a.heap.size)(f:F0 w a):T9 (I l) w (K (.tuple #[B (I ⟨g,0,J⟩) 0 c,G true])) a:=by
 subst b;exact(T9.some rfl).2 ⟨⟨_,_,rfl,d,e,fun j u h=>by simp[Z3]at h⟩,f⟩
def AD:∀m,m∈Wi->(m.data.toList==[114,117,108,101,115])=false/\(m.data.toList==[109,99,99,115])=false/\(m.data.toList==[97,109,111,117,110,116,115])=false/\(m.data.toList==[99,117,114,115])=false/\(m.data.toList==[105,110,116,115])=false/\(m.data.toList==[110,97,109,101,115])=false/\(m.data.toList==[97,99,116,105,111,110])=false:=aB
def CN {a:ByteArray}{l}(h:(a.data.toList==l)=false):(a.toList==l)=false:=by rw[ByteArray.toList_eq];exact h
def tf {a:ByteArray}{l}(h:(a.data.toList==l)=true):(a.toList==l)=true:=by rw[ByteArray.toList_eq];exact h
def Uz {t}(h:VK t){m}(a:m∈Wi){l}(b:m.data.toList=l):(t.text.toList==l)=Zn t m:=by
 rw[h m a,ByteArray.toList_eq m,b]
def GU (y t)(b c:Int)(w)(d:∀m,y=.lit m->m∈Wi)(a:VK t):
    F U 130 #[.string (UJ y),.agg #[.string t.text,.int .u8 b,.int .i64 c]] w (T9 (YB y t) w):=by
  have e:YB y t=(if((UJ y).toList==[114,117,108,101,115])=true then(if Zn t Va=true then I Oe else if Zn t Uh=true then I Mu else I [])
      else if((UJ y).toList==[109,99,99,115])=true then(if Zn t Vj=true then I [.lit Vj,.INT,.ints]else I [])
      else if((UJ y).toList==[97,109,111,117,110,116,115])=true then(if Zn t Z9=true then I [.lit Z9,.INT,.lit Ue,.INT]else I [])
      else if((UJ y).toList==[99,117,114,115])=true then(if Zn t VG=true then I [.lit VG,.INT,.ints]else I [])
      else if((UJ y).toList==[105,110,116,115])=true then(if Zn t Y8=true then I [.lit Y8,.INT,.ints]else I [])
      else if((UJ y).toList==[110,97,109,101,115])=true then(if Zn t Y8=true then I [.lit Y8,.NAME,.names]else I [])
      else if((UJ y).toList==[97,99,116,105,111,110])=true then(if Zn t YU=true then I [.lit YU]else if Zn t Yn=true then I [.lit Yn,.NAME,.names]else I [.NAME,.names])
      else J):=by
    rw[ByteArray.toList_eq]
    cases y with
    | lit m=>
      have h:=AD m (d m rfl);simp[UJ,YB,h]
    |_=>simp[UJ,YB]<;>(repeat' split)<;>rfl
  rw[e];have f:=Uz a (m:=Va) (by simp[Wi]) rfl;have g:=Uz a (m:=Uh) (by simp[Wi]) rfl;have i:=Uz a (m:=Vj) (by simp[Wi]) rfl;have j:=Uz a (m:=Z9) (by simp[Wi]) rfl;have k:=Uz a (m:=VG) (by simp[Wi]) rfl;have l:=Uz a (m:=Y8) (by simp[Wi]) rfl;have n:=Uz a (m:=YU) (by simp[Wi]) rfl;have o:=Uz a (m:=Yn) (by simp[Wi]) rfl;generalize UJ y=x at*
  (repeat' split)<;>
    (simp only[Bool.not_eq_true,<-f,<-g,<-i,<-j,<-k,<-l,<-n,<-o]at*
     try simp only[Va,Uh,Vj,Z9,VG,Y8,YU,Yn,List.toList_toArray]at*
     go_enter func130,ntmps130;go_wp2
     go_ret2
     first|exact AC ((Zo.alloc _).alloc _) aD aA|exact GT rfl aA aA ((Zo.alloc _).alloc _)|exact(T9.none rfl).2 ⟨rfl,(Zo.alloc _).alloc _⟩)
def Sa (g o k):(⟨g,o,J⟩:Addr).add k=⟨g,o+k,J⟩:=aK
def sK:Hs->Nat
 | .rules=>15
 | .amounts=>4
 | .mccs| .curs| .ints| .names| .action=>3
 |_=>1
def sM:List Hs->Prop
 |[]=>True
 |y::r=>sK y+r.length<=15/\(∀m,y=.lit m->m∈Wi)/\sM r
def xA {y r}(a:sK y+r.length<=15)(b:∀m,y=.lit m->m∈Wi)(c:sM r):sM (y::r):=⟨a,b,c⟩
def II {y r l t}(h:sM (y::r))(a:YB y t=I l):sM (l++r):=by
 obtain⟨b,d,c⟩:=h
 cases y<;>simp only[YB]at a
 all_goals first|(injection a with a)|(cases a;done)
 all_goals subst a
 all_goals repeat' split
 all_goals simp only[Oe,Mu,List.cons_append,List.nil_append]
 all_goals simp only[sK]at b
 all_goals repeat' (apply xA)
 all_goals first|exact c|(simp only[sK,List.length_cons];omega)|(intro m e;cases e;done)|(intro m e;cases e;simp[Wi])
def ua {st}(h:sM st):st.length<=15:=by
 cases st with
 |nil=>simp
 |cons y r=>
  have a:=h.1
  have:1<=sK y:=by cases y<;>simp[sK]
  simp;omega
def Lz:∀(a:List Tk)(j:Nat)(t:Tk),a[j]?=I t->(VF a)[j*3]?=I (Z t.text)/\(VF a)[j*3+1]?=I (Y Q (UN t))/\(VF a)[j*3+2]?=I (Y O t.line)
 |[],j,t,h=>by simp at h
 |x::r,0,t,h=>by simp at h;subst h;exact⟨rfl,rfl,rfl⟩
 |x::r,j+1,t,h=>by
  have:=Lz r j t (by simpa using h)
  have e:VF (x::r)=V9 x++VF r:=by simp[VF]
  have l:(V9 x).length=3:=rfl;rw[e];refine⟨?_,?_,?_⟩
  ·rw[aR z,l,show(j+1)*3-3=j*3 from z];exact this.1
  ·rw[aR z,l,show(j+1)*3+1-3=j*3+1 from z];exact this.2.1
  rw[aR z,l,show(j+1)*3+2-3=j*3+2 from z];exact this.2.2
def th (w:z7)(g:Nat)(ts:List Tk):Prop:=∀j t,ts[j]?=I t->w.cell? ⟨g,j*3,J⟩=I (Z t.text)/\w.cell? ⟨g,j*3+1,J⟩=I (Y Q (UN t))/\w.cell? ⟨g,j*3+2,J⟩=I (Y O t.line)
def th.fr {w w' g ts S}(h:th w g ts)(a:Fr S w w')(b:g<w.heap.size)(c:¬S g:=by simp):th w' g ts:=fun j t d=>
 ⟨(a.cell (p:=⟨g,j*3,J⟩) b c).trans (h j t d).1,(a.cell (p:=⟨g,j*3+1,J⟩) b c).trans (h j t d).2.1,(a.cell (p:=⟨g,j*3+2,J⟩) b c).trans (h j t d).2.2⟩
def PT {w f v ts}(h:w.ownsRow f 166 3 v ts.length (VF ts)):
  ∃a c,v=B a ts.length c/\(0<ts.length->∃g,a=I ⟨g,0,J⟩/\f<=g/\g<w.heap.size/\th w g ts):=by
 obtain⟨a,c,e⟩:=oL h;refine⟨a,c,e,fun m=>?_⟩;obtain⟨g,n,l,o,p⟩:=h.form m;rw[e]at l;injection l with q _ r;subst q r;subst e;refine⟨g,rfl,o,p,fun j t s=>?_⟩;obtain⟨a,b,c⟩:=Lz ts j t s
 have d:∀k,(⟨g,0,J⟩:Addr).add k=⟨g,k,J⟩:=fun k=>aK
 have i:=h.cells (g:=g) rfl;exact⟨by have:=i _ _ a;rwa [d]at this,by have:=i _ _ b;rwa [d]at this,by have:=i _ _ c;rwa [d]at this⟩
def Wt (w:z7)(b:Nat)(v:y0)(d:List Hs):Prop:=
 ∃a c,v=B a d.length c/\d.length<=c/\(0<d.length->∃g o,a=I ⟨g,o,J⟩/\b<=g/\g<w.heap.size/\∀j u,(Z3 d)[j]?=I u->w.cell? ⟨g,o+j,J⟩=I u)
def Wt.fr {w w' base v d}(h:Wt w base v d)(f:F0 w w'):Wt w' base v d:=by
 obtain⟨a,c,e,k,h⟩:=h;refine⟨a,c,e,k,fun l=>?_⟩;obtain⟨g,o,m,n,i,b⟩:=h l;exact⟨g,o,m,n,nL i f.size,fun j u q=>(f.cell (p:=⟨g,o+j,J⟩) i).trans (b j u q)⟩
def Wt.of_row {w a v c}(h:w.ownsRow a 9 1 v c.length (Z3 c)):Wt w a v c:=by
 rcases h.2 with⟨rfl,l⟩|⟨g,m,n,rfl,_⟩
 ·exact⟨J,0,by rw[l],z,fun f=>z⟩
 refine⟨_,_,rfl,?_,fun f=>?_⟩
 ·rename_i o;exact o.2.2.1
 obtain⟨p,i,e,q,r⟩:=h.form f;injection e with d x y
 have s:g=p:=by injection d with d;injection d
 subst s
 have b:∀k,(⟨g,0,J⟩:Addr).add k=⟨g,k,J⟩:=fun k=>aK
 refine⟨g,0,rfl,q,r,fun j u t=>?_⟩;have:=h.cells (g:=g) rfl j u t;rw[b]at this;rw[z4];exact this
def NF:(U.info? 9).map (fun i=>(i.zero,i.size,i.bytes))=I (I (Z D),1,16):=n
def Vz (ts:List Tk)(r:Option Nat):Int:=
 match r with
 |none=>0
 |some j=>if(Zp ts j).sort=3 then-1 else((Zp ts j).line:Int)
def PU (y t T)(a b:Int)(w)(c:∀m,y=.lit m->m∈Wi)(d:VK t)(e:T=t.text):
  F U 130 #[.string (UJ y),.agg #[.string T,.int .u8 a,.int .i64 b]] w (T9 (YB y t) w):=by
 subst e;exact GU y t a b w c d
def rS (t):(UN t==110)=decide (t.sort=0):=by
 unfold UN;by_cases a:t.sort=0
 ·simp[a]
 by_cases b:t.sort=1
 ·simp[b]
 by_cases c:Xe t.text=true<;>simp[a,b,c]
def tt (t):(UN t==105)=decide (t.sort=1):=by
 unfold UN;by_cases a:t.sort=0
 ·simp[a]
 by_cases b:t.sort=1
 ·simp[b]
 by_cases c:Xe t.text=true<;>simp[a,b,c]
def rT (t):(UN t==101)=false:=by
 unfold UN;by_cases a:t.sort=0
 ·simp[a]
 by_cases b:t.sort=1
 ·simp[b]
 by_cases c:Xe t.text=true<;>simp[a,b,c]
def NT {t a l}(h:Zy t 0≠(a.toNat:Int)):((a::l)==t.toList)=false:=by
 rw[z5];intro e
 have b:a::l=t.toList:=by simpa using e
 rw[ByteArray.toList_eq]at b;apply h;unfold Zy;rw[<-b];rfl
def LA:∀m,m∈Wi->(m.data.toList==[78,65,77,69])=false/\(m.data.toList==[73,78,84])=false:=aB
def xB {t}(h:VK t){m T}(a:m∈Wi)(b:T=t.text):(m.toList==T.toList)=Zn t m:=by
 rw[h m a,b,z6];simp only[beq_iff_eq];exact eq_comm
def Wt.pop1 {w d g o n y c}(f:(y::c).length=n)(i:n<=1):Wt w d (B (I ⟨g,o,J⟩) (n-1) 0) c:=by
 have e:c=[]:=by
  cases c with
  |nil=>rfl
  |cons a b=>simp at f;omega
 subst e;exact⟨_,0,by simp at f;subst f;rfl,aA,fun h=>by simp at h⟩
def Wt.pop {w b g o n c y a}(f:(y::a).length=n)(l:n<=c)(h:b<=g)(i:g<w.heap.size)(d:∀j u,(Z3 (y::a))[j]?=I u->w.cell? ⟨g,o+j,J⟩=I u):Wt w b (B (I ⟨g,o+1,J⟩) (n-1) (c-1)) a:=by
 have e:n-1=a.length:=by simp at f;omega
 exact⟨_,c-1,by rw[e],z,fun _=>⟨g,o+1,rfl,h,i,fun j u k=>by rw[show o+1+j=o+(j+1)from z];exact d (j+1) u (by simpa[Z3]using k)⟩⟩
def Ua (x:Except Nat (List Tk))(w:z7)(e:Ending)(a:z7):Prop:=
 match x with
 | .ok ts=>(∃v,e=K (.tuple #[v,Y O 0])/\a.ownsRow w.heap.size 166 3 v ts.dropLast.length (VF ts.dropLast))/\F0 w a
 | .error l=>e=K (.tuple #[B J 0 0,Y O l])/\F0 w a
def Ua.ok {x w w' e ts}(h:x=.ok ts):Ua x w e w'↔(∃v,e=K (.tuple #[v,Y O 0])/\w'.ownsRow w.heap.size 166 3 v ts.dropLast.length (VF ts.dropLast))/\F0 w w':=by subst h;exact Iff.rfl
def Ua.err {x:Except Nat (List Tk)}{w a e}{l:Nat}(h:x=.error l):Ua x w e a↔e=K (.tuple #[B J 0 0,Y O l])/\F0 w a:=by subst h;exact Iff.rfl
def ub {x}(h:Xe x=true):x.size<=8:=by
 rw[QH]at h
 have a:x.data.toList∈vA:=by simpa using h
 have b:∀l,l∈vA->l.length<=8:=aB;have:=b _ a
 simpa using this
def uc (s k)(a:k+Wb s k<=s.size):Xe (s.extract k (k+Wb s k))=false:=by
 rw[z5];intro h;rw[QH]at h
 have b:(s.extract k (k+Wb s k)).data.toList∈vA:=by simpa using h
 have c:∀l,l∈vA->2<l.length:=aB;have d:=c _ b
 have f:Wb s k<=2:=by unfold Wb;split<;>(try split)<;>omega
 have e:(s.extract k (k+Wb s k)).data.toList.length=(s.extract k (k+Wb s k)).size:=by rw[Array.length_toList];rfl
 rw[e,ByteArray.size_extract]at d;omega
def Ry (p s k j n)(a:j<s.size)(h:n=j-k+ZB p s j)(c:k<=j)(b:p (Zy s j)=true):n=j+1-k+ZB p s (j+1):=by
 rw[h];unfold ZB;rw[Tu p s j a,if_pos b];omega
def Dk (p s j)(a:j<s.size)(b:p (Zy s j)=false):ZB p s j=0:=by
 unfold ZB;rw[Tu p s j a,b];rfl
def Dl (p s j)(a:¬j<s.size):ZB p s j=0:=N0 p s j z
def Sb (p s k j n)(h:n=j-k+ZB p s j)(c:k<=j)(b:¬(j<s.size/\p (Zy s j)=true)):j=k+n:=by
 have d:ZB p s j=0:=by
  by_cases a:j<s.size
  ·exact Dk p s j a (by simpa using fun e=>b ⟨a,e⟩)
  exact Dl p s j a
 omega
def xC (s k a)(d:Zy s k≠10)(f:¬(Zy s k=32\/Zy s k=9))(e:Zy s k≠35)(i:¬(48<=Zy s k/\Zy s k<=57))(c:¬(97<=Zy s k/\Zy s k<=122)):
  Zt s k a=if Wb s k=0 then .bad else .tok ⟨2,s.extract k (k+Wb s k),a⟩ (k+Wb s k):=by
 have g:ZM (Zy s k)=false:=by simp[ZM];omega
 have h:iD (Zy s k)=false:=by simp[iD];omega
 unfold Zt Wb;rw[if_neg d,if_neg f,if_neg e,g,h];simp only[Bool.false_eq_true,if_false];by_cases b:(OS s k 46 46||OS s k 45 62)=true
 ·have c:¬(Zy s k=59\/Zy s k=58\/Zy s k=44):=by
   simp only[M]at b
   rcases b with b|b<;>have:=Es b<;>omega
  simp[b,c]
 by_cases c:Zy s k=59\/Zy s k=58\/Zy s k=44<;>simp[b,c]
def ud (s k)(b:k<s.size):Wb s k<=2/\k+Wb s k<=s.size:=by
 unfold Wb
 split
 ·rename_i a;simp only[M]at a
  have:k+2<=s.size:=by rcases a with a|a<;>exact J1 a
  omega
 split<;>omega
def Dm (s w)(hs:s.size<=3000):F U 78 #[Z s] w (Ua (ZN s 0 1 []) w):=by
  have IX:V (∀(j:Nat),j<s.size->∀w,_):=fun j hj w=>Xf (P:=U) underlying9 s j (j:Int) rfl hj w
  go_enter func78,ntmps78;go_wp2
  go_loopg [4,5,6] s.size (fun m o l i wr=>∃k a f,k<=s.size/\m=s.size-k/\l=Y O (a:Nat)/\i=Y O (k:Nat)/\a<=k+1/\f.length<=k/\V (wr.ownsRow w.heap.size 166 3 o f.length (VF f))/\V (F0 w wr)/\V (ZN s 0 1 []=ZN s k a f))
  case atStart=>exact⟨0,1,[],R _,rfl,rfl,rfl,az,aA,oZ _ _ _ _,Zo,rfl⟩
  obtain⟨k,a,f,hk,rfl,rfl,rfl,z0,A0,HO,W,X⟩:=hrel;have B0:=W.o.size;by_cases D:k<s.size
  · have r:=Za D
    have o0:=af k s.size;have a0:=IX.o k D;by_cases H:Zy s k=10
    · have p:V (Zt s k a=.skip (k+1) (a+1)):=by show _=_;simp[Zt,H]
      rw[H]at a0;go_wp2;go_roundg (s.size-(k+1))
      case measure=>omega
      exact⟨k+1,a+1,f,az,rfl,aE,aE,az,az,HO,W,X.o.trans (YP r.o p.o)⟩
    by_cases G:Zy s k=32\/Zy s k=9
    · have p:V (Zt s k a=.skip (k+1) a):=by show _=_;simp[Zt,H,G]
      rcases G with h|h<;>
      (rw[h]at a0
       go_wp2;go_roundg (s.size-(k+1))
       case measure=>omega
       exact⟨k+1,a,f,az,rfl,rfl,aE,az,az,HO,W,X.o.trans (YP r.o p.o)⟩)
    by_cases I:Zy s k=35
    · have p:V (Zt s k a=.skip (k+ZB ZY s k) a):=by show _=_;simp[Zt,I]
      have x:=XT ZY s k D (by simp[ZY,I]);rw[I]at a0;obtain⟨n,G⟩:=ae (ZB ZY s k);rw[<-G]at p x;have HN:V (n=k-k+ZB ZY s k):=aQ;go_wp2
      go_loop [6] (fun i=>∃j:Nat,k<=j/\j<=s.size/\i=Y O j/\V (n=j-k+ZB ZY s j)) (fun i=>s.size-(intOf i).toNat)
      case atStart=>exact⟨k,E _,hk,rfl,HN⟩
      obtain⟨j,y,d,rfl,HJ⟩:=hrel;by_cases e:j<s.size/\ZY (Zy s j)=true
      · obtain⟨b,N⟩:=e
        have z:=af j s.size;have K:=IX.o j b;have L:=Za (Ry ZY s k j n b HJ.o y N)
        have C0:(Zy s j==10)=false:=by simpa[ZY]using N
        have D0:(Zy s j !=10)=true:=by simpa[ZY]using N
        generalize Zy s j=c at*;go_wp2;exact⟨⟨j+1,az,az,aE,L⟩,by simp[intOf];omega⟩
      have q:=Za (Sb _ s k j n HJ.o y e);by_cases b:j<s.size
      · have z:=af j s.size
        have K:=IX.o j b
        have N:Zy s j=10:=by simpa[ZY,b]using e
        rw[N]at K;go_wp2;go_roundg (s.size-j)
        case measure=>have:=q.o;omega
        exact⟨j,a,f,az,rfl,rfl,rfl,az,az,HO,W,by rw[q.o];exact X.o.trans (YP r.o p.o)⟩
      have z:=ai j s.size;go_wp2;go_roundg (s.size-j)
      case measure=>have:=q.o;omega
      exact⟨j,a,f,az,rfl,rfl,rfl,az,az,HO,W,by rw[q.o];exact X.o.trans (YP r.o p.o)⟩
    have p0:(Zy s k==10)=false:=by simp[H]
    have q0:(Zy s k==32)=false:=aF;have d9:(Zy s k==9)=false:=aF
    have r0:(Zy s k==35)=false:=by simp[I]
    obtain⟨c,hc⟩:=ad (Zy s k);have S:=Za hc;rw[hc]at a0 H G I p0 q0 d9 r0;have A:V (c≠10/\¬(c=32\/c=9)/\c≠35):=⟨H,G,I⟩
    go_upto_block 5 with fail
    go_cut [8,9]from 12 to 148 (fun v8 v9 wx=>∃(j:Nat)(kd:Int)(t:Tk),v8=Y O j/\v9=Y Q kd/\k<j/\j<=s.size/\V (Zt s k a=.tok t j/\V9 t=[Z (s.extract k j),Y Q kd,Y O a])/\wx=wr)
    case rest=>
      obtain⟨j,kd,t,rfl,rfl,T,d,p,rfl⟩:=hcut;have s0:(k:Int)<=(j:Int):=az;have t0:(j:Int)<=(s.size:Int):=az
      go_wp2_with (at_builtin;refine ao w.heap.size IG underlying67 u4 f.length (VF f) ?h1 ⟨wc.heap.size,0,J⟩ [Z (s.extract k j),Y Q kd,Y O a] ?h2 ?_ (k4:=?h6))
      case h1=>exact HO.o.alloc _
      try case h2=>exact World.news_of_block (aN wc _)
      case h6=>first|omega|(simp;omega)
      intro g2 y0 w4 i0 e0 _ _;have v0:=Za i0;have w0:=Za ((W.o.alloc _).grown e0 (fun k hk=>Or.inr (HO.o.lt k hk).1));go_wp2;go_roundg (s.size-j)
      case measure=>omega
      refine⟨j,a,f++[t],az,rfl,rfl,aE,az,aF,?_,w0,X.o.trans (WK r.o p.o.1)⟩
      show World.ownsRow _ _ _ _ _ _ _
      rw[GS,lA,p.o.2];exact v0.o
    by_cases b0:48<=c/\c<=57
    · have hD:iD c=true:=by simp[iD];exact b0
      have hS:ZM c=false:=by simp[ZM];omega
      obtain⟨n,G⟩:=ad (ZB iD s k)
      have HB:V (9<n->Zt s k a=.bad):=fun h=>by simp[Zt,S.o,A.o,hS,hD,G,h]
      have HG:V (¬9<n->Zt s k a=.tok ⟨1,s.extract k (k+n),a⟩ (k+n)):=fun h=>by simp[Zt,S.o,A.o,hS,hD,G,h]
      have x:=XT iD s k D (by rw[S.o];exact hD);have f0:=Xz iD s k hk;rw[G]at x f0;have HN:V (n=k-k+ZB iD s k):=aQ;obtain⟨g1,g2⟩:=b0
      go_upto_block 6 with fail
      go_cut [8]from 12 to 148 (fun v wx=>∃j:Nat,v=Y O j/\j<=s.size/\V (j=k+n)/\wx=wr)
      case first=>
        go_wp2
        go_loop [8] (fun i=>∃j:Nat,k<=j/\j<=s.size/\i=Y O j/\V (n=j-k+ZB iD s j)) (fun i=>s.size-(intOf i).toNat)
        case atStart=>exact⟨k,E _,hk,rfl,HN⟩
        obtain⟨j,y,d,rfl,HJ⟩:=hrel;by_cases e:j<s.size/\iD (Zy s j)=true
        · obtain⟨b,N⟩:=e
          have z:=af j s.size;have K:=IX.o j b;have L:=Za (Ry iD s k j n b HJ.o y N);simp only[iD,decide_eq_true_eq]at N;obtain⟨g1,g2⟩:=N;generalize Zy s j=c at*;go_wp2;exact⟨⟨j+1,az,az,aE,L⟩,by simp[intOf];omega⟩
        have q:=Za (Sb _ s k j n HJ.o y e);by_cases b:j<s.size
        · have z:=af j s.size
          have K:=IX.o j b;simp only[iD,decide_eq_true_eq,b,true_and]at e;generalize Zy s j=c at*;by_cases g1:48<=c
          · have g2:¬c<=57:=fun h=>e ⟨g1,h⟩
            go_wp2;go_meet;exact⟨j,rfl,d,q,rfl⟩
          clear e;go_wp2;go_meet;exact⟨j,rfl,d,q,rfl⟩
        have z:=ai j s.size;go_wp2;go_meet;exact⟨j,rfl,d,q,rfl⟩
      obtain⟨j,rfl,d,q,rfl⟩:=hcut;have x0:C.wrap ((j:Int)-(k:Int))=(j:Int)-(k:Int):=IntWalk.i64_in _ az;by_cases h9:9<n
      · have c0:(9:Int)<(j:Int)-(k:Int):=by have:=q.o;omega
        have p:=Za (HB.o h9);go_wp2
        go_ret2
        exact(Ua.err (X.o.trans (XC r.o p.o))).2 ⟨rfl,W.o⟩
      have c0:¬(9:Int)<(j:Int)-(k:Int):=aj q.o;have p:=Za (HG.o h9);rw[<-q.o]at p;have T:k<j:=aj q.o;go_wp2;go_meet;exact⟨j,105,_,rfl,rfl,T,d,⟨p.o,rfl⟩,rfl⟩
    by_cases d0:97<=c/\c<=122
    · have hD:iD c=false:=by simp[iD];omega
      have hS:ZM c=true:=by simp[ZM];exact d0
      obtain⟨n,G⟩:=ad (ZB Zr s k)
      have HW:V (Xe (s.extract k (k+n))=true->Zt s k a=.tok ⟨2,s.extract k (k+n),a⟩ (k+n)):=fun h=>by simp[Zt,S.o,A.o,hS,G,h]
      have HB:V (Xe (s.extract k (k+n))=false->8<n->Zt s k a=.bad):=fun h h2=>by simp[Zt,S.o,A.o,hS,G,h,h2]
      have HG:V (Xe (s.extract k (k+n))=false->¬8<n->Zt s k a=.tok ⟨0,s.extract k (k+n),a⟩ (k+n)):=fun h h2=>by simp[Zt,S.o,A.o,hS,G,h,h2]
      have x:=XT Zr s k D (by rw[S.o];simp[Zr,hS]);have f0:=Xz Zr s k hk;rw[G]at x f0;have HN:V (n=k-k+ZB Zr s k):=aQ;obtain⟨g1,g2⟩:=d0;have g3:¬c<=57:=az
      go_upto_block 8 with fail
      go_cut [8]from 12 to 148 (fun v wx=>∃j:Nat,v=Y O j/\j<=s.size/\V (j=k+n)/\wx=wr)
      case first=>
        go_wp2
        go_loop [8] (fun i=>∃j:Nat,k<=j/\j<=s.size/\i=Y O j/\V (n=j-k+ZB Zr s j)) (fun i=>s.size-(intOf i).toNat)
        case atStart=>exact⟨k,E _,hk,rfl,HN⟩
        obtain⟨j,y,d,rfl,HJ⟩:=hrel;by_cases e:j<s.size/\Zr (Zy s j)=true
        · obtain⟨b,N⟩:=e
          have z:=af j s.size;have K:=IX.o j b;have L:=Za (Ry Zr s k j n b HJ.o y N);simp only[Zr,ZM,iD,M,decide_eq_true_eq]at N;generalize Zy s j=c at*;by_cases g1:97<=c
          · have g2:c<=122:=by omega
            go_wp2;exact⟨⟨j+1,az,az,aE,L⟩,by simp[intOf];omega⟩
          have g2:48<=c:=az;have g3:c<=57:=az;go_wp2;exact⟨⟨j+1,az,az,aE,L⟩,by simp[intOf];omega⟩
        have q:=Za (Sb _ s k j n HJ.o y e);by_cases b:j<s.size
        · have z:=af j s.size
          have K:=IX.o j b;simp only[Zr,ZM,iD,M,decide_eq_true_eq,b,true_and]at e;generalize Zy s j=c at*;by_cases g1:97<=c
          · have g2:¬c<=122:=by omega
            have g3:48<=c:=az;have g4:¬c<=57:=az;go_wp2;go_meet;exact⟨j,rfl,d,q,rfl⟩
          by_cases g3:48<=c
          · have g4:¬c<=57:=by omega
            go_wp2;go_meet;exact⟨j,rfl,d,q,rfl⟩
          clear e;go_wp2;go_meet;exact⟨j,rfl,d,q,rfl⟩
        have z:=ai j s.size;go_wp2;go_meet;exact⟨j,rfl,d,q,rfl⟩
      obtain⟨j,rfl,d,q,rfl⟩:=hcut;have x0:C.wrap ((j:Int)-(k:Int))=(j:Int)-(k:Int):=IntWalk.i64_in _ az;have T:k<j:=aj q.o;have s0:(k:Int)<=(j:Int):=az;have t0:(j:Int)<=(s.size:Int):=az;rw[<-q.o]at HW HB HG
      cases B:Xe (s.extract k j)with
      | true=>
        have p:=Za (HW.o B)
        have c0:¬(8:Int)<(j:Int)-(k:Int):=by
          have h8:=ub B;rw[ByteArray.size_extract]at h8;omega
        have HK:V (V9 ⟨2,s.extract k j,a⟩=[Z (s.extract k j),Y Q 107,Y O a]):=by show _=_;simp[V9,UN,B]
        go_wp2_with (go_at_call 128;refine Bp (Rg _ _) fun w' u=>?_;replace u:=u.symm;subst u;simp only[B])
        go_meet;exact⟨j,107,_,rfl,rfl,T,d,⟨p.o,HK.o⟩,rfl⟩
      | false=>
        by_cases h8:8<n
        · have c0:(8:Int)<(j:Int)-(k:Int):=by have:=q.o;omega
          have p:=Za (HB.o B h8)
          go_wp2_with (go_at_call 128;refine Bp (Rg _ _) fun w' u=>?_;replace u:=u.symm;subst u;simp only[B])
          go_ret2
          exact(Ua.err (X.o.trans (XC r.o p.o))).2 ⟨rfl,W.o⟩
        have c0:¬(8:Int)<(j:Int)-(k:Int):=aj q.o;have p:=Za (HG.o B h8)
        go_wp2_with (go_at_call 128;refine Bp (Rg _ _) fun w' u=>?_;replace u:=u.symm;subst u;simp only[B])
        go_meet;exact⟨j,110,_,rfl,rfl,T,d,⟨p.o,rfl⟩,rfl⟩
    have hT:=xC s k a (by rw[S.o];exact A.o.1) (by rw[S.o];exact A.o.2.1) (by rw[S.o];exact A.o.2.2) (by rw[S.o];exact b0) (by rw[S.o];exact d0);have g0:=ud s k D;have HX:=Za (uc s k g0.2);obtain⟨n,j0⟩:=ad (Wb s k);have k0:=Za j0;rw[j0]at hT g0 HX;have g:(48<=c/\¬c<=57/\97<=c/\¬c<=122)\/(48<=c/\¬c<=57/\¬97<=c)\/(¬48<=c/\¬97<=c):=az
    rcases g with⟨g1,g2,g3,g4⟩|⟨g1,g2,g3⟩|⟨g1,g3⟩<;>clear b0 d0<;>by_cases h0:n=0
    all_goals first
      | (have hz:(((n:Nat):Int)==0)=true:=by simp;omega
         rw[if_pos h0]at hT;have p:=Za hT
         go_wp2_with (go_at_call 129;refine Bp (GR _ _ _ r.o hs) fun w' u=>?_;replace u:=u.symm;subst u;rw[k0.o])
         go_ret2
         exact(Ua.err (X.o.trans (XC r.o p.o))).2 ⟨rfl,W.o⟩)
      | (have hz:(((n:Nat):Int)==0)=false:=by simp;omega
         rw[if_neg h0]at hT;have p:=Za hT
         have HK:V (V9 ⟨2,s.extract k (k+n),a⟩=[Z (s.extract k (k+n)),Y Q 115,Y O a]):=by show _=_;simp[V9,UN,HX.o]
         have E0:1<=n:=az
         go_wp2_with (go_at_call 129;refine Bp (GR _ _ _ r.o hs) fun w' u=>?_;replace u:=u.symm;subst u;rw[k0.o])
         go_meet
         exact⟨k+n,115,_,aE,rfl,az,g0.2,⟨p.o,HK.o⟩,rfl⟩)
  have o0:=ai k s.size;have q:=Za (X.o.trans (WL D));go_wp2
  go_ret2
  refine(Ua.ok q.o).2 ⟨⟨_,rfl,?_⟩,W.o⟩;rw[List.dropLast_concat];exact HO.o
def ue {y c n}(d:(y::c).length=n)(h:n<=1):Z3 c=[]:=by
 cases c with
 |nil=>rfl
 |cons a b=>simp at d;omega
def xD {y t}(h:U6 y t=true):¬t.sort=3:=fun e=>by cases y<;>simp[U6,Zn,e]at h
def CO {wr a T}{b c:Int}(e:wr.alloc (.cells #[Z T,Y Q b,Y O c] 166)=a):a.cell? ⟨wr.heap.size,0,J⟩=I (Z T)/\a.cell? ⟨wr.heap.size,1,J⟩=I (Y Q b)/\a.cell? ⟨wr.heap.size,2,J⟩=I (Y O c)/\F0 wr a/\a.heap.size=wr.heap.size+1:=by
 subst e;have h:=aN wr (.cells #[Z T,Y Q b,Y O c] 166);exact⟨Zc h 0,Zc h 1,Zc h 2,Zo.alloc _,y⟩
def xE (w D0 v body en)(E0:en.sort=3/\en.text=D)(h:w.ownsRow D0 166 3 v body.length (VF body))(hb:∀t,t∈body->Hv t)(e1:body.length<=3000)(N r)(n0:YQ (body++[en]) N [.rules] 0=I r):
  F U 79 #[v] w fun e w'=>e=.returned (.int .i64 (Vz (body++[en]) r))/\F0 w w':=by
 obtain⟨ii,hi,p0,q0,s0⟩:=info_parts NF;obtain⟨av,cv,rfl,G0⟩:=PT h;have H0:=Za G0;have HB:=Za hb;have HE:=Za E0;have I0:=Za n0;clear h G0 hb E0 n0;go_enter func79,ntmps79;go_wp2
 go_loopg [3,4] N (fun m o i wr=>∃st k,i=.int .i64 (k:Nat)/\k<=body.length/\V (sM st)/\V (YQ (body++[en]) m st k=I r)/\V (Wt wr w.heap.size o st)/\V (F0 w wr))
 case atStart=>
  have G:=aN w (.cells #[.string ⟨#[114,117,108,101,115]⟩] 9);refine⟨[.rules],0,rfl,R _,⟨by simp[sK],fun m e=>by(cases e),trivial⟩,I0.o,⟨_,_,rfl,aA,fun _=>⟨w.heap.size,0,rfl,E _,aA,fun j u C=>?_⟩⟩,Zo.alloc _⟩;rw[z4];exact bC G j _ (by simpa[Z3,UJ]using C)
 obtain⟨st,k,rfl,hk,q,HR,HW,HF⟩:=hrel;have k1:=HF.o.size
 cases st with
 |nil=>
  obtain⟨a,c,rfl,hc,d⟩:=HW.o
  have e0:(if(Zp (body++[en]) k).sort=3 then J else I k)=r:=by
   have e:=HR.o;rw[Tz]at e;injection e
  clear d HW;simp only[List.length_nil]at hc ⊢;by_cases H:k<body.length
  ·obtain⟨gv,rfl,S0,t0,s⟩:=H0.o az;obtain⟨t,ht⟩:∃t,body[k]?=I t:=⟨_,gE H⟩;obtain⟨r0,r1,r2⟩:=(s.fr HF.o t0) k t ht
   have U0:Zp (body++[en]) k=t:=by
    unfold Zp;rw[gD,W H,ht];rfl
   have v0:=(HB.o t (mG ht)).2.2.1;rw[U0,if_neg v0]at e0
   have HA:V (Vz (body++[en]) r=t.line):=by show _=_;rw[<-e0];simp only[Vz];rw[U0,if_neg v0]
   have w0:=af k body.length;clear s ht U0 v0 e0;go_wp2;go_ret;exact⟨ZQ HA.o.symm,HF.o⟩
  have U0:Zp (body++[en]) k=en:=by
   unfold Zp;rw[gD,aR az,show k-body.length=0 from az];rfl
  rw[U0,if_pos HE.o.1]at e0
  have HA:V (Vz (body++[en]) r=0):=by show _=_;rw[<-e0];rfl
  have w0:=ai k body.length;clear U0 e0;go_wp2;go_ret;exact⟨ZQ HA.o.symm,HF.o⟩
 |cons y rest=>
  obtain⟨m,rfl⟩:∃m,gk=m+1:=by
   cases gk with
   |zero=>exact absurd HR.o (by simp[YQ])
   |succ m=>exact⟨m,rfl⟩
  obtain⟨a,c,rfl,hc,d⟩:=HW.o;obtain⟨g,o,rfl,T0,hg,x0⟩:=d aA;have c0:wr.cell? ⟨g,o,J⟩=I (.string (UJ y)):=x0 0 _ rfl;have V0:=Za x0;clear d x0 HW;obtain⟨n,G⟩:=ad (y::rest).length;rw[G]at hc ⊢
  have l1:(0:Int)<(n:Int):=by simp at G;omega
  obtain⟨t,ht⟩:=ad (Zp (body++[en]) k);have M:=Za ht;rcases y1 k body.length with H|H
  case' inl=>
   obtain⟨gv,rfl,S0,t0,s⟩:=H0.o az
   have hG:body[k]?=I t:=by
    rw[<-ht];unfold Zp;rw[gD,W H,gE H];rfl
   obtain⟨r0,r1,r2⟩:=(s.fr (HF.o.alloc (.cells #[.string ⟨#[]⟩,.int .u8 101,.int .i64 0] 166)) t0) k t hG;have w0:=af k body.length;have O:=HB.o t (mG hG);have HL:=Za O.1;have J0:(([78,65,77,69]:List UInt8)==t.text.toList)=false:=NT O.2.2.2.2.1;have K0:(([73,78,84]:List UInt8)==t.text.toList)=false:=NT O.2.2.2.2.2;have f0:=rS t;have f1:=tt t
   have f3:(UN t==101)=decide (t.sort=3):=by rw[rT t];simp[O.2.2.1]
   have P:V ((UN t==101)=decide (t.sort=3)/\(UN t !=101)=!decide (t.sort=3)):=⟨f3,by rw[bne,f3]⟩;clear f3;obtain⟨LN,K⟩:=ae (t.line:Int);rw[<-K]at r2
   have L0:V (t.sort≠3->LN=t.line):=fun _=>K
   have y0:V (U6 y t=true->k+1<=body.length):=fun _=>H
   clear O K hG s ht;go_wp2_with fail;clear r0 r1 r2;generalize M0:t.text=T at*;generalize UN t=KD at*;have h0:=Za M0.symm;clear M0;generalize e7:wr.alloc _=w7 at*;obtain⟨b0,b1,b2,F7,N0⟩:=CO e7
  case' inr=>
   have w0:=ai k body.length
   have e:t=en:=by
    rw[<-ht];unfold Zp;rw[gD,aR az,show k-body.length=0 from az];rfl
   have h1:=HE.o;rw[<-e]at h1
   have HL:V (VK t):=by
    have e:t=⟨3,D,t.line⟩:=by
     cases t
     simp at h1;obtain⟨rfl,rfl⟩:=h1;rfl
    show VK t
    rw[e];exact Er _
   obtain⟨T,hT⟩:∃T:ByteArray,T=⟨#[]⟩:=⟨_,rfl⟩;obtain⟨KD,hK⟩:∃KD:Int,KD=101:=⟨_,rfl⟩;obtain⟨LN,K⟩:∃LN:Int,LN=0:=⟨_,rfl⟩
   have J0:(([78,65,77,69]:List UInt8)==T.toList)=false:=by rw[hT];exact NT aB
   have K0:(([73,78,84]:List UInt8)==T.toList)=false:=by rw[hT];exact NT aB
   have h0:V (T=t.text):=hT.trans h1.2.symm
   have f0:(KD==110)=decide (t.sort=0):=by simp[hK,h1.1]
   have f1:(KD==105)=decide (t.sort=1):=by simp[hK,h1.1]
   have P:V ((KD==101)=decide (t.sort=3)/\(KD !=101)=!decide (t.sort=3)):=⟨by simp[hK,h1.1],by simp[hK,h1.1]⟩
   have L0:V (t.sort≠3->LN=t.line):=fun h=>absurd h1.1 h
   have y0:V (U6 y t=true->k+1<=body.length):=fun h=>by cases y<;>simp[U6,Zn,h1.1]at h
   have HQ:=Za (And.intro hT (And.intro hK K));clear ht e h1 hT hK K;go_wp2_with fail;generalize e7:wr.alloc _=w7 at*;obtain⟨b0,b1,b2,F7,N0⟩:=CO e7;rw[<-HQ.o.1]at b0;rw[<-HQ.o.2.1]at b1;rw[<-HQ.o.2.2]at b2;clear HQ
  all_goals
   have H7:=Za (HF.o.trans F7);have c7:=F7.cell (p:=⟨g,o,J⟩) hg aA|>.trans c0;have O0:=Za (fun j u C=>F7.cell (p:=⟨g,o+j,J⟩) hg aA|>.trans (V0.o j u C));have i0:g<w7.heap.size:=az;have z0:wr.heap.size<w7.heap.size:=az;clear c0 F7 e7 N0
   cases j0:YB y t with
   |some l=>
    have f:=Za j0;clear j0
    go_cut [6,7]from 11 to 74 (fun s6 s7 wx=>∃g2 c2,s6=.slice (I ⟨g2,0,J⟩) l.length c2/\s7=.bool true/\V (∀j u,(Z3 l)[j]?=I u->wx.cell? ⟨g2,j,J⟩=I u)/\V (F0 w7 wx)/\V (g2<wx.heap.size))
    case first=>
     go_region_with (go_at_call 130;refine(PU y t T KD LN _ q.o.2.1 HL.o h0.o).mono ?_;intro e w8 Q;obtain⟨⟨g2,c2,rfl,m1,W0,o0⟩,S⟩:=(T9.some f.o).1 Q;have b:V (F0 w7 w8):=(Zo.drew).trans S;have Y:V (∀j u,(Z3 l)[j]?=I u->w8.cell? ⟨g2,j,J⟩=I u):=o0;clear S o0 Q)
     all_goals(go_wp2;go_meet;exact⟨g2,c2,rfl,rfl,Y,b,W0⟩)
    obtain⟨g2,c2,rfl,rfl,Y,b,n1⟩:=hcut;have L:=Za (H7.o.trans b.o)
    have k0:V (∀j u,(Z3 (y::rest))[j]?=I u->wc.cell? ⟨g,o+j,J⟩=I u):=fun j u C=>(b.o.cell (p:=⟨g,o+j,J⟩) i0).trans (O0.o j u C)
    have A0:g<wc.heap.size:=nL i0 b.o.size;have g1:=L.o.size
    have i1:l.length+rest.length<=15:=by have:=ua (II q.o f.o);simpa using this
    go_wp2_with (at_builtin;refine wpList_append_own_at _ rfl (.tmp 32) (.tmp 33) 28 rfl w.heap.size 9 ii _ 1 16 underlying28 hi p0 q0 s0 rfl aB (.slice J 0 0) 0 [] rfl (oZ _ _ _ _) ⟨g2,0,J⟩ l.length c2 (Z3 l) rfl ?hl ?hnews ?h1 ?h63 ?hb ?hbase ?_)
    case hl=>simp[Z3]
    case hnews=>intro j u C;rw[Sa,z4];exact Y.o j u C
    case h1=>intro u hu;simp[Z3]at hu;obtain⟨_,_,rfl⟩:=hu;rfl
    case h63=>unfold maxLen;omega
    case hb=>omega
    case hbase=>omega
    intro v1 w9 P0 B0 _ X0;have l0:=Za P0;have C0:=Za (L.o.grown B0 (fun k hk=>by simp[z9]at hk))
    have Y0:V (∀j u,(Z3 (y::rest))[j]?=I u->w9.cell? ⟨g,o+j,J⟩=I u):=fun j u C=>(B0.cell_far ⟨g,o+j,J⟩ A0 (by simp[z9])).trans (k0.o j u C)
    have j1:=C0.o.size;clear P0 B0 X0;by_cases Z0:c=1
    ·go_wp2_with (at_builtin;refine wpList_append_own_at _ rfl (.tmp 35) (.tmp 37) 28 rfl w.heap.size 9 ii _ 1 16 underlying28 hi p0 q0 s0 rfl aB v1 l.length (Z3 l) rfl l0.o ⟨g,o,J⟩ (n-1) 0 (Z3 rest) rfl ?hlx ?hnewsx ?h1x ?h63x ?hbx ?hbasex ?_)
     case hlx=>simp[Z3];simp at G;omega
     case hnewsx=>intro j u C;rw[ue G az]at C;simp at C
     case h1x=>intro u hu;simp[Z3]at hu;obtain⟨_,_,rfl⟩:=hu;rfl
     case h63x=>unfold maxLen;simp at G;omega
     case hbx=>simp at G;omega
     case hbasex=>omega
     intro v2 a1 A B _ Z;have a0:=Za A;have g0:=Za (C0.o.grown B (fun k hk=>Or.inr (l0.o.lt k hk).1));clear A B Z;go_wp2;go_roundg m
     case measure=>omega
     refine⟨l++rest,k,rfl,hk,II q.o f.o,?_,?_,g0⟩
     ·have e:=HR.o;simp only[YQ]at e;rw[M.o,f.o]at e;exact e
     refine Wt.of_row ?_
     have e:l.length+(n-1)=(l++rest).length:=by simp at G ⊢;omega
     have e2:Z3 l++Z3 rest=Z3 (l++rest):=by simp[Z3]
     rw[<-e,<-e2];exact a0.o
    go_wp2_with (at_builtin;refine wpList_append_own_at _ rfl (.tmp 35) (.tmp 37) 28 rfl w.heap.size 9 ii _ 1 16 underlying28 hi p0 q0 s0 rfl aB v1 l.length (Z3 l) rfl l0.o ⟨g,o+1,J⟩ (n-1) (c-1) (Z3 rest) rfl ?hlz ?hnewsz ?h1z ?h63z ?hbz ?hbasez ?_)
    case hlz=>simp[Z3];simp at G;omega
    case hnewsz=>intro j u C;rw[Sa,show o+1+j=o+(j+1)from az];exact Y0.o (j+1) u (by simpa[Z3]using C)
    case h1z=>intro u hu;simp[Z3]at hu;obtain⟨_,_,rfl⟩:=hu;rfl
    case h63z=>unfold maxLen;simp at G;omega
    case hbz=>simp at G;omega
    case hbasez=>omega
    intro v2 a1 A B _ Z;have a0:=Za A;have g0:=Za (C0.o.grown B (fun k hk=>Or.inr (l0.o.lt k hk).1));clear A B Z;go_wp2;go_roundg m
    case measure=>omega
    refine⟨l++rest,k,rfl,hk,II q.o f.o,?_,?_,g0⟩
    ·have e:=HR.o;simp only[YQ]at e;rw[M.o,f.o]at e;exact e
    refine Wt.of_row ?_
    have e:l.length+(n-1)=(l++rest).length:=by simp at G ⊢;omega
    have e2:Z3 l++Z3 rest=Z3 (l++rest):=by simp[Z3]
    rw[<-e,<-e2];exact a0.o
   |none=>
    have f:=Za j0;clear j0
    go_cut [6,7]from 11 to 74 (fun s6 s7 wx=>s6=.slice J 0 0/\s7=.bool false/\V (F0 w7 wx))
    case first=>
     go_region_with (go_at_call 130;refine(PU y t T KD LN _ q.o.2.1 HL.o h0.o).mono ?_;intro e w8 Q;obtain⟨rfl,S⟩:=(T9.none f.o).1 Q;have b:V (F0 w7 w8):=(Zo.drew).trans S;clear S Q)
     all_goals(go_wp2;go_meet;exact⟨rfl,rfl,b⟩)
    obtain⟨rfl,rfl,b⟩:=hcut;have L:=Za (H7.o.trans b.o)
    have k0:V (∀j u,(Z3 (y::rest))[j]?=I u->wc.cell? ⟨g,o+j,J⟩=I u):=fun j u C=>(b.o.cell (p:=⟨g,o+j,J⟩) i0).trans (O0.o j u C)
    have cc:wc.cell? ⟨g,o,J⟩=I (.string (UJ y)):=k0.o 0 _ rfl;have d0:=(b.o.cell (p:=⟨wr.heap.size,0,J⟩) z0).trans b0;have d1:=(b.o.cell (p:=⟨wr.heap.size,1,J⟩) z0).trans b1;have d2:=(b.o.cell (p:=⟨wr.heap.size,2,J⟩) z0).trans b2;have A0:g<wc.heap.size:=nL i0 b.o.size;clear b0 b1 b2 c7
    have Q0:V (U6 y t=false->r=I k):=fun hf=>by
     have e:=HR.o;simp only[YQ]at e;rw[M.o,f.o,hf]at e;simp at e;exact e.symm
    have m0:V (U6 y t=true->YQ (body++[en]) m rest (k+1)=I r):=fun hf=>by
     have e:=HR.o;simp only[YQ]at e;rw[M.o,f.o,hf]at e;exact e
    have HA:V (U6 y t=false->Vz (body++[en]) r=if t.sort=3 then-1 else LN):=fun hf=>by
     rw[Q0.o hf];simp only[Vz];rw[M.o];by_cases h3:t.sort=3
     ·rw[if_pos h3,if_pos h3]
     rw[if_neg h3,if_neg h3,L0.o h3]
    obtain⟨z,hz⟩:=ad (U6 y t);have HZ:=Za hz;rw[hz]at m0 HA
    cases y
    case' NAME=>
     have x1:((UJ .NAME).toList==[78,65,77,69])=true:=tf aB;have x2:((UJ .NAME).toList==[73,78,84])=false:=CN aB
     have x3:((UJ .NAME).toList==T.toList)=false:=by rw[ByteArray.toList_eq];exact J0
     rw[show decide (t.sort=0)=z from hz]at f0;generalize UJ .NAME=X at*
    case' INT=>
     have x1:((UJ .INT).toList==[78,65,77,69])=false:=CN aB;have x2:((UJ .INT).toList==[73,78,84])=true:=tf aB
     have x3:((UJ .INT).toList==T.toList)=false:=by rw[ByteArray.toList_eq];exact K0
     rw[show decide (t.sort=1)=z from hz]at f1;generalize UJ .INT=X at*
    case' lit x=>
     have hx:=q.o.2.1 x rfl;have x1:(x.toList==[78,65,77,69])=false:=CN (LA x hx).1;have x2:(x.toList==[73,78,84])=false:=CN (LA x hx).2;have x3:=xB HL.o hx h0.o;rw[show Zn t x=z from hz]at x3;simp only[UJ]at cc;clear hx
    all_goals first|(exfalso;have h:=f.o;simp[YB]at h;done)|skip
    all_goals
     clear hz
     cases z
     case' true=>
      have HG:=Za (m0.o rfl);have f3:=P.o.1;have f4:=P.o.2;rw[decide_eq_false (xD HZ.o)]at f3 f4;clear HA m0;by_cases Z0:c=1
      ·go_wp2
       go_big_quiet ((fail))
       go_wp2;go_roundg m
       case measure=>omega
       exact⟨rest,k+1,aE,y0.o HZ.o,q.o.2.2,HG,Wt.pop1 G az,L.o.trans ⟨rfl,rfl,rfl,E _,fun _ _ _=>rfl⟩⟩
      go_wp2
      go_big_quiet ((fail))
      go_wp2;go_roundg m
      case measure=>omega
      exact⟨rest,k+1,aE,y0.o HZ.o,q.o.2.2,HG,(Wt.pop G hc T0 A0 k0.o).fr ⟨rfl,rfl,rfl,E _,fun _ _ _=>rfl⟩,L.o.trans ⟨rfl,rfl,rfl,E _,fun _ _ _=>rfl⟩⟩
     case' false=>
      have R0:=Za (HA.o rfl);clear HA;clear m0
      cases h3:decide (t.sort=3)
      all_goals
       have f3:=P.o.1;have f4:=P.o.2;rw[h3]at f3 f4;have c1:V (Vz (body++[en]) r=_):=R0.o.trans (by first|exact if_pos (of_decide_eq_true h3)|exact if_neg (of_decide_eq_false h3));clear h3 R0;go_wp2
       go_big_quiet ((fail))
       go_wp2;go_ret;exact⟨ZQ c1.o.symm,L.o.trans ⟨rfl,rfl,rfl,E _,fun _ _ _=>rfl⟩⟩
def OE {s k a c t}(b:Zt s k a=.tok t c):t.line=a:=by
 unfold Zt at b
 repeat' split at b
 all_goals first
  |contradiction
  |(injection b with d e;subst d;rfl)
def PV {s}:∀n k a b,s.size-k=n->1<=a->(∀t,t∈b->1<=t.line)->
  (∀l,ZN s k a b=.error l->1<=l)/\(∀ts,ZN s k a b=.ok ts->∀t,t∈ts->1<=t.line):=by
 intro n
 induction n using Nat.strongRecOn with
 |ind n j=>
  intro k a b o i d;by_cases e:k<s.size
  ·cases f:Zt s k a with
   |skip g m=>
    rw[YP e f];have:=We e f;exact j (s.size-g) z g m b rfl z d
   |tok t g=>
    rw[WK e f];have:=WJ e f;refine j (s.size-g) z g a (b++[t]) rfl i (fun u c=>?_);rcases z8.1 c with c|c
    ·exact d u c
    simp at c;subst c;rw[OE f];exact i
   |bad=>
    rw[XC e f];exact⟨fun l h=>(by injection h with h;omega),fun ts h=>(by cases h)⟩
  rw[WL e];refine⟨fun l h=>(by cases h),fun ts h=>?_⟩;injection h with h;subst h;intro u c;rcases z8.1 c with c|c
  ·exact d u c
  simp at c;subst c;exact i
def AE {s t}(h:U6 s t=true):t.sort≠3:=by
 cases s<;>simp[U6,Zn]at h<;>first|omega|(rw[h];decide)|(rw[h.1];decide)
def QV {a:List Tk}{c:Tk}(b:c.sort=3):∀(m:Nat)(d:List Hs)(i j:Nat),i<=a.length->YQ (a++[c]) m d i=I (I j)->j<=a.length
 |m,[],i,j,hi,h=>by
  rw[Tz]at h;injection h with h
  split at h
  ·cases h
  injection h with h;omega
 |0,s::rest,i,j,hi,h=>by simp[YQ]at h
 |m+1,s::rest,i,j,hi,h=>by
  rw[YQ]at h
  split at h
  ·exact QV b m _ i j hi h
  split at h
  ·rename_i e;have f:=NP b (AE e);have:=(iG.1 f).1;exact QV b m _ (i+1) j z h
  injection h with h;injection h with h;omega
def xF {a en}(c:∀t,t∈a->t.sort≠3){j}(d:j<=a.length)(h:(Zp (a++[en]) j).sort=3):Zp (a++[en]) j=en:=by
 rcases y1 j a.length with b|b
 ·exact absurd h (Ww (en:=en) c (gE b))
 have e:j=a.length:=z;subst e;unfold Zp;rw[gD,aR (E _),Nat.sub_self];rfl
def uf {a b j}(c:j<=a.length):Zp (a++[b]) j∈a++[b]:=by
 unfold Zp;rw[gD,gE aF];exact List.getElem_mem _
def ug {body en}(d:en.sort=3)(f:∀t,t∈body->t.sort≠3)(g:∀t,t∈body++[en]->1<=t.line):
  (∀i k,Zs (body++[en]) 0 []=.ok (i,k)->∃N,YQ (body++[en]) N [.rules] 0=I J)/\
  (∀l,Zs (body++[en]) 0 []=.error l->∃N j,YQ (body++[en]) N [.rules] 0=I (I j)/\((Vz (body++[en]) (I j)= -1/\l=en.line)\/(Vz (body++[en]) (I j)=(l:Int)/\1<=l))):=by
 obtain⟨m,n⟩:=Kp (ts:=body++[en]) _ 0 [] rfl;refine⟨m,fun l h=>?_⟩;obtain⟨j,⟨N,b⟩,e⟩:=n l h;have c:=QV d N _ 0 j (R _) b;refine⟨N,j,b,?_⟩;by_cases a:(Zp (body++[en]) j).sort=3
 ·left
  refine⟨by simp[Vz,a],?_⟩;rw[xF f c a]at e;exact e.symm
 right
 refine⟨by simp[Vz,a,e],?_⟩;rw[<-e];exact g _ (uf c)
def rU:y0->Nat
 |Z t=>t.size
 |_=>0
def Dn {t}(g:1<t.size)(f:Zy t 0=48):Yo t.data.toList=Yo (t.extract 1 t.size).data.toList:=by
 rw[Lib.extract_data];have c:t.data.toList.length=t.size:=y
 have d:t.data.toList.getD 0 0=48:=by
  unfold Zy at f;rw[<-UInt8.toNat_inj];have:(48:UInt8).toNat=48:=rfl;omega
 match e:t.data.toList,c with
 |[],c=>simp at c;omega
 |[_],c=>simp at c;omega
 |a::b::r,c=>
  rw[e]at d;simp at d;subst d;rw[VJ,List.drop_succ_cons,List.drop_zero,A (by simp at c ⊢;omega)]
def LB {t}(h:t.size<=1\/Zy t 0≠48):Yo t.data.toList=t.data.toList:=by
 have c:t.data.toList.length=t.size:=y
 match e:t.data.toList,c with
 |[],_=>rfl
 |[a],_=>exact Ul a
 |a::b::r,c=>
  refine VU a _ (fun d=>?_);rcases h with h|h
  ·simp at c;omega
  apply h;unfold Zy;rw[e,d];rfl
def AF (s w)(h:s.size<=3000):
  F U 83 #[Z s] w fun e i=>(∃t,e=K (Z t)/\t.data.toList=Yo s.data.toList)/\i=w:=by
 go_enter func83,ntmps83;go_wp2
 go_loop [0] (fun v=>∃t:ByteArray,v=Z t/\t.size<=3000/\V (Yo t.data.toList=Yo s.data.toList)) rU
 case atStart=>exact⟨s,rfl,h,rfl⟩
 obtain⟨t,rfl,m,d⟩:=hrel;by_cases j:1<t.size
 ·have f:=af 1 t.size
  have g:=fun w=>Xf (P:=U) underlying9 t 0 (0:Int) rfl z w
  have k:(1:Int)<=(t.size:Int):=z;by_cases b:Zy t 0=48
  ·have a:=o ((Dn j b).symm.trans d.o);rw[b]at g;go_wp2;exact⟨⟨_,rfl,by rw[ByteArray.size_extract];omega,a⟩,by simp[rU];omega⟩
  have a:=o ((LB (Or.inr b)).symm.trans d.o)
  have l:(Zy t 0==48)=false:=by simp[b]
  generalize Zy t 0=c at*;go_wp2;go_ret;exact⟨⟨t,rfl,a.o⟩,rfl⟩
 have f:=ai 1 t.size;have a:=o ((LB (Or.inl z)).symm.trans d.o);go_wp2;go_ret;exact⟨⟨t,rfl,a.o⟩,rfl⟩
def AG (w q a c d)(hq:w.cell? ⟨q,0,J⟩=I (B a d.length c))(j:0<d.length->∃g,a=I ⟨g,0,J⟩/\th w g d)(hb:d.length<=3000)(Q:∀t,t∈d->t.text.size<=3000):
  F U 45 #[.pointer (I ⟨q,0,J⟩)] w fun e w'=>(∃t,e=K (Z t)/\t.data.toList=VW d d.length)/\w'=w:=by
 have a0:=b j;have t0:=b Q;obtain⟨n,hn⟩:=ad d.length;rw[hn]at hq hb ⊢;have HN:=b hn;clear j Q hn;go_enter func45,ntmps45;go_wp2
 go_loop [3,4,5,6] (fun o fb gb ix=>∃k p N P,k<=n/\o=Z p/\fb=G N/\gb=G P/\ix=Y O (k:Nat)/\p.size<=k*3002/\V (p.data.toList++ZU N P (Yt d k (n-k))=VW d n)) (fun _ _ _ ix=>n-(intOf ix).toNat)
 case atStart=>exact⟨0,⟨#[]⟩,true,false,R _,rfl,rfl,rfl,rfl,aB,by show _=_;rfl⟩
 obtain⟨k,p,N,P,hk,rfl,rfl,rfl,rfl,b0,HR⟩:=hrel;by_cases v0:k<n
 ·obtain⟨t,Q⟩:∃t,d[k]?=I t:=⟨_,gE (aj HN.o)⟩
  obtain⟨g,hg,j⟩:=a0.o (aj HN.o);rw[hg]at hq;obtain⟨r0,r1,r2⟩:=j k t Q;have HT:=b (Vx Q);have c0:=b j;have e0:=b (t0.o t (mG Q));have w0:=af k n;obtain⟨x,f0⟩:=ad (Ra d k);have r:=b f0;clear j Q hg f0 r2;go_upto_region 8 with fail
  go_cut [8]from 10 to 118 (fun s8 A=>s8=G x/\A=w)
  case first=>
   clear r0 r1;by_cases k0:k=0
   ·have d0:decide ((0:Int)<(k:Int))=false:=aF;have u:decide (0<k)=false:=aF;have d2:decide ((2:Int)<(k:Int))=false:=aF;have v:decide (2<k)=false:=aF
    have e:x=false:=by rw[<-r.o];unfold Ra;rw[u,v];rfl
    subst e;clear k0;go_wp2;go_meet;exact⟨rfl,rfl⟩
   have d0:decide ((0:Int)<(k:Int))=true:=aF;have u:decide (0<k)=true:=aF;obtain⟨tp,X⟩:∃tp,d[k-1]?=I tp:=⟨_,gE (aj HN.o)⟩;obtain⟨p0,_,_⟩:=c0.o (k-1) tp X;have D:=b (Vx X);obtain⟨m,hm⟩:=ad (k-1);rw[hm]at p0
   have J0:C.wrap ((k:Int)-1)=((m:Nat):Int):=by rw[IntWalk.i64_in _ az];omega
   have K0:=af m n;have HM:=b hm
   cases E:(tp.text.toList==[98,105,110])with
   |true=>
    have e:x=true:=by rw[<-r.o];unfold Ra Kg;rw[D.o,E,u];rfl
    subst e;clear k0 hm X;go_wp2;go_meet;exact⟨rfl,rfl⟩
   |false=>
    by_cases k2:2<k
    ·have d2:decide ((2:Int)<(k:Int))=true:=aF;have v:decide (2<k)=true:=aF
     cases g0:(tp.text.toList==[46,46])with
     |false=>
      have e:x=false:=by rw[<-r.o];unfold Ra Kg;rw[D.o,E,g0,u,v];rfl
      subst e;clear k0 hm X k2;go_wp2;go_meet;exact⟨rfl,rfl⟩
     |true=>
      obtain⟨tq,S⟩:∃tq,d[k-3]?=I tq:=⟨_,gE (aj HN.o)⟩;obtain⟨p3,_,_⟩:=c0.o (k-3) tq S;have x0:=b (Vx S);obtain⟨m3,i0⟩:=ad (k-3);rw[i0]at p3
      have L0:C.wrap ((k:Int)-3)=((m3:Nat):Int):=by rw[IntWalk.i64_in _ az];omega
      have H0:=af m3 n
      have e:x=(tq.text.toList==[98,105,110]):=by rw[<-r.o];unfold Ra Kg;rw[D.o,x0.o,E,g0,u,v];rfl
      subst e;clear k0 hm X k2 i0 S;go_wp2;go_meet;exact⟨rfl,rfl⟩
    have d2:decide ((2:Int)<(k:Int))=false:=aF;have v:decide (2<k)=false:=aF
    have e:x=false:=by rw[<-r.o];unfold Ra Kg;rw[D.o,E,u,v];rfl
    subst e;clear k0 hm X k2;go_wp2;go_meet;exact⟨rfl,rfl⟩
  obtain⟨rfl,f⟩:=hcut;replace f:=f.symm;subst f;have f1:=tt t
  have j0:Xj d k=if decide (t.sort=1)&&!x then Yo t.text.data.toList else t.text.data.toList:=by unfold Xj;rw[HT.o,r.o]
  have y:=b j0;clear j0;obtain⟨bs,l0⟩:=ad (decide (t.sort=1));rw[l0]at f1 y;clear l0;generalize UN t=KD at*;go_upto_region 9 with fail
  go_cut [81]from 10 to 118 (fun y0 A=>y0=G (bs&&!x)/\A=w)
  case first=>
   cases bs with
   |false=>
    go_wp2;go_meet;exact⟨rfl,rfl⟩
   |true=>
    go_wp2;go_meet;exact⟨rfl,rfl⟩
  obtain⟨rfl,f⟩:=hcut;replace f:=f.symm;subst f;obtain⟨bd,m0⟩:=ad (bs&&!x);rw[m0]at y ⊢;clear m0 f1 r0 r1
  go_upto_if 81 with fail
  go_cut [7]from 10 to 118 (fun s7 A=>(∃i:ByteArray,s7=Z i/\V (i.data.toList=Xj d k))/\A=w)
  case first=>
   cases bd with
   |false=>
    have HE:V (t.text.data.toList=Xj d k):=by show _=_;rw[y.o];rfl
    go_wp2;go_meet;exact⟨⟨t.text,rfl,HE⟩,rfl⟩
   |true=>
    go_wp2_with fail;refine(AF t.text w e0.o).mono ?_;rintro e w1 ⟨⟨t',rfl,h⟩,he⟩;replace he:=he.symm;subst he
    have HE:V (t'.data.toList=Xj d k):=by show _=_;rw[y.o,h];rfl
    clear h;go_wp2;go_meet;exact⟨⟨t',rfl,HE⟩,rfl⟩
  obtain⟨⟨i,rfl,n0⟩,f⟩:=hcut;replace f:=f.symm;subst f
  have A0:V (p.data.toList++ZU N P (Xj d k::Yt d (k+1) (n-(k+1)))=VW d n):=by have e:=HR.o;rw[My v0]at e;exact e
  obtain⟨z,H⟩:=ad (UD i.data.toList);have B0:=b H;obtain⟨L,T⟩:=ad (i.toList==[59]);obtain⟨M,o0⟩:=ad (i.toList==[46,46])
  have C0:V ((i.data.toList==[59])=L):=by show _=_;rw[<-ByteArray.toList_eq];exact T
  have D0:V ((i.data.toList==[46,46])=M):=by show _=_;rw[<-ByteArray.toList_eq];exact o0
  have l:((i.toList==[59])||(i.toList==[44])||(i.toList==[58])||(i.toList==[46,46]))=z:=by rw[<-H];unfold UD;rw[ByteArray.toList_eq]
  go_upto_region 11 with fail
  go_cut [9]from 10 to 118 (fun s9 A=>s9=G z/\A=w)
  case first=>
   clear H
   cases L with
   |true=>
    have e:z=true:=by rw[<-l,T];rfl
    subst e;go_wp2;go_meet;exact⟨rfl,rfl⟩
   |false=>
    cases q0:(i.toList==[44])with
    |true=>
     have e:z=true:=by rw[<-l,q0];simp
     subst e;go_wp2;go_meet;exact⟨rfl,rfl⟩
    |false=>
     cases s0:(i.toList==[58])with
     |true=>
      have e:z=true:=by rw[<-l,s0];simp
      subst e;go_wp2;go_meet;exact⟨rfl,rfl⟩
     |false=>
      have e:z=M:=by rw[<-l,T,q0,s0,o0];rfl
      subst e;go_wp2;go_meet;exact⟨rfl,rfl⟩
  obtain⟨rfl,f⟩:=hcut;replace f:=f.symm;subst f;clear H l;go_upto_region 12 with fail
  go_cut [107]from 10 to 118 (fun s A=>s=G (!N&&!P&&!z)/\A=w)
  case first=>
   cases N with
   |true=>go_wp2;go_meet;exact⟨rfl,rfl⟩
   |false=>
    cases P with
    |true=>go_wp2;go_meet;exact⟨rfl,rfl⟩
    |false=>go_wp2;go_meet;exact⟨rfl,rfl⟩
  obtain⟨rfl,f⟩:=hcut;replace f:=f.symm;subst f;obtain⟨sp,W⟩:=ad (!N&&!P&&!z);rw[W]
  have E0:V (ZU N P (Xj d k::Yt d (k+1) (n-(k+1)))=(if sp then[32]else[])++(i.data.toList++(if L then 10::ZU true M (Yt d (k+1) (n-(k+1)))else ZU false M (Yt d (k+1) (n-(k+1)))))):=by
   show _=_
   rw[<-n0.o];simp only[ZU];rw[B0.o,W,C0.o,D0.o]
  clear W
  have M0:i.size<=3000:=by
   have e1:i.data.toList.length=i.size:=aA
   have e2:(Xj d k).length<=t.text.size:=by
    rw[y.o];have e3:t.text.data.toList.length=t.text.size:=aA
    split
    ·rcases Nat.eq_zero_or_pos t.text.data.toList.length with h0|h0
     ·rw[List.length_eq_zero_iff.1 h0];simp[Yo]
     have:=(QF t.text.data.toList (fun e=>by rw[e]at h0;simp at h0)).2;omega
    omega
   rw[n0.o]at e1;have:=e0.o;omega
  have I0:p.size<=10000000:=az
  have z1:(p++(⟨#[32]⟩:ByteArray)).size=p.size+1:=by rw[ByteArray.size_append];rfl
  have z2:(p++(⟨#[32]⟩:ByteArray)++i).size=p.size+1+i.size:=by rw[ByteArray.size_append,z1]
  have z3:(p++i).size=p.size+i.size:=by rw[ByteArray.size_append]
  have F0:=b b0;have z0:(⟨#[32]⟩:ByteArray).size=1:=rfl;have G0:(⟨#[10]⟩:ByteArray).size=1:=rfl;clear b0
  cases sp
  all_goals
   cases L
   all_goals
    go_wp2;refine⟨⟨k+1,_,_,_,az,rfl,rfl,rfl,aE,by have:=F0.o;simp only[ByteArray.size_append,z0,G0];omega,?_⟩,by simp[intOf];omega⟩
    show _=_
    rw[<-A0.o,E0.o];simp
 have w0:=ai k n
 have HE:V (p.data.toList=VW d n):=by
  have e:=HR.o;rw[show n-k=0 from az]at e;simp only[Yt,ZU,List.append_nil]at e;exact e
 go_wp2;go_ret;exact⟨⟨p,rfl,HE.o⟩,rfl⟩
