import Derived.Laws.IdiomStrings
import Derived.Test.YtccikgogjfbpeaaGreatDoorDf
import Derived.Test.YtccikgogjfbpeaaGreatDoorShelf
import Derived.Lib.RowBridge
open Go.IntKind renaming i64->I
open Go.Value renaming int->J,slice->V,slice->D,oneCell'->z3,agg->z9,int->y7,bool->x5
open Option renaming some->Y,none->U
open Go.Obj renaming cells->O
open Go.RowKit renaming Hid->E
open Go renaming World->H,Calls->z2,Value->x9
open Go.Proofs.Tryz renaming prog->B
open Go.Ending renaming returned->G
open List renaming take_of_length_le->X,take_add_one->F,length_take->z5,mem_map->z6,eq_nil_of_length_eq_zero->z7,length_append->z8,flatMap_cons->y4,append_assoc->y5,length_cons->y6,length_mergeSort->y9,mem_iff_getElem->x6,mem_mergeSort->x8,getElem_mem->q0,append_nil->q8,length_map->q9,replicate->j0
open Go.World renaming news_of_block->C
open Or renaming inr->z4,inl->x7
open Nat renaming mul_le_mul->y8,zero_add->j1,le_refl->j2,mul_one->j3
namespace Go.Proofs.YtccikgogjfbpeaaGreatDoor
set_option maxRecDepth 30000
set_option maxHeartbeats 8000000
abbrev bs (l:List UInt8):ByteArray:=⟨l.toArray⟩

def dT (w:List UInt8)(a:Nat):Tk:=⟨1,bs w,a⟩

open Go.RowKit
def FA (w:H)(T:Nat)(a:List Zd)(R:List Zc):Prop:=
 ∃e b c d,w.cell? ⟨T,1,U⟩=Y (.pointer (Y ⟨b,0,U⟩))/\XV e w b (V c a.length d) R (ZE (ZA R) R.length)/\w.ownsRow 0 148 3 (V c a.length d) a.length (YU a)/\YE a R
theorem FA.fr {w w':H}{T:Nat}{a:List Zd}{R:List Zc}(h:FA w T a R)(b:F0 w w'):FA w' T a R:=by
 obtain⟨d,e,f,g,c,i,j,k⟩:=h;exact⟨d,e,f,g,(b.cell (p:=⟨T,1,U⟩) (bL w _ c) (by simp)).trans c,i.fr b (by simp),oF j b (by simp),k⟩
theorem FA.decide {w:H}{T:Nat}{b:List Zd}{R:List Zc}(h:FA w T b R)(a:Option Addr)(c:Nat)(l:List ByteArray)(d:Yz w a l)(f:l.length<=maxLen)(p:ZI)(g:p.pan.size<=maxLen):
  z2 B 19 #[.pointer (Y ⟨T,0,U⟩),UM p,V a l.length c] w fun e w'=>e=G (NG (TM b R p (Vn b l)))/\F0 w w':=by
 obtain⟨i,j,k,m,n,o,q,r⟩:=h;exact Ip w i T j b R k m a c l p ⟨n,o,q,r,d,f⟩ g
abbrev YL:=Nat×Nat
def YR (s:YL)(n:Nat):Bool:=decide (s.1<=n)&&decide (n<=s.2)
structure WH where
 s0:List YL
 s1:List YL
 s2:List YL
 s3:List YL
def WH.at (A:WH):Nat->List YL
 |0=>A.s0
 |1=>A.s1
 |2=>A.s2
 |_=>A.s3
def Xp (A:WH)(side n:Nat):Bool:=(A.at side).any fun s=>YR s n
def Sx (w:H)(a:Option Addr)(l:List YL):Prop:=∀k s,l[k]?=Y s->∃g o,a=Y ⟨g,o,U⟩/\w.cell? ⟨g,o+2*k,U⟩=Y (J I (s.1:Nat))/\w.cell? ⟨g,o+2*k+1,U⟩=Y (J I (s.2:Nat))
theorem Sx.fr {w w':H}{S:Nat->Prop}{a:Option Addr}{l:List YL}(h:Sx w a l)(b:Fr S w w')(c:∀g o,a=Y ⟨g,o,U⟩->¬S g):Sx w' a l:=by
 intro k s i;obtain⟨g,o,e,d,f⟩:=h k s i;exact⟨g,o,e,(b.cell (p:=⟨g,o+2*k,U⟩) (bL w _ d) (c g o e)).trans d,(b.cell (p:=⟨g,o+2*k+1,U⟩) (bL w _ f) (c g o e)).trans f⟩
structure Rl where
 a:Option Addr
 c:Nat
def Xg (x:Rl)(l:List YL):x9:=V x.a l.length x.c
structure QD (w:H)(A:WH)(x0 x1 x2 x3:Rl):Prop where
 p0:Sx w x0.a A.s0
 p1:Sx w x1.a A.s1
 p2:Sx w x2.a A.s2
 p3:Sx w x3.a A.s3
 few:∀k,(A.at k).length<=10
theorem QD.fr {w w':H}{A:WH}{b c d e:Rl}(h:QD w A b c d e)(a:F0 w w'):QD w' A b c d e:=⟨h.p0.fr a (by simp),h.p1.fr a (by simp),h.p2.fr a (by simp),h.p3.fr a (by simp),h.few⟩
def Sp (A:WH)(a b c d:Rl):Array x9:=#[Xg a A.s0,Xg b A.s1,Xg c A.s2,Xg d A.s3]
def KJ (a b c d:Rl):Nat->Rl
 |0=>a
 |1=>b
 |2=>c
 |_=>d
theorem QD.at {w:H}{A:WH}{b c d e:Rl}(h:QD w A b c d e)(k:Nat):Sx w (KJ b c d e k).a (A.at k):=by
 unfold WH.at KJ
 split
 ·exact h.p0
 ·exact h.p1
 ·exact h.p2
 ·exact h.p3
theorem Ll {w:H}{b:Nat}{A:WH}{a c d e:Rl}{t:TypeId}(h:w.heap[b]?=Y (O (Sp A a c d e) t)){k:Nat}(f:k<4):w.cell? ⟨b,k,U⟩=Y (Xg (KJ a c d e k) (A.at k)):=by
 have:k=0\/k=1\/k=2\/k=3:=by omega
 rcases this with rfl|rfl|rfl|rfl
 ·exact bC h 0 _ rfl
 ·exact bC h 1 _ rfl
 ·exact bC h 2 _ rfl
 ·exact bC h 3 _ rfl
theorem Rm (w:H)(lo a n:Nat)(j k l:Int)(m:j=lo)(p:k=a)(q:l=n):
  z2 B 264 #[z9 #[J I j,J I k],J I l] w fun e w'=>e=G (x5 (YR (lo,a) n))/\F0 w w':=by
 subst m p q;have f:=aN w (O #[J I (lo:Int),J I (a:Int)] 118);have r:(w.alloc (O #[J I (lo:Int),J I (a:Int)] 118)).cell? ⟨w.heap.size,0,U⟩=Y (J I (lo:Int)):=bC f 0 _ rfl;have s:(w.alloc (O #[J I (lo:Int),J I (a:Int)] 118)).cell? ⟨w.heap.size,1,U⟩=Y (J I (a:Int)):=bC f 1 _ rfl;have g:E (F0 w (w.alloc (O #[J I (lo:Int),J I (a:Int)] 118))):=(Fr.refl _ _).alloc _;clear f;by_cases b:lo<=n
 ·have h:(lo:Int)<=(n:Int):=by omega
  by_cases d:n<=a
  ·have i:(n:Int)<=(a:Int):=by omega
   have c:E (YR (lo,a) n=true):=by show _=_;simp[YR,b,d]
   clear b d;go_enter Tryz.func264,Tryz.ntmps264;go_wp2_with fail;go_ret;rw[c.o];exact⟨rfl,g.o⟩
  ·have i:¬(n:Int)<=(a:Int):=by omega
   have c:E (YR (lo,a) n=false):=by show _=_;simp[YR,b,d]
   clear b d;go_enter Tryz.func264,Tryz.ntmps264;go_wp2_with fail;go_ret;rw[c.o];exact⟨rfl,g.o⟩
 ·have h:¬(lo:Int)<=(n:Int):=by omega
  have c:E (YR (lo,a) n=false):=by show _=_;simp[YR,b]
  clear b;go_enter Tryz.func264,Tryz.ntmps264;go_wp2_with fail;go_ret;rw[c.o];exact⟨rfl,g.o⟩
theorem Dc (w:H)(A:WH)(i j p q:Rl)(side n:Nat)(V X:Int)(h:QD w A i j p q)(hs:side<4)(e1:V=side)(e2:X=n):
  z2 B 245 #[z9 #[Xg i A.s0,Xg j A.s1,Xg p A.s2,Xg q A.s3],J I V,J I X] w fun e w'=>e=G (x5 (Xp A side n))/\F0 w w':=by
 subst e1 e2;have HA:=Za h;have r:=Ll (t:=215) (aN w (O (Sp A i j p q) 215)) hs;have u:E (F0 w (w.alloc (O #[Xg i A.s0,Xg j A.s1,Xg p A.s2,Xg q A.s3] 215))):=(Fr.refl _ _).alloc _;unfold Sp at r;obtain⟨l,v⟩:∃l,A.at side=l:=⟨_,rfl⟩;obtain⟨x,f⟩:∃x,KJ i j p q side=x:=⟨_,rfl⟩
 have HS:E (Sx w x.a l):=by have e:=h.at side;rw[v,f]at e;exact e
 have HV:E (Xp A side n=l.any fun s=>YR s n):=by show _=_;unfold Xp;rw[v]
 have L:E (l.length<=10):=by have e:=h.few side;rw[v]at e;exact e
 rw[v,f]at r
 have y:(side:Int)<4:=by omega
 unfold Xg at r u ⊢;clear h v f;go_enter Tryz.func245,Tryz.ntmps245;go_wp2_with fail;obtain⟨N,M⟩:∃N,l.length=N:=⟨_,rfl⟩;rw[M]at r ⊢;have z:=Za M
 have Z:N<=10:=by have:=L.o;omega
 clear M r
 go_loopg [8,13] N (fun m _ iv wr=>∃k,k<=N/\m=N-k/\iv=J I (k:Nat)/\E (Xp A side n=(l.drop k).any fun s=>YR s n)/\E (F0 w wr))
 case atStart=>exact⟨0,by omega,rfl,rfl,by show _=_;rw[List.drop_zero];exact HV.o,u⟩
 case round=>
  obtain⟨k,hk,rfl,rfl,HR,d⟩:=hrel;by_cases a0:k<N
  ·have y:(k:Int)<(N:Int):=by omega
   have f:=gE (show k<l.length by have:=z.o;omega);obtain⟨g,o,ea,P,Q⟩:=(HS.o.fr d.o (by simp)) k _ f
   have HD:E (Xp A side n=(YR (l[k]'(by have:=z.o;omega)) n||(l.drop (k+1)).any fun s=>YR s n)):=by
    show _=_
    rw[HR.o,dC (by have:=z.o;omega),List.any_cons]
   generalize l[k]'(by have:=z.o;omega)=s at*;obtain⟨lo,b⟩:=s
   dsimp only at P Q
   obtain⟨xa,xc⟩:=x
   dsimp only at ea
   subst ea;have C:E (F0 w (wr.alloc (O #[J I (lo:Nat),J I (b:Nat)] 118))):=d.o.alloc _;have R:=aN wr (O #[J I (lo:Int),J I (b:Int)] 118);have z0:(wr.alloc (O #[J I (lo:Int),J I (b:Int)] 118)).cell? ⟨wr.heap.size,0,U⟩=Y (J I (lo:Int)):=bC R 0 _ rfl;have z1:(wr.alloc (O #[J I (lo:Int),J I (b:Int)] 118)).cell? ⟨wr.heap.size,1,U⟩=Y (J I (b:Int)):=bC R 1 _ rfl
   have D:(k:Int)*2=((2*k:Nat):Int):=by omega
   rw[show o+2*k=o+k*2 from by omega]at P;rw[show o+2*k+1=o+k*2+1 from by omega]at Q
   have S:E (∀W,z2 B 264 #[z9 #[J I (lo:Nat),J I (b:Nat)],J I (n:Nat)] W fun e w'=>e=G (x5 (YR (lo,b) n))/\F0 W w'):=fun W=>Rm W lo b n _ _ _ rfl rfl rfl
   clear f R D;go_wp2_with fail;refine(S.o _).mono ?_;rintro e w5 ⟨rfl,F⟩;have K:=Za (C.o.trans F);clear F P Q z0 z1 C
   cases c:YR (lo,b) n with
   |true=>
    have T:E (Xp A side n=true):=by show _=_;rw[HD.o,c];rfl
    clear c;go_wp2_with fail;go_ret;rw[T.o];exact⟨rfl,K.o⟩
   |false=>
    have T:E (Xp A side n=(l.drop (k+1)).any fun s=>YR s n):=by show _=_;rw[HD.o,c];rfl
    clear c;go_wp2_with fail;go_roundg (N-(k+1))
    case measure=>omega
    case rel=>exact⟨k+1,by omega,rfl,by go_num,T,K⟩
  ·have y:¬(k:Int)<(N:Int):=by omega
   have HE:E (Xp A side n=false):=by show _=_;rw[HR.o,dL (by have:=z.o;omega)];rfl
   go_wp2_with fail;go_ret;rw[HE.o];exact⟨rfl,d.o⟩
def Sy (ZP:YL)(n:Nat):List Nat:=if YR ZP n then[n]else[]
def Ps (ZP:YL)(s:YL):List Nat:=Sy ZP s.1++Sy ZP (s.2+1)
def Yg (ZP:YL)(l:List YL):List Nat:=l.flatMap (Ps ZP)
def X0 (ZP s:YL):Nat->List Nat
 |0=>[]
 |1=>Sy ZP s.1
 |_=>Ps ZP s
theorem OU (ZP:YL)(n:Nat):(Sy ZP n).length<=1:=by unfold Sy;split<;>simp
theorem KK (ZP s:YL):(Ps ZP s).length<=2:=by
 have a:=OU ZP s.1;have b:=OU ZP (s.2+1);unfold Ps;rw[lA];omega
theorem Sq (ZP:YL):∀l:List YL,(Yg ZP l).length<=2*l.length
 |[]=>by simp[Yg]
 |s::r=>by
  have a:=Sq ZP r;have b:=KK ZP s;simp only[Yg,y4,z8,y6]at*;omega
theorem Iu (ZP:YL){l:List YL}{k:Nat}{s:YL}(h:l[k]?=Y s):Yg ZP (l.take (k+1))=Yg ZP (l.take k)++Ps ZP s:=by
 rw[F,h];simp[Yg]
theorem Dd (ZP s:YL)(j:Nat):(X0 ZP s j).length<=2:=by
 unfold X0
 split
 ·simp
 ·have:=OU ZP s.1;omega
 ·exact KK ZP s
theorem Bq {ZP s:YL}(h:YR ZP s.1=true):X0 ZP s (0+1)=X0 ZP s 0++[s.1]:=by simp[X0,Sy,h]
theorem Br {ZP s:YL}(h:YR ZP s.1=false):X0 ZP s (0+1)=X0 ZP s 0:=by simp[X0,Sy,h]
theorem Bt {ZP s:YL}(h:YR ZP (s.2+1)=true):X0 ZP s (1+1)=X0 ZP s 1++[s.2+1]:=by
 show Ps ZP s=Sy ZP s.1++_
 unfold Ps
 congr 1
 unfold Sy;rw[h];rfl
theorem Bu {ZP s:YL}(h:YR ZP (s.2+1)=false):X0 ZP s (1+1)=X0 ZP s 1:=by
 show Ps ZP s=Sy ZP s.1
 unfold Ps;rw[show Sy ZP (s.2+1)=[]from by unfold Sy;rw[h];rfl,q8]
theorem De (w:H)(ZP:YL)(x:Rl)(l:List YL)(hS:Sx w x.a l)(hl:l.length<=10)(hb:∀s,s∈l->s.1<=10000000000/\s.2<=10000000000):
  z2 B 242 #[z9 #[J I (ZP.1:Nat),J I (ZP.2:Nat)],V x.a l.length x.c] w fun e w'=>(∃v,e=G v/\w'.ownsRow w.heap.size 3 1 v (Yg ZP l).length (Zg (Yg ZP l))/\((Yg ZP l).length=0->v=V U 0 0))/\F0 w w':=by
 obtain⟨ii,hi,k0,l0,m0⟩:=info_parts YZ;obtain⟨lo,b⟩:=ZP
 dsimp only
 have HS:=Za hS;have HB:=Za hb;have s0:E (F0 w (w.alloc (O #[J I (lo:Nat),J I (b:Nat)] 118))):=(Fr.refl _ _).alloc _;have n0:E ((w.alloc (O #[J I (lo:Nat),J I (b:Nat)] 118)).heap[w.heap.size]?=Y (O #[J I (lo:Nat),J I (b:Nat)] 118)):=aN w _;obtain⟨N,hN⟩:∃N,l.length=N:=⟨_,rfl⟩;have HN:=Za hN
 have D0:N<=10:=by omega
 rw[hN];clear hS hb hl hN;go_enter Tryz.func242,Tryz.ntmps242;go_wp2_with fail;generalize w.alloc (O #[J I (lo:Nat),J I (b:Nat)] 118)=w0 at*;obtain⟨P,hP⟩:∃P,w.heap.size=P:=⟨_,rfl⟩;have HP:=Za hP;rw[hP]at n0;rw[hP];clear hP
 go_loopg [5,7,9,12] N (fun m ov _ _ iv wr=>∃k,k<=N/\m=N-k/\iv=J I (k:Nat)/\E ((Yg (lo,b) (l.take k)).length=0->ov=V U 0 0)/\E (wr.ownsRow (P+1) 3 1 ov (Yg (lo,b) (l.take k)).length (Zg (Yg (lo,b) (l.take k))))/\E (F0 w wr)/\E (wr.heap[P]?=Y (O #[J I (lo:Nat),J I (b:Nat)] 118)))
 case atStart=>exact⟨0,by omega,rfl,rfl,fun _=>rfl,oZ _ _ _ _,s0,n0⟩
 case round=>
  obtain⟨k,K,rfl,rfl,HZ,HO,a0,o0⟩:=hrel;by_cases E0:k<N
  ·have t0:(k:Int)<(N:Int):=by omega
   have hx:=gE (show k<l.length by have:=HN.o;omega);obtain⟨g,o,ea,h1,h2⟩:=(HS.o.fr a0.o (by simp)) k _ hx;have v0:=HB.o _ (q0 (show k<l.length by have:=HN.o;omega));have p0:=Za (Iu (lo,b) hx);generalize l[k]'(by have:=HN.o;omega)=s at*;obtain⟨d,f⟩:=s
   dsimp only at h1 h2 v0
   obtain⟨xa,xc⟩:=x
   dsimp only at ea
   subst ea;rw[show o+2*k=o+k*2 from by omega]at h1;rw[show o+2*k+1=o+k*2+1 from by omega]at h2;have hb:=aN wr (O #[J I (d:Int),J I (f:Int)] 118);have z0:(wr.alloc (O #[J I (d:Int),J I (f:Int)] 118)).cell? ⟨wr.heap.size,0,U⟩=Y (J I (d:Int)):=bC hb 0 _ rfl;have z1:(wr.alloc (O #[J I (d:Int),J I (f:Int)] 118)).cell? ⟨wr.heap.size,1,U⟩=Y (J I (f:Int)):=bC hb 1 _ rfl;have b0:E (F0 wr (wr.alloc (O #[J I (d:Int),J I (f:Int)] 118))):=(Fr.refl _ _).alloc _;clear hx hb;go_wp2_with fail;clear h1 h2 z0 z1;have x0:=Za (a0.o.trans b0.o);have y0:=Za (oF HO.o b0.o (by simp));have A0:=Za (b0.o.whole o0.o (by simp));generalize wr.alloc (O #[J I (d:Int),J I (f:Int)] 118)=w1 at*;clear HO a0 o0 b0
   go_loopg [5,9,22] 2 (fun m ov _ jv wq=>∃j,j<=2/\m=2-j/\jv=J I (j:Nat)/\E ((Yg (lo,b) (l.take k)++X0 (lo,b) (d,f) j).length=0->ov=V U 0 0)/\E (wq.ownsRow (P+1) 3 1 ov (Yg (lo,b) (l.take k)++X0 (lo,b) (d,f) j).length (Zg (Yg (lo,b) (l.take k)++X0 (lo,b) (d,f) j)))/\E (F0 w wq)/\E (wq.heap[P]?=Y (O #[J I (lo:Nat),J I (b:Nat)] 118)))
   case atStart=>exact⟨0,by omega,rfl,rfl,fun h=>HZ.o (by simpa[X0]using h),by show World.ownsRow _ _ _ _ _ _ _;simpa[X0]using y0.o,x0,A0⟩
   case round=>
    obtain⟨j,hj,rfl,rfl,c0,L,d0,M⟩:=hrel;obtain⟨T,Z,ho⟩:=oL L.o;subst ho;obtain⟨q,F⟩:∃q,(Yg (lo,b) (l.take k)++X0 (lo,b) (d,f) j).length=q:=⟨_,rfl⟩
    have G0:q<=40:=by
     rw[<-F,lA];have e1:=Sq (lo,b) (l.take k);have e2:=Dd (lo,b) (d,f) j;rw[z5]at e1;omega
    have r:=Za F;rw[F]at L c0;rw[F];by_cases H0:j<2
    ·have z0:=bC M.o 0 _ rfl
     have z1:=bC M.o 1 _ rfl;clear F
     have r0:j=0\/j=1:=by omega
     rcases r0 with e|e
     ·subst e
      have e0:∀W:H,(Instr.index 355 (z9 #[J I (d:Int),J I ((f:Int)+1)]) (J I 0)).run B W=.ok (J I ((d:Nat):Int)) W:=fun _=>by kernel_rfl
      have Q:E (∀(W:H)(nv:Int),nv=((d:Nat):Int)->z2 B 264 #[z9 #[J I (lo:Nat),J I (b:Nat)],J I nv] W fun e w'=>e=G (x5 (YR (lo,b) (d)))/\F0 W w'):=fun W nv e=>Rm W lo b (d) _ _ _ rfl rfl e
      go_wp2_with fail;refine(Q.o _ ((d:Nat):Int) (by omega)).mono ?_;rintro e w5 ⟨rfl,n⟩;have u:=Za (d0.o.trans n);have y:=Za (oF L.o n (by simp));have z:=Za (n.whole M.o (by simp));clear n z0 z1 Q e0
      cases p:YR (lo,b) (d)with
      |true=>
       have R:E (X0 (lo,b) (d,f) (0+1)=X0 (lo,b) (d,f) 0++[d]):=Bq p;clear p
       go_wp2_with (at_builtin;refine wpList_append_lies _ rfl (.tmp 28) (.tmp 30) 25 rfl (P+1) 3 ii _ 1 8 Tryz.underlying25 hi k0 l0 m0 rfl (by decide) (V T q Z) q (Zg (Yg (lo,b) (l.take k)++X0 (lo,b) (d,f) 0)) rfl ?q1 ⟨w5.heap.size,0,U⟩ 1 1 [J I ((d:Nat):Int)] rfl rfl ?q2 ?q3 (by decide) ?q4 ?q5 ?q6 _ rfl ?q7)
       case q1=>exact y.o.alloc _
       case q2=>exact C (aN w5 (O #[J I ((d:Nat):Int)] 3))
       case q3=>simp[z3]
       case q4=>unfold maxLen;omega
       case q5=>omega
       case q6=>have h6:=u.o.size;have h7:=(iA.1 z.o).1;simp;omega
       case q7=>
        intro g2 S w8 t i f0 _
        have A:∀k,(D T q Z).ownBlock=Y k->P+1<=k:=fun k K=>(y.o.lt k K).1
        have g0:=Za ((u.o.alloc _).grown i (fun k K=>z4 (by have:=A k K;have:=HP.o;omega)));have h0:=Za ((((Fr.refl (fun k=>(D T q Z).ownBlock=Y k) w5).alloc _).grown i (fun k K=>x7 K)).whole z.o (fun e=>by have:=A P e;omega))
        have i0:E (w8.ownsRow (P+1) 3 1 (V (Y ⟨g2,0,U⟩) (q+1) S) (Yg (lo,b) (l.take k)++X0 (lo,b) (d,f) (0+1)).length (Zg (Yg (lo,b) (l.take k)++X0 (lo,b) (d,f) (0+1)))):=by
         rw[R.o,<-y5,Xl,lA,r.o];exact t
        clear t i f0 A;go_wp2_with fail;go_roundg (2-(0+1))
        case measure=>omega
        case rel=>exact⟨0+1,by omega,rfl,by go_num,fun h=>by rw[R.o]at h;simp at h,i0,g0,h0⟩
      |false=>
       have R:E (X0 (lo,b) (d,f) (0+1)=X0 (lo,b) (d,f) 0):=Br p
       have j0:E (w5.ownsRow (P+1) 3 1 (V T q Z) (Yg (lo,b) (l.take k)++X0 (lo,b) (d,f) (0+1)).length (Zg (Yg (lo,b) (l.take k)++X0 (lo,b) (d,f) (0+1)))):=by
        rw[R.o,r.o];exact y.o
       clear p;go_wp2_with fail;go_roundg (2-(0+1))
       case measure=>omega
       case rel=>exact⟨0+1,by omega,rfl,by go_num,fun h=>c0.o (by rw[R.o,r.o]at h;exact h),j0,u,z⟩
     ·subst e
      have e0:∀W:H,(Instr.index 355 (z9 #[J I (d:Int),J I ((f:Int)+1)]) (J I 1)).run B W=.ok (J I (((f:Nat):Int)+1)) W:=fun _=>by kernel_rfl
      have Q:E (∀(W:H)(nv:Int),nv=(((f+1):Nat):Int)->z2 B 264 #[z9 #[J I (lo:Nat),J I (b:Nat)],J I nv] W fun e w'=>e=G (x5 (YR (lo,b) ((f+1))))/\F0 W w'):=fun W nv e=>Rm W lo b ((f+1)) _ _ _ rfl rfl e
      go_wp2_with fail;refine(Q.o _ (((f:Nat):Int)+1) (by omega)).mono ?_;rintro e w5 ⟨rfl,n⟩;have u:=Za (d0.o.trans n);have y:=Za (oF L.o n (by simp));have z:=Za (n.whole M.o (by simp));clear n z0 z1 Q e0
      cases p:YR (lo,b) ((f+1))with
      |true=>
       have R:E (X0 (lo,b) (d,f) (1+1)=X0 (lo,b) (d,f) 1++[(f+1)]):=Bt p;clear p
       go_wp2_with (at_builtin;refine wpList_append_lies _ rfl (.tmp 28) (.tmp 30) 25 rfl (P+1) 3 ii _ 1 8 Tryz.underlying25 hi k0 l0 m0 rfl (by decide) (V T q Z) q (Zg (Yg (lo,b) (l.take k)++X0 (lo,b) (d,f) 1)) rfl ?r1 ⟨w5.heap.size,0,U⟩ 1 1 [J I (((f:Nat):Int)+1)] rfl rfl ?r2 ?r3 (by decide) ?r4 ?r5 ?r6 _ rfl ?r7)
       case r1=>exact y.o.alloc _
       case r2=>exact C (aN w5 (O #[J I (((f:Nat):Int)+1)] 3))
       case r3=>simp[z3]
       case r4=>unfold maxLen;omega
       case r5=>omega
       case r6=>have h6:=u.o.size;have h7:=(iA.1 z.o).1;simp;omega
       case r7=>
        intro g2 S w8 t i f0 _
        have A:∀k,(D T q Z).ownBlock=Y k->P+1<=k:=fun k K=>(y.o.lt k K).1
        have g0:=Za ((u.o.alloc _).grown i (fun k K=>z4 (by have:=A k K;have:=HP.o;omega)));have h0:=Za ((((Fr.refl (fun k=>(D T q Z).ownBlock=Y k) w5).alloc _).grown i (fun k K=>x7 K)).whole z.o (fun e=>by have:=A P e;omega))
        have i0:E (w8.ownsRow (P+1) 3 1 (V (Y ⟨g2,0,U⟩) (q+1) S) (Yg (lo,b) (l.take k)++X0 (lo,b) (d,f) (1+1)).length (Zg (Yg (lo,b) (l.take k)++X0 (lo,b) (d,f) (1+1)))):=by
         rw[R.o,<-y5,Xl,lA,r.o];exact t
        clear t i f0 A;go_wp2_with fail;go_roundg (2-(1+1))
        case measure=>omega
        case rel=>exact⟨1+1,by omega,rfl,by go_num,fun h=>by rw[R.o]at h;simp at h,i0,g0,h0⟩
      |false=>
       have R:E (X0 (lo,b) (d,f) (1+1)=X0 (lo,b) (d,f) 1):=Bu p
       have j0:E (w5.ownsRow (P+1) 3 1 (V T q Z) (Yg (lo,b) (l.take k)++X0 (lo,b) (d,f) (1+1)).length (Zg (Yg (lo,b) (l.take k)++X0 (lo,b) (d,f) (1+1)))):=by
        rw[R.o,r.o];exact y.o
       clear p;go_wp2_with fail;go_roundg (2-(1+1))
       case measure=>omega
       case rel=>exact⟨1+1,by omega,rfl,by go_num,fun h=>c0.o (by rw[R.o,r.o]at h;exact h),j0,u,z⟩
    ·have I0:¬(j:Int)<2:=by omega
     have ej:j=2:=by omega
     have B0:E ((Yg (lo,b) (l.take (k+1))).length=0->D T q Z=V U 0 0):=fun h=>c0.o (by rw[show Yg (lo,b) (l.take (k+1))=Yg (lo,b) (l.take k)++X0 (lo,b) (d,f) j from by rw[p0.o,ej];rfl,r.o]at h;exact h)
     have C0:E (wr.ownsRow (P+1) 3 1 (V T q Z) (Yg (lo,b) (l.take (k+1))).length (Zg (Yg (lo,b) (l.take (k+1))))):=by
      have e:=L.o;rw[show Yg (lo,b) (l.take (k+1))=Yg (lo,b) (l.take k)++X0 (lo,b) (d,f) j from by rw[p0.o,ej];rfl,r.o];exact e
     clear ej F;go_wp2_with fail;go_roundg (N-(k+1))
     case measure=>omega
     case rel=>exact⟨k+1,by omega,rfl,by go_num,B0,C0,d0,M⟩
  ·have t0:¬(k:Int)<(N:Int):=by omega
   have HE:E (l.take k=l):=by show _=_;rw[X (by have:=HN.o;omega)]
   go_wp2_with fail;go_ret;refine⟨⟨_,rfl,?_,fun h=>HZ.o (by rw[HE.o];simpa using h)⟩,a0.o⟩;have e:=HO.o;rw[HE.o]at e;exact oS e (by have:=HP.o;omega)
structure X9 where
 A:WH
 x0:Rl
 x1:Rl
 x2:Rl
 x3:Rl
def R5 (e:X9):List x9:=[Xg e.x0 e.A.s0,Xg e.x1 e.A.s1,Xg e.x2 e.A.s2,Xg e.x3 e.A.s3]
def WI (es:List X9):List x9:=es.flatMap R5
theorem Q8 (es:List X9)(e:X9):WI (es++[e])=WI es++R5 e:=by simp[WI]
def X9.ok (w:H)(e:X9):Prop:=QD w e.A e.x0 e.x1 e.x2 e.x3
def VF (w:H)(a:Option Addr)(es:List X9):Prop:=∀k e,es[k]?=Y e->e.ok w/\∃g o,a=Y ⟨g,o,U⟩/\∀j v,(R5 e)[j]?=Y v->w.cell? ⟨g,o+k*4+j,U⟩=Y v
theorem VF.fr {w w':H}{a:Option Addr}{es:List X9}(h:VF w a es)(b:F0 w w'):VF w' a es:=by
 intro k e f;obtain⟨i,g,o,l,c⟩:=h k e f;exact⟨i.fr b,g,o,l,fun j v d=>(b.cell (p:=⟨g,o+k*4+j,U⟩) (bL w _ (c j v d)) (by simp)).trans (c j v d)⟩
def WP (side n:Nat)(es:List X9):List X9:=es.filter fun e=>Xp e.A side n
theorem FB {side n:Nat}{es:List X9}{k:Nat}{e:X9}(h:es[k]?=Y e):WP side n (es.take (k+1))=WP side n (es.take k)++(if Xp e.A side n then[e]else[]):=by
 rw[F,h];simp only[WP,Option.toList,List.filter_append]
 congr 1
 cases a:Xp e.A side n<;>simp[a]
theorem KL (side n:Nat)(es:List X9):(WP side n es).length<=es.length:=List.length_filter_le _ _
theorem SM:(B.info? 215).map (fun i=>(i.zero,i.size,i.bytes))=Y (Y (z9 #[V U 0 0,V U 0 0,V U 0 0,V U 0 0]),4,96):=by kernel_rfl
theorem Iv (w:H)(side n:Nat)(a:Option Addr)(c:Nat)(es:List X9)(hs:side<4)(h:VF w a es)(hl:es.length<=10):
  z2 B 214 #[J I (side:Nat),J I (n:Nat),V a es.length c] w fun e w'=>(∃v,e=G v/\w'.ownsRow w.heap.size 215 4 v (WP side n es).length (WI (WP side n es)))/\F0 w w':=by
 obtain⟨ii,hi,Z,a0,b0⟩:=info_parts SM;have HA:=Za h;obtain⟨N,hN⟩:∃N,es.length=N:=⟨_,rfl⟩;have HN:=Za hN
 have l0:N<=10:=by omega
 have d0:=Za hs;rw[hN];clear h hl hN;go_enter Tryz.func214,Tryz.ntmps214;go_wp2_with fail
 go_loopg [7,9,12] N (fun m ov _ iv wr=>∃k,k<=N/\m=N-k/\iv=J I (k:Nat)/\E (wr.ownsRow w.heap.size 215 4 ov (WP side n (es.take k)).length (WI (WP side n (es.take k))))/\E (F0 w wr))
 case atStart=>exact⟨0,by omega,rfl,rfl,oZ _ _ _ _,Fr.refl _ _⟩
 case round=>
  obtain⟨k,hk,rfl,rfl,F,q⟩:=hrel;by_cases m0:k<N
  ·have e0:(k:Int)<(N:Int):=by omega
   obtain⟨oa,oc,ho⟩:=oL F.o;subst ho;obtain⟨x,l⟩:∃x,(WP side n (es.take k)).length=x:=⟨_,rfl⟩
   have n0:x<=10:=by rw[<-l];have h1:=KL side n (es.take k);rw[z5]at h1;omega
   have K:=Za l;rw[l]at F;rw[l];have hx:=gE (show k<es.length by have:=HN.o;omega);obtain⟨h0,g,o,ea,L⟩:=(HA.o.fr q.o) k _ hx;have M:=Za (FB (side:=side) (n:=n) hx);generalize es[k]'(by have:=HN.o;omega)=e at*;subst ea;obtain⟨A,b,d,f,i⟩:=e;have H0:=Za h0;have c0:wr.cell? ⟨g,o+k*4,U⟩=Y (V b.a A.s0.length b.c):=L 0 _ rfl;have c1:wr.cell? ⟨g,o+k*4+1,U⟩=Y (V d.a A.s1.length d.c):=L 1 _ rfl;have c2:wr.cell? ⟨g,o+k*4+2,U⟩=Y (V f.a A.s2.length f.c):=L 2 _ rfl;have c3:wr.cell? ⟨g,o+k*4+3,U⟩=Y (V i.a A.s3.length i.c):=L 3 _ rfl;have r:E (F0 wr (wr.alloc (O #[V b.a A.s0.length b.c,V d.a A.s1.length d.c,V f.a A.s2.length f.c,V i.a A.s3.length i.c] 215))):=(Fr.refl _ _).alloc _;have j:E ((wr.alloc (O #[V b.a A.s0.length b.c,V d.a A.s1.length d.c,V f.a A.s2.length f.c,V i.a A.s3.length i.c] 215)).heap[wr.heap.size]?=Y (O #[V b.a A.s0.length b.c,V d.a A.s1.length d.c,V f.a A.s2.length f.c,V i.a A.s3.length i.c] 215)):=aN wr _;clear L hx h0 l;go_upto_region 5 with fail;clear c0 c1 c2 c3;have P:=Za (oF F.o r.o (by simp));have R:=Za (q.o.trans r.o);have f0:E (QD _ A b d f i):=Za (H0.o.fr r.o);generalize wr.alloc (O #[V b.a A.s0.length b.c,V d.a A.s1.length d.c,V f.a A.s2.length f.c,V i.a A.s3.length i.c] 215)=S at*;obtain⟨Q,hQ⟩:∃Q,wr.heap.size=Q:=⟨_,rfl⟩;rw[hQ]at j;rw[hQ];clear hQ r F q H0;have y0:S.cell? ⟨Q,0,U⟩=Y (V b.a A.s0.length b.c):=bC j.o 0 _ rfl;have y1:S.cell? ⟨Q,1,U⟩=Y (V d.a A.s1.length d.c):=bC j.o 1 _ rfl;have y2:S.cell? ⟨Q,2,U⟩=Y (V f.a A.s2.length f.c):=bC j.o 2 _ rfl;have y3:S.cell? ⟨Q,3,U⟩=Y (V i.a A.s3.length i.c):=bC j.o 3 _ rfl
   go_wp2_with fail;refine(Dc S A b d f i side n _ _ f0.o d0.o rfl rfl).mono ?_;rintro e y ⟨rfl,s⟩;have z:=Za (R.o.trans s);have D:=Za (oF P.o s (by simp));have t:=Za (s.whole j.o (by simp));clear s y0 y1 y2 y3 R P j
   cases W:Xp A side n with
   |true=>
    have HC:E (WP side n (es.take (k+1))=WP side n (es.take k)++[⟨A,b,d,f,i⟩]):=by show _=_;rw[M.o];simp[W]
    have y0:y.cell? ⟨Q,0,U⟩=Y (V b.a A.s0.length b.c):=bC t.o 0 _ rfl;have y1:y.cell? ⟨Q,1,U⟩=Y (V d.a A.s1.length d.c):=bC t.o 1 _ rfl;have y2:y.cell? ⟨Q,2,U⟩=Y (V f.a A.s2.length f.c):=bC t.o 2 _ rfl;have y3:y.cell? ⟨Q,3,U⟩=Y (V i.a A.s3.length i.c):=bC t.o 3 _ rfl;clear W
    go_wp2_with (at_builtin;refine wpList_append_lies _ rfl (.tmp 20) (.tmp 22) 217 rfl w.heap.size 215 ii _ 4 96 Tryz.underlying217 hi Z a0 b0 rfl (by decide) (V oa x oc) x (WI (WP side n (es.take k))) rfl ?h1 ⟨y.heap.size,0,U⟩ 1 1 [V b.a A.s0.length b.c,V d.a A.s1.length d.c,V f.a A.s2.length f.c,V i.a A.s3.length i.c] rfl rfl ?h2 ?h3 (by decide) ?h4 ?h5 ?h6 _ rfl ?h7)
    case h1=>exact D.o.alloc _
    case h2=>exact C (aN y (O #[V b.a A.s0.length b.c,V d.a A.s1.length d.c,V f.a A.s2.length f.c,V i.a A.s3.length i.c] 215))
    case h3=>simp[z3]
    case h4=>unfold maxLen;omega
    case h5=>omega
    case h6=>have:=z.o.size;simp;omega
    case h7=>
     intro g2 T w8 u p g0 _;have i0:=Za ((z.o.alloc _).grown p (fun k hk=>z4 (D.o.lt k hk).1))
     have j0:E (w8.ownsRow w.heap.size 215 4 (V (Y ⟨g2,0,U⟩) (x+1) T) (WP side n (es.take (k+1))).length (WI (WP side n (es.take (k+1))))):=by
      rw[HC.o,Q8,lA,K.o];exact u
     clear u p g0 y0 y1 y2 y3;go_wp2_with fail;go_roundg (N-(k+1))
     case measure=>omega
     case rel=>exact⟨k+1,by omega,rfl,by go_num,j0,i0⟩
   |false=>
    have k0:E (y.ownsRow w.heap.size 215 4 (V oa x oc) (WP side n (es.take (k+1))).length (WI (WP side n (es.take (k+1))))):=by
     have e:WP side n (es.take (k+1))=WP side n (es.take k):=by rw[M.o];simp[W]
     rw[e,K.o];exact D.o
    clear W;go_wp2_with fail;go_roundg (N-(k+1))
    case measure=>omega
    case rel=>exact⟨k+1,by omega,rfl,by go_num,k0,z⟩
  ·have e0:¬(k:Int)<(N:Int):=by omega
   have HE:E (es.take k=es):=by show _=_;rw[X (by have:=HN.o;omega)]
   go_wp2_with fail;go_ret;refine⟨⟨_,rfl,?_⟩,q.o⟩;have e:=F.o;rw[HE.o]at e;exact e
def Wu (d lo a:Nat):YL:=(lo*10^(6-d),(a+1)*10^(6-d)-1)
theorem Cp {k:Nat}(h:k<=6):10^k<=1000000:=Nat.pow_le_pow_right (by decide) h
theorem FC (w:H)(f:ByteArray)(rk c lo a:Nat)(g:Option Addr)(h i:Nat)(b:Bool)(j l:Nat)(m:Option Addr)(n r:Nat)(s t:Bool)(u:Option Addr)(x y:Nat)(z:Nat)(hd:c<=6)(h0:lo<=a)(i0:a<1000000):
  z2 B 173 #[Kh f rk c lo a g h i b j l m n r s t u x y z] w fun e w'=>e=G (z9 #[J I ((Wu c lo a).1:Nat),J I ((Wu c lo a).2:Nat)])/\F0 w w':=by
 have F:E ((w.alloc (Sw f rk c lo a g h i b j l m n r s t u x y z)).heap[w.heap.size]?=Y (Sw f rk c lo a g h i b j l m n r s t u x y z)):=aN w _;have K:E (F0 w (w.alloc (Sw f rk c lo a g h i b j l m n r s t u x y z))):=(Fr.refl _ _).alloc _
 have d:E (((w.alloc (Sw f rk c lo a g h i b j l m n r s t u x y z)).alloc (O #[J I 0,J I 0] 118)).heap[w.heap.size+1]?=Y (O #[J I 0,J I 0] 118)):=by
  have e:=aN (w.alloc (Sw f rk c lo a g h i b j l m n r s t u x y z)) (O #[J I 0,J I 0] 118);rw[show(w.alloc (Sw f rk c lo a g h i b j l m n r s t u x y z)).heap.size=w.heap.size+1 from by simp]at e;exact e
 have A:E (F0 (w.alloc (Sw f rk c lo a g h i b j l m n r s t u x y z)) ((w.alloc (Sw f rk c lo a g h i b j l m n r s t u x y z)).alloc (O #[J I 0,J I 0] 118))):=(Fr.refl _ _).alloc _;unfold Sw at F K d A;unfold Kh;go_enter Tryz.func173,Tryz.ntmps173;go_upto_region 1 with fail;generalize w.alloc (O #[.string f,J I rk,J I c,J I lo,J I a,V g h i,x5 b,J I j,J I l,V m n r,x5 s,x5 t,V u x y,J I z] 120)=w0 at*;generalize w0.alloc (O #[J I 0,J I 0] 118)=S at*;have C:=Za (A.o.whole F.o (by simp));have a0:=Za (K.o.trans A.o);obtain⟨P,hP⟩:∃P,w.heap.size=P:=⟨_,rfl⟩;have HP:=Za hP;rw[hP]at C d;rw[hP];clear hP F K A;have x2:S.cell? ⟨P,2,U⟩=Y (J I (c:Nat)):=bC C.o 2 _ rfl;have x3:S.cell? ⟨P,3,U⟩=Y (J I (lo:Nat)):=bC C.o 3 _ rfl;have x4:S.cell? ⟨P,4,U⟩=Y (J I (a:Nat)):=bC C.o 4 _ rfl;obtain⟨q,T⟩:∃q,6-c=q:=⟨_,rfl⟩
 have W:(6:Int)-(c:Int)=(q:Int):=by omega
 have b0:q<=6:=by omega
 have HC:E (Wu c lo a=(lo*10^q,(a+1)*10^q-1)):=by show _=_;unfold Wu;rw[T]
 go_wp2_with fail
 try rw[W]
 clear W T hd
 go_loop [3,7] (fun zv kv=>∃k:Nat,k<=q/\zv=J I ((10^k:Nat):Int)/\kv=J I (k:Nat)) (fun _ kv=>q-(intOf kv).toNat)
 case atStart=>exact⟨0,by omega,rfl,rfl⟩
 case round=>
  obtain⟨k,hk,rfl,rfl⟩:=hrel;by_cases c0:k<q
  ·have d0:(k:Int)<(q:Int):=by omega
   obtain⟨Z,D⟩:∃Z,10^k=Z:=⟨_,rfl⟩
   have L:Z<=1000000:=by rw[<-D];exact Cp (by omega)
   rw[D];go_wp2_with fail;exact⟨⟨k+1,by omega,by rw[Nat.pow_succ,D];simp,by go_num⟩,by simp[intOf];omega⟩
  ·have d0:¬(k:Int)<(q:Int):=by omega
   have e0:q=k:=by omega
   subst e0;obtain⟨Z,D⟩:∃Z,10^q=Z:=⟨_,rfl⟩
   have L:Z<=1000000:=by rw[<-D];exact Cp b0
   have g0:0<Z:=by rw[<-D];exact Nat.pow_pos (by decide)
   rw[D]at HC;rw[D];clear D c0 hk;have m1:lo*Z<=1000000*1000000:=y8 (by omega) L;have m2:(a+1)*Z<=1000000*1000000:=y8 (by omega) L;have m3:1<=(a+1)*Z:=Nat.mul_pos (by omega) g0
   have i1:(lo:Int)*(Z:Int)=((lo*Z:Nat):Int):=by simp
   have i2:((a:Int)+1)*(Z:Int)=(((a+1)*Z:Nat):Int):=by simp
   obtain⟨X,N⟩:∃M,lo*Z=M:=⟨_,rfl⟩;obtain⟨Q,R⟩:∃M,(a+1)*Z=M:=⟨_,rfl⟩;rw[N,R]at HC;rw[N]at m1 i1;rw[R]at m2 m3 i2;have f0:=bC d.o 0 _ rfl;have f1:=bC d.o 1 _ rfl;have z0:=bF d.o 0;have z1:=bF d.o 1;clear N R;go_wp2_with fail
   have i3:((Q:Int)-1)=((Q-1:Nat):Int):=by omega
   rw[i3];have e1:=heap_setCell_same S (P+1) 0 _ _ (J I (X:Nat)) d.o;have e2:=heap_setCell_same _ (P+1) 1 _ _ (J I ((Q-1:Nat):Int)) e1;have s0:((S.setCell ⟨P+1,0,U⟩ (J I (X:Nat))).setCell ⟨P+1,1,U⟩ (J I ((Q-1:Nat):Int))).cell? ⟨P+1,0,U⟩=Y (J I (X:Nat)):=bC e2 0 _ rfl;have s1:((S.setCell ⟨P+1,0,U⟩ (J I (X:Nat))).setCell ⟨P+1,1,U⟩ (J I ((Q-1:Nat):Int))).cell? ⟨P+1,1,U⟩=Y (J I ((Q-1:Nat):Int)):=bC e2 1 _ rfl
   have T:w.heap.size<=P+1:=by have:=HP.o;omega
   rw[HC.o];refine bodyPost_ret (v:=z9 #[J I (X:Nat),J I ((Q-1:Nat):Int)]) (by simp[results,Tryz.results173,go_sem,s0,s1]) rfl ⟨rfl,?_⟩;exact(a0.o.setCell (p:=⟨P+1,0,U⟩) (z4 T) _).setCell (p:=⟨P+1,1,U⟩) (z4 T) _
def Yi (l:List Nat)(a:Nat):List YL:=if l=[]then[(0,a)]else l.map fun n=>(n,n)
def SN (l:List YL):List x9:=l.flatMap fun s=>[J I (s.1:Nat),J I (s.2:Nat)]
theorem Iw (l:List YL)(s:YL):SN (l++[s])=SN l++[J I (s.1:Nat),J I (s.2:Nat)]:=by simp[SN]
theorem NJ:(B.info? 118).map (fun i=>(i.zero,i.size,i.bytes))=Y (Y (z9 #[J I 0,J I 0]),2,16):=by kernel_rfl
theorem Hp (w:H)(a b:Nat):(w.alloc (O #[J I (a:Nat),J I (b:Nat)] 118)).ownsRow w.heap.size 118 2 (V (Y ⟨w.heap.size,0,U⟩) 1 1) 1 [J I (a:Nat),J I (b:Nat)]:=
 ⟨rfl,.inr ⟨w.heap.size,1,#[J I (a:Nat),J I (b:Nat)],rfl,j2 _,aN w _,j2 _,by unfold maxLen;simp,by simp,by simp⟩⟩
theorem Iy (w:H)(a:Option Addr)(c:Nat)(l:List Nat)(b:Nat)(h:Zw w a l)(R:l.length<=4000):
  z2 B 174 #[V a l.length c,J I (b:Nat)] w fun e w'=>(∃v,e=G v/\w'.ownsRow w.heap.size 118 2 v (Yi l b).length (SN (Yi l b)))/\F0 w w':=by
 obtain⟨T,W,t,u,x⟩:=info_parts NJ;by_cases s:l=[]
 ·subst s
  have j:=Za (Hp w 0 b);have Z:E (F0 w (w.alloc (O #[J I (0:Nat),J I (b:Nat)] 118))):=(Fr.refl _ _).alloc _
  show z2 _ _ #[V a 0 c,_] _ _
  clear h R;go_enter Tryz.func174,Tryz.ntmps174;go_wp2_with fail;go_ret;exact⟨⟨_,rfl,j.o⟩,Z.o⟩
 ·obtain⟨N,z⟩:∃N,l.length=N:=⟨_,rfl⟩
  have a0:((N:Int)==0)=false:=by
   have:l.length≠0:=fun e=>s (z7 e)
   simp;omega
  have q:=Za z;have HA:=Za h
  have b0:N<=4000:=by omega
  have HM:E (Yi l b=l.map fun n=>(n,n)):=by show _=_;unfold Yi;rw[if_neg s]
  rw[z];clear h R z s;go_enter Tryz.func174,Tryz.ntmps174;go_wp2_with fail
  go_loopg [5,7,16] N (fun m ov _ iv wr=>∃k,k<=N/\m=N-k/\iv=J I (k:Nat)/\E (wr.ownsRow w.heap.size 118 2 ov k (SN ((l.take k).map fun n=>(n,n))))/\E (F0 w wr))
  case atStart=>exact⟨0,by omega,rfl,rfl,oZ _ _ _ _,Fr.refl _ _⟩
  case round=>
   obtain⟨k,S,rfl,rfl,j,i⟩:=hrel;obtain⟨oa,oc,ho⟩:=oL j.o;subst ho;by_cases c0:k<N
   ·have A:(k:Int)<(N:Int):=by omega
    have D:=gE (show k<l.length by have:=q.o;omega);obtain⟨g,ea,K⟩:=HA.o k _ D
    have HT:E (l.take (k+1)=l.take k++[l[k]'(by have:=q.o;omega)]):=by show _=_;rw[F,D];rfl
    generalize l[k]'(by have:=q.o;omega)=y at*;subst ea;have L:wr.cell? ⟨g,k,U⟩=Y (J I (y:Nat)):=(i.o.cell (p:=⟨g,k,U⟩) (bL w _ K) (by simp)).trans K;clear K D
    go_wp2_with (at_builtin;refine wpList_append_lies _ rfl (.tmp 20) (.tmp 24) 213 rfl w.heap.size 118 T _ 2 16 Tryz.underlying213 W t u x rfl (by decide) (V oa k oc) k (SN ((l.take k).map fun n=>(n,n))) rfl ?h1 ⟨wr.heap.size,0,U⟩ 1 1 [J I (y:Nat),J I (y:Nat)] rfl rfl ?h2 ?h3 (by decide) ?h4 ?h5 ?h6 _ rfl ?h7)
    case h1=>exact j.o.alloc _
    case h2=>exact C (aN wr (O #[J I (y:Nat),J I (y:Nat)] 118))
    case h3=>simp[z3]
    case h4=>unfold maxLen;omega
    case h5=>omega
    case h6=>have:=i.o.size;simp;omega
    case h7=>
     intro g2 r w8 d f M _;have P:=Za ((i.o.alloc _).grown f (fun k S=>z4 (j.o.lt k S).1))
     have Q:E (w8.ownsRow w.heap.size 118 2 (V (Y ⟨g2,0,U⟩) (k+1) r) (k+1) (SN ((l.take (k+1)).map fun n=>(n,n)))):=by
      rw[HT.o,List.map_append,List.map_singleton,Iw];rw[<-List.map_take]at d;exact d
     clear d f M L;go_wp2_with fail;go_roundg (N-(k+1))
     case measure=>omega
     case rel=>exact⟨k+1,by omega,rfl,by go_num,Q,P⟩
   ·have A:¬(k:Int)<(N:Int):=by omega
    have ek:k=N:=by omega
    subst ek;go_wp2_with fail;go_ret;refine⟨⟨_,rfl,?_⟩,i.o⟩;have e:=j.o;rw[X (by have:=q.o;omega)]at e;rw[HM.o,q9,q.o];exact e
def st1 (side:Nat)(ZP:YL)(es:List X9):List Nat:=ZP.1::es.flatMap fun e=>Yg ZP (e.A.at side)
def YX (side:Nat)(ZP:List YL)(es:List X9):List Nat:=ZP.flatMap fun s=>st1 side s es
theorem Df (side:Nat)(ZP:YL){es:List X9}{k:Nat}{e:X9}(h:es[k]?=Y e):st1 side ZP (es.take (k+1))=st1 side ZP (es.take k)++Yg ZP (e.A.at side):=by
 rw[F,h];simp[st1]
theorem Iz (side:Nat){ZP:List YL}{es:List X9}{k:Nat}{s:YL}(h:ZP[k]?=Y s):YX side (ZP.take (k+1)) es=YX side (ZP.take k) es++st1 side s es:=by
 rw[F,h];simp[YX]
theorem Hq (side:Nat)(ZP:YL):∀es:List X9,(∀e,e∈es->(e.A.at side).length<=10)->(st1 side ZP es).length<=1+20*es.length:=by
 intro es
 induction es with
 |nil=>intro _;simp[st1]
 |cons e r a=>
  intro h;have c:=a (fun x b=>h x (by simp[b]));have d:=Sq ZP (e.A.at side);have f:=h e (by simp);simp only[st1,y4,y6,z8]at*;omega
def Mn (ns:List Nat):List Int:=ns.map fun n:Nat=>(n:Int)
theorem Mo {w:H}{base g n cap:Nat}{ns:List Nat}(h:w.ownsRow base 3 1 (V (Y ⟨g,0,U⟩) n cap) n (Zg ns)):Sort.Holds (y7 I) w g 0 (Mn ns).toArray/\n<=cap/\g<w.heap.size/\ns.length=n/\base<=g:=by
 obtain⟨d,i⟩:=h
 have m:ns.length=n:=by simpa[Zg]using d
 rcases i with⟨i,_⟩|⟨x,k,o,e,p,a,q,l,r,s⟩
 ·cases i
 ·injection e with f y t
  injection f with f;injection f with f;subst f t;refine⟨fun j u=>⟨?_,bF a _⟩,q,(iA.1 a).1,m,p⟩
  have b:j<ns.length:=by simpa[Mn]using u
  have c:(o.toList.take (n*1))[j]?=Y (J I ((ns[j]'b:Nat):Int)):=by
   rw[s];simp[Zg,b]
  rw[List.getElem?_take]at c
  split at c
  ·rw[j1]
   have v:(Mn ns).toArray[j]! =((ns[j]'b:Nat):Int):=by simp[Mn,b]
   rw[v];exact bC a j _ (by simpa using c)
  ·cases c
theorem Mp {w:H}{g off n:Nat}{d:Array Int}{os:Array Obj}:Fr (fun k=>k=g) w (Sort.grow (Sort.putRow (y7 I) (Sort.ahead w n) g off d) os):=by
 refine⟨rfl,rfl,rfl,by simp,fun k a b=>?_⟩;rw[Sort.heap_grow_old _ _ (by simpa using a)];unfold Sort.putRow Sort.mapBlock;simp[Array.getElem?_modify,show¬g=k from fun e=>b e.symm]
def QE (ns:List Nat):List Int:=Lib.compact ((Mn ns).mergeSort fun x y=>decide (x<=y))
theorem Dh {w:H}{base g n cap:Nat}{ns:List Nat}(h:w.ownsRow base 3 1 (V (Y ⟨g,0,U⟩) n cap) n (Zg ns))(i:n<=100000):
  z2 B 243 #[V (Y ⟨g,0,U⟩) n cap] w fun e w'=>e=G (.tuple #[])/\Sort.Holds (y7 I) w' g 0 ((Mn ns).mergeSort fun x y=>decide (x<=y)).toArray/\Fr (fun k=>k=g) w w':=by
 obtain⟨a,j,b,d,_⟩:=Mo h
 have f:(Mn ns).length=n:=by simp[Mn,d]
 have c:=Tryz.slices_Sort_int g 0 cap (Mn ns) w a b (by omega);rw[f]at c;refine c.mono ?_;rintro e w' ⟨rfl,q,os,rfl⟩;refine⟨rfl,Sort.holds_grow _ _ _ _ _ _ (by simpa using b) (Sort.holds_putRow _ _ _ _ _ _ (Sort.holds_ahead _ _ q _ _ _ a) (by simp)),Mp⟩
theorem KM {w:H}{g n cap:Nat}{a:List Int}(h:Sort.Holds (y7 I) w g 0 a.toArray)(i:a.length=n)(p:n<=cap)(r:n<=100000):
  z2 B 244 #[V (Y ⟨g,0,U⟩) n cap] w fun e w'=>e=G (V (Y ⟨g,0,U⟩) (Lib.compact a).length cap)/\(∀j x,(Lib.compact a)[j]?=Y x->w'.cell? ⟨g,j,U⟩=Y (J I x))/\Fr (fun k=>k=g) w w':=by
 have c:=Tryz.slices_Compact_int g 0 cap a w h (by omega) (by omega);rw[i]at c;refine c.mono ?_;rintro e w' ⟨rfl,q,rfl⟩;have l:(Lib.compact a).length<=a.length:=Lib.compact_length_le a;have m:=Sort.holds_putRow (y7 I) (Sort.ahead w q) g 0 a.toArray (Lib.compact a++j0 (n-(Lib.compact a).length) 0).toArray (Sort.holds_ahead _ _ q _ _ _ h) (by simp;omega);refine⟨rfl,fun j x b=>?_,?_⟩
 ·have o:=(iG.1 b).1
  have e:=(m j (by simp;omega)).1;rw[j1]at e;rw[e]
  congr 2
  rw[getElem!_def];simp only[List.getElem?_toArray,List.getElem?_append,o,if_true,b]
 ·have f:=Mp (w:=w) (g:=g) (off:=0) (n:=q) (d:=(Lib.compact a++j0 (n-(Lib.compact a).length) 0).toArray) (os:=#[])
  rw[Sort.grow_empty]at f;exact f
theorem OV {P:Program}{w:H}{o:Oper}{a:Act}{K:Act->H->Prop}{Q:Exit->Act->H->Prop}(s x:Operand)(t:TypeId)(f:o.op=.call {callee:=.builtin .append,args:=#[s,x],argTypes:=#[t,t]})
  (base:Nat)(e:TypeId)(i:TypeInfo)(b:Nat)(g:P.underlying t=Y (.slice e))(j:P.info? e=Y i)(v:x9)(n:Nat)(d:List x9)(k:a.eval s=v)(c:w.ownsRow base e b v n d)(l:a.eval x=.slice U 0 0)
  (h:K (a.put o.dst v) w):o.wp P a w K Q:=by
 unfold Oper.wp execOp;simp only[f,resolve,invoke,builtin,Sem.run_bind,Sem.run_pure,Result.andThen_ok,List.map_toArray,List.map_cons,List.map_nil,k,l,run_append_owned_none w base t o.type e i b g j v n d c];exact h
theorem QF (side:Nat)(es:List X9)(h:∀e,e∈es->(e.A.at side).length<=10):∀l:List YL,(YX side l es).length<=(1+20*es.length)*l.length
 |[]=>by simp[YX]
 |s::r=>by
  have a:=QF side es h r;have b:=Hq side s es h;simp only[YX,y4,z8,y6,Nat.mul_add,j3]at*;omega
theorem IA (ns:List Nat):∀u∈Zg ns,u.oneCell'=true:=by
 intro u a;simp only[Zg,z6]at a;obtain⟨n,_,rfl⟩:=a;rfl
theorem OW (ns:List Nat):(Zg ns).length=ns.length:=by simp[Zg]
theorem OX (a b:List Nat):Zg (a++b)=Zg a++Zg b:=by simp[Zg]
theorem X9.at {w:H}{e:X9}(h:e.ok w)(k:Nat):Sx w (KJ e.x0 e.x1 e.x2 e.x3 k).a (e.A.at k):=QD.at h k
theorem Pt (d:Array Int):∀m x,x∈Lib.compactUpTo d m↔∃j,j<m/\x=d[j]! :=by
 intro m
 induction m with
 |zero=>intro x;simp[Lib.compactUpTo]
 |succ m c=>
  intro x;rw[Lib.compactUpTo_succ,List.mem_append,c]
  constructor
  ·rintro(⟨j,f,rfl⟩|h)
   ·exact⟨j,by omega,rfl⟩
   ·split at h
    ·exact⟨m,by omega,by simpa using h⟩
    ·cases h
  ·rintro⟨j,f,rfl⟩
   by_cases a:j<m
   ·exact x7 ⟨j,a,rfl⟩
   ·have e:j=m:=by omega
    subst e
    cases b:Lib.keeps d j with
    |true=>exact z4 (by simp)
    |false=>
     refine x7 ⟨j-1,?_,?_⟩
     ·have:j≠0:=fun e=>by subst e;simp[Lib.keeps]at b
      omega
     ·simp[Lib.keeps]at b
      exact b.2
theorem Q9 (b:List Int)(x:Int):x∈Lib.compact b↔x∈b:=by
 unfold Lib.compact;rw[Pt]
 constructor
 ·rintro⟨j,a,rfl⟩
  simp[a]
 ·intro h
  obtain⟨j,a,rfl⟩:=x6.1 h;exact⟨j,a,by simp[a]⟩
def Tw (ns:List Nat):List Nat:=(QE ns).map Int.toNat
theorem OY {ns:List Nat}{x:Int}(h:x∈QE ns):∃n,n∈ns/\x=(n:Nat):=by
 have a:=(Q9 _ _).1 h;rw[x8]at a;simp only[Mn,z6]at a;obtain⟨n,b,rfl⟩:=a;exact⟨n,b,rfl⟩
theorem FD (ns:List Nat):QE ns=Mn (Tw ns):=by
 unfold Mn Tw;rw[List.map_map]
 conv=>lhs;rw[<-List.map_id (QE ns)]
 refine List.map_congr_left fun x a=>?_
 obtain⟨n,_,rfl⟩:=OY a;simp
theorem OZ (ns:List Nat)(n:Nat):n∈Tw ns↔n∈ns:=by
 constructor
 ·intro h
  simp only[Tw,z6]at h;obtain⟨x,a,rfl⟩:=h;obtain⟨k,b,rfl⟩:=OY a
  simpa using b
 ·intro h
  simp only[Tw,z6];refine⟨(n:Int),?_,by simp⟩;unfold QE;rw[Q9,x8];simp only[Mn,z6];exact⟨n,h,rfl⟩
theorem IB (ns:List Nat):(Tw ns).length<=ns.length:=by
 unfold Tw QE;rw[q9];have h:=Lib.compact_length_le ((Mn ns).mergeSort fun x y=>decide (x<=y));rw[y9]at h
 simpa[Mn]using h
def Xq (side:Nat)(A:WH)(es:List X9):List Nat:=Tw (YX side (A.at side) es)
theorem Hr {g n c q:Nat}(h:g≠q):∀k,(D (Y ⟨g,0,U⟩) n c).ownBlock=Y k->k≠q:=by
 intro k a
 have e:g=k:=by simpa[Value.ownBlock]using a
 rw[<-e];exact h
theorem IC (w:H)(side:Nat)(A:WH)(x0 x1 x2 x3:Rl)(a:Option Addr)(c:Nat)(es:List X9)(hs:side<4)(h:QD w A x0 x1 x2 x3)(D0:A.at side≠[])(he:VF w a es)(hl:es.length<=10)(hb:∀e,e∈es->∀s,s∈e.A.at side->s.1<=10000000000/\s.2<=10000000000):
  z2 B 213 #[J I (side:Nat),z9 #[Xg x0 A.s0,Xg x1 A.s1,Xg x2 A.s2,Xg x3 A.s3],V a es.length c] w fun e w'=>(∃g cap,w.heap.size<=g/\e=G (V (Y ⟨g,0,U⟩) (Xq side A es).length cap)/\∀j n,(Xq side A es)[j]?=Y n->w'.cell? ⟨g,j,U⟩=Y (J I (n:Nat)))/\F0 w w':=by
 obtain⟨ii,hi,N0,O0,P0⟩:=info_parts YZ;have HE:=Za he;have HB:=Za hb;have hc:=Ll (t:=215) (aN w (O (Sp A x0 x1 x2 x3) 215)) hs;have Q0:E (F0 w (w.alloc (O #[Xg x0 A.s0,Xg x1 A.s1,Xg x2 A.s2,Xg x3 A.s3] 215))):=(Fr.refl _ _).alloc _;unfold Sp at hc;obtain⟨l,R⟩:∃l,A.at side=l:=⟨_,rfl⟩;obtain⟨x,hx⟩:∃x,KJ x0 x1 x2 x3 side=x:=⟨_,rfl⟩
 have HS:E (Sx w x.a l):=by have e:=h.at side;rw[R,hx]at e;exact e
 have HV:E (Xq side A es=Tw (YX side l es)):=by show _=_;unfold Xq;rw[R]
 have R0:E (l.length<=10):=by have e:=h.few side;rw[R]at e;exact e
 have S0:E (es.length<=10):=hl
 have C0:E (∀e,e∈es->(e.A.at side).length<=10):=fun e hm=>by
  obtain⟨k,Q,rfl⟩:=x6.1 hm;exact(he k _ (gE Q)).1.few side
 have C1:E (0<l.length):=by rw[R]at D0;exact List.length_pos_iff.2 D0
 rw[R,hx]at hc
 have T0:(side:Int)<4:=by omega
 unfold Xg at hc Q0 ⊢;clear h R hx he hb D0;obtain⟨M,hM⟩:∃M,es.length=M:=⟨_,rfl⟩;have HM:=Za hM
 have P1:M<=10:=by omega
 rw[hM];clear hM hl;go_enter Tryz.func213,Tryz.ntmps213;go_wp2_with fail;obtain⟨N,hN⟩:∃N,l.length=N:=⟨_,rfl⟩;rw[hN]at hc ⊢;have HN:=Za hN
 have Q1:N<=10:=by have:=R0.o;omega
 clear hN hc
 go_loopg [7,9,11,16] N (fun m ov _ _ iv wr=>∃k,k<=N/\m=N-k/\iv=J I (k:Nat)/\E (wr.ownsRow w.heap.size 3 1 ov (YX side (l.take k) es).length (Zg (YX side (l.take k) es)))/\E (F0 w wr))
 case atStart=>exact⟨0,by omega,rfl,rfl,oZ _ _ _ _,Q0⟩
 case round=>
  obtain⟨k,Q,rfl,rfl,HO,l0⟩:=hrel;obtain⟨oa,oc,ho⟩:=oL HO.o;subst ho;obtain⟨nn,a0⟩:∃nn,(YX side (l.take k) es).length=nn:=⟨_,rfl⟩
  have S1:nn<=2010:=by
   rw[<-a0];have h1:=QF side es C0.o (l.take k)
   have h2:(l.take k).length<=10:=by rw[z5];have:=R0.o;omega
   have h3:=y8 (show 1+20*es.length<=201 by have:=S0.o;omega) h2;omega
  have m0:=Za a0;rw[a0]at HO;rw[a0];clear a0;by_cases V0:k<N
  ·have T0:(k:Int)<(N:Int):=by omega
   have hx:=gE (show k<l.length by have:=HN.o;omega);obtain⟨g,o,ea,h1,h2⟩:=(HS.o.fr l0.o (by simp)) k _ hx;have D1:=Za (Iz side (es:=es) hx);generalize l[k]'(by have:=HN.o;omega)=s at*;obtain⟨lo,b⟩:=s
   dsimp only at h1 h2
   obtain⟨xa,xc⟩:=x
   dsimp only at ea
   subst ea;rw[show o+2*k=o+k*2 from by omega]at h1;rw[show o+2*k+1=o+k*2+1 from by omega]at h2;have T:E ((wr.alloc (O #[J I (lo:Int),J I (b:Int)] 118)).heap[wr.heap.size]?=Y (O #[J I (lo:Int),J I (b:Int)] 118)):=aN wr _;have F:E (F0 wr (wr.alloc (O #[J I (lo:Int),J I (b:Int)] 118))):=(Fr.refl _ _).alloc _
   have n0:E (∀k,(D oa nn oc).ownBlock=Y k->k≠wr.heap.size):=fun k Q=>by have:=(HO.o.lt k Q).2;omega
   clear hx;go_upto_region 5 with fail;generalize wr.alloc (O #[J I (lo:Int),J I (b:Int)] 118)=w1 at*;obtain⟨q,hq⟩:∃q,wr.heap.size=q:=⟨_,rfl⟩;have HQ:=Za hq;rw[hq]at T n0;rw[hq];clear hq h1 h2;have z0:=bC T.o 0 _ rfl;have z1:=bC T.o 1 _ rfl;have E0:=Za (l0.o.trans F.o);have P:=Za (oF HO.o F.o (by simp));clear HO l0 F
   go_wp2_with (at_builtin;refine wpList_append_lies _ rfl (.tmp 20) (.tmp 23) 25 rfl w.heap.size 3 ii _ 1 8 Tryz.underlying25 hi N0 O0 P0 rfl (by decide) (V oa nn oc) nn (Zg (YX side (l.take k) es)) rfl ?h1 ⟨w1.heap.size,0,U⟩ 1 1 [J I (lo:Nat)] rfl rfl ?h2 ?h3 (by decide) ?h4 ?h5 ?h6 _ rfl ?h7)
   case h1=>exact P.o.alloc _
   try case h2=>exact C (aN w1 (O #[J I (lo:Nat)] 3))
   case h3=>simp[z3]
   case h4=>unfold maxLen;omega
   case h5=>omega
   case h6=>have:=E0.o.size;simp;omega
   case h7=>
    intro g2 W0 w8 K d b0 _;have X0:=Za ((E0.o.alloc _).grown d (fun k Q=>z4 (P.o.lt k Q).1));have Y0:=Za ((((Fr.refl (fun k=>(D oa nn oc).ownBlock=Y k) w1).alloc _).grown d (fun k Q=>x7 Q)).whole T.o (fun e=>n0.o q e rfl))
    have Z0:E (w8.ownsRow w.heap.size 3 1 (V (Y ⟨g2,0,U⟩) (nn+1) W0) (YX side (l.take k) es++st1 side (lo,b) (es.take 0)).length (Zg (YX side (l.take k) es++st1 side (lo,b) (es.take 0)))):=by
     have e:st1 side (lo,b) (es.take 0)=[lo]:=by simp[st1]
     rw[e,lA,m0.o,OX];exact K
    have a1:E (g2≠q):=by
     show _≠_
     rcases b0 with e|e
     ·exact n0.o g2 e
     ·have:=(iA.1 T.o).1
      omega
    clear K d b0 z0 z1 E0 P T n0;go_wp2_with fail
    go_loopg [7,11,27] M (fun m ov _ jv wq=>∃j,j<=M/\m=M-j/\jv=J I (j:Nat)/\E (wq.ownsRow w.heap.size 3 1 ov (YX side (l.take k) es++st1 side (lo,b) (es.take j)).length (Zg (YX side (l.take k) es++st1 side (lo,b) (es.take j))))/\E (F0 w wq)/\E (wq.heap[q]?=Y (O #[J I (lo:Int),J I (b:Int)] 118))/\E (∀k,ov.ownBlock=Y k->k≠q))
    case atStart=>exact⟨0,by omega,rfl,rfl,Z0,X0,Y0,Hr a1.o⟩
    case round=>
     obtain⟨j,hj,rfl,rfl,Z,o0,b1,d0⟩:=hrel;clear Z0 X0 Y0 a1;obtain⟨pa,pc,ho⟩:=oL Z.o;subst ho;obtain⟨pn,f0⟩:∃pn,(YX side (l.take k) es++st1 side (lo,b) (es.take j)).length=pn:=⟨_,rfl⟩
     have T1:pn<=2300:=by
      rw[<-f0,lA,m0.o];have h1:=Hq side (lo,b) (es.take j) (fun e he=>C0.o e (List.mem_of_mem_take he))
      have h2:(es.take j).length<=10:=by rw[z5];have:=S0.o;omega
      omega
     have G0:=Za f0;rw[f0]at Z d0;rw[f0];clear f0;by_cases V1:j<M
     ·have E1:(j:Int)<(M:Int):=by omega
      have hx:=gE (show j<es.length by have:=HM.o;omega);obtain⟨h0,ge,oe,ea,g0⟩:=(HE.o.fr o0.o) j _ hx;have H0:=Za (HB.o _ (q0 (show j<es.length by have:=HM.o;omega)));have p0:=Za (Df side (lo,b) hx);generalize es[j]'(by have:=HM.o;omega)=e at*;subst ea;have r0:=Za (X9.at h0 side);have t0:E ((e.A.at side).length<=10):=h0.few side;obtain⟨f,y0,y1,y2,y3⟩:=e
      dsimp only at r0 t0 H0 p0
      have c0:wr.cell? ⟨ge,oe+j*4,U⟩=Y (V y0.a f.s0.length y0.c):=g0 0 _ rfl;have c1:wr.cell? ⟨ge,oe+j*4+1,U⟩=Y (V y1.a f.s1.length y1.c):=g0 1 _ rfl;have c2:wr.cell? ⟨ge,oe+j*4+2,U⟩=Y (V y2.a f.s2.length y2.c):=g0 2 _ rfl;have c3:wr.cell? ⟨ge,oe+j*4+3,U⟩=Y (V y3.a f.s3.length y3.c):=g0 3 _ rfl;have F:E (F0 wr (wr.alloc (O #[V y0.a f.s0.length y0.c,V y1.a f.s1.length y1.c,V y2.a f.s2.length y2.c,V y3.a f.s3.length y3.c] 215))):=(Fr.refl _ _).alloc _;have i0:E ((wr.alloc (O #[V y0.a f.s0.length y0.c,V y1.a f.s1.length y1.c,V y2.a f.s2.length y2.c,V y3.a f.s3.length y3.c] 215)).cell? ⟨wr.heap.size,side,U⟩=Y (Xg (KJ y0 y1 y2 y3 side) (f.at side))):=Ll (t:=215) (aN wr (O (Sp f y0 y1 y2 y3) 215)) hs
      have d1:∀k,(D pa pn pc).ownBlock=Y k->k<wr.heap.size:=fun k Q=>(Z.o.lt k Q).2
      have f1:=Za d1;clear hx h0 g0 d1;go_upto_region 9 with fail;generalize wr.alloc (O #[V y0.a f.s0.length y0.c,V y1.a f.s1.length y1.c,V y2.a f.s2.length y2.c,V y3.a f.s3.length y3.c] 215)=w2 at*;obtain⟨r,hr⟩:∃r,wr.heap.size=r:=⟨_,rfl⟩;rw[hr]at i0 f1;rw[hr];have HR:=Za hr;clear hr c0 c1 c2 c3;obtain⟨L,hL⟩:∃L,f.at side=L:=⟨_,rfl⟩;obtain⟨y,hy⟩:∃y,KJ y0 y1 y2 y3 side=y:=⟨_,rfl⟩;rw[hL,hy]at i0 r0;rw[hL]at t0 H0 p0;clear hL hy;unfold Xg at i0;have F1:=Za (oF Z.o F.o (by simp));have v0:=Za (F.o.whole b1.o (by simp));have G1:=Za (r0.o.fr F.o (by simp));have I0:=Za (o0.o.trans F.o)
      have w0:E (∀W,Fr (fun k=>(D pa pn pc).ownBlock=Y k) w2 W->W.cell? ⟨q,0,U⟩=Y (J I (lo:Int))/\W.cell? ⟨q,1,U⟩=Y (J I (b:Int))/\W.cell? ⟨r,side,U⟩=Y (V y.a L.length y.c)):=fun W hf=>by
       have e:=hf.whole v0.o (fun e=>d0.o q e rfl);exact⟨bC e 0 _ rfl,bC e 1 _ rfl,(hf.cell (p:=⟨r,side,U⟩) (bL w2 _ i0.o) (fun e=>by have:=f1.o r e;omega)).trans i0.o⟩
      clear Z o0 b1 r0;refine wp_region_held_drew (S:=fun W=>W.cell? ⟨q,0,U⟩=Y (J I (lo:Int))/\W.cell? ⟨q,1,U⟩=Y (J I (b:Int))/\W.cell? ⟨r,side,U⟩=Y (V y.a L.length y.c)) (by kernel_rfl) (w0.o _ (Fr.refl _ _).drew) (fun hH=>?_);refine Zf 0 hH ?_
      try go_frame
      refine Zf 1 hH ?_
      try go_frame
      refine Zf 2 hH ?_
      try go_frame
      refine Zf 3 hH ?_
      try go_frame
      refine Zf 4 hH ?_
      try go_frame
      refine wpAnyH_ready (rs:=[5]) (by kernel_rfl) (by simp) ?_;refine Zb rfl (fun K2 hK=>?_) AllReadyH.nil
      try rw[if_pos (by rfl)]
      go_simp;have J0:=De w2.drew (lo,b) y L (G1.o.fr (Fr.refl (fun _=>False) w2).drew (by simp)) t0.o H0.o
      dsimp only at J0
      refine J0.mono ?_;rintro e w3 ⟨⟨v,rfl,hv,i1⟩,j1⟩;have z:E (F0 w2 w3):=((Fr.refl _ _).drew).trans j1;have K0:=Za hv;have A0:=Za (oF F1.o z.o (by simp));obtain⟨va,vc,H1⟩:=oL hv;subst H1;obtain⟨m,hm⟩:∃m,(Yg (lo,b) L).length=m:=⟨_,rfl⟩
      have W1:m<=20:=by rw[<-hm];have:=Sq (lo,b) L;have:=t0.o;omega
      have B0:=Za hm;have k1:=Za i1;rw[hm]at K0 k1;rw[hm];clear j1 hv J0 hm i1;refine hK.out _ _ (w0.o _ (z.o.mono (fun _ h=>h.elim))) (fun hH=>?_);clear hK K2
      try go_frame
      by_cases l1:m=0
      ·have e0:=k1.o l1
       injection e0 with e1 e2 e3;subst e1 e3 l1;refine wpAnyH_ready (rs:=[6]) (by kernel_rfl) (by simp) ?_;refine Zb rfl (fun K2 hK=>?_) AllReadyH.nil
       try rw[if_pos (by rfl)]
       refine OV (.tmp 31) (.tmp 36) 25 rfl w.heap.size 3 ii 1 Tryz.underlying25 hi (V pa pn pc) pn (Zg (YX side (l.take k) es++st1 side (lo,b) (es.take j))) rfl A0.o rfl ?hz
       have j0:E (w3.ownsRow w.heap.size 3 1 (V pa pn pc) (YX side (l.take k) es++st1 side (lo,b) (es.take (j+1))).length (Zg (YX side (l.take k) es++st1 side (lo,b) (es.take (j+1))))):=by
        rw[p0.o,z7 B0.o,q8,G0.o];exact A0.o
       have L0:=Za (I0.o.trans z.o);have M0:=Za (z.o.whole v0.o (by simp));refine hK.out _ _ (w0.o _ (z.o.mono (fun _ h=>h.elim))) (fun hH=>?_);clear hK K2
       try go_frame
       refine Zf 7 hH ?_
       try go_frame
       refine wpAnyH_done (by kernel_rfl) ?_ _;go_wp2_with fail;go_roundg (M-(j+1))
       case measure=>omega
       case rel=>exact⟨j+1,by omega,rfl,by go_num,j0,L0,M0,d0⟩
      ·obtain⟨g3,c3,e3,X1,R1⟩:=K0.o.form (by omega)
       injection e3 with e1 e2 e4;subst e1
       have m1:∀i u,(Zg (Yg (lo,b) L))[i]?=Y u->w3.cell? (Addr.add ⟨g3,0,U⟩ i)=Y u:=by
        intro i u hu;have V0:=(iG.1 hu).1;rw[OW,B0.o]at V0;have e:=K0.o.cellAt i (by omega);rw[hu]at e;rw[<-e];simp[Addr.add]
        split<;>simp[*]
       have I1:=Za m1;clear m1;refine wpAnyH_ready (rs:=[6]) (by kernel_rfl) (by simp) ?_;refine Zb rfl (fun K2 hK=>?_) AllReadyH.nil
       try rw[if_pos (by rfl)]
       refine wp_append_lies _ (.tmp 31) (.tmp 36) 25 rfl w.heap.size 3 ii _ 1 8 Tryz.underlying25 hi N0 O0 P0 rfl (by decide) (V pa pn pc) pn (Zg (YX side (l.take k) es++st1 side (lo,b) (es.take j))) rfl A0.o ⟨g3,0,U⟩ m vc (Zg (Yg (lo,b) L)) rfl ?g1 I1.o (IA _) (by omega) ?g4 ?g5 ?g6 _ rfl ?g7
       case g1=>rw[OW,B0.o,j3]
       case g4=>unfold maxLen;omega
       case g5=>omega
       case g6=>have:=I0.o.size;have:=z.o.size;omega
       case g7=>
        intro g4 n1 w4 K d b0 _;have o1:E (Fr (fun k=>(D pa pn pc).ownBlock=Y k) w2 w4):=(z.o.mono (fun _ h=>h.elim)).grown d (fun k Q=>x7 Q);have L0:E (F0 w w4):=(I0.o.trans z.o).grown d (fun k Q=>z4 (A0.o.lt k Q).1);have M0:=Za (o1.o.whole v0.o (fun e=>d0.o q e rfl))
        have j0:E (w4.ownsRow w.heap.size 3 1 (V (Y ⟨g4,0,U⟩) (pn+m) n1) (YX side (l.take k) es++st1 side (lo,b) (es.take (j+1))).length (Zg (YX side (l.take k) es++st1 side (lo,b) (es.take (j+1))))):=by
         rw[p0.o,<-y5,OX,lA,G0.o,B0.o];exact K
        have J1:E (g4≠q):=by
         show _≠_
         rcases b0 with e|e
         ·exact d0.o g4 e
         ·have:=(iA.1 v0.o).1
          have:=z.o.size;omega
        clear K d b0;refine hK.out _ _ (w0.o _ o1.o) (fun hH=>?_);clear hK K2
        try go_frame
        refine Zf 7 hH ?_
        try go_frame
        refine wpAnyH_done (by kernel_rfl) ?_ _;go_wp2_with fail;go_roundg (M-(j+1))
        case measure=>omega
        case rel=>exact⟨j+1,by omega,rfl,by go_num,j0,L0,M0,Hr J1.o⟩
     ·have E1:¬(j:Int)<(M:Int):=by omega
      have ej:j=M:=by omega
      have j0:E (wr.ownsRow w.heap.size 3 1 (V pa pn pc) (YX side (l.take (k+1)) es).length (Zg (YX side (l.take (k+1)) es))):=by
       have e:=Z.o;rw[D1.o,show st1 side (lo,b) es=st1 side (lo,b) (es.take j)from by rw[X (by have:=HM.o;omega)],G0.o];exact e
      clear ej;go_wp2_with fail;go_roundg (N-(k+1))
      case measure=>omega
      case rel=>exact⟨k+1,by omega,rfl,by go_num,j0,o0⟩
  ·have T0:¬(k:Int)<(N:Int):=by omega
   have ek:l.take k=l:=X (by have:=HN.o;omega)
   have h0:0<nn:=by
    rw[<-m0.o,ek];have hp:=C1.o
    cases l with
    |nil=>simp at hp
    |cons s r=>simp[YX,st1]
   obtain⟨g,cap,eo,hg,K1⟩:=HO.o.form h0;injection eo with e1 e2 e3;subst e1 e3;have P:=HO;rw[ek]at P m0;obtain⟨_,p1,_,L1,_⟩:=Mo P.o;have k0:=Za (Dh P.o (by omega));have HG:=Za hg;clear ek h0 hg K1;go_wp2_with fail;refine k0.o.mono ?_;rintro e w5 ⟨rfl,q1,r1⟩;have t1:=Za (KM (cap:=oc) q1 (show _=nn by rw[y9];simpa[Mn]using L1) p1 (by omega));have M1:=Za (l0.o.monoNew r1 (fun i e=>z4 (by have:=HG.o;omega)));clear k0 q1 r1;go_wp2_with fail;refine t1.o.mono ?_;rintro e w6 ⟨rfl,v1,A1⟩;have N1:=Za (M1.o.monoNew A1 (fun i e=>z4 (by have:=HG.o;omega)));have O1:=Za v1;clear t1 v1 A1;go_wp2_with fail;go_ret
   have B1:Lib.compact ((Mn (YX side l es)).mergeSort fun x y=>decide (x<=y))=Mn (Xq side A es):=by rw[HV.o,<-FD];rfl
   refine⟨⟨g,oc,HG.o,?_,fun j n hj=>?_⟩,N1.o⟩
   ·rw[B1]
    simp[Mn]
   ·refine O1.o j n ?_
    rw[B1];simp[Mn,hj]
