import Derived.Test.YtccikgogjfbpeaaGreatDoorUc
import Derived.Test.YtccikgogjfbpeaaGreatDoorCards
import Derived.ProofKit
import Derived.JoinedCond
import Derived.Carry
import Derived.Deep.Slices
import Derived.Deep.DeepHandedRow
import Derived.Deep.DeepWitnessRowRef
import Derived.Lib.LaidTab
import Derived.Stop.LaidErr
import Derived.Lay
open Go.Proofs.Tryz renaming prog->I
open Option renaming none->J,some->S
open Go.Value renaming slice->P,pointer->V,int->Z,bool->K,string->E,pointer->N
open Go.Ending renaming returned->Y
open Go.IntKind renaming i64->U
open Go renaming World->O,Calls->H,Value->M
open Go.RowKit renaming Hid->B
open Or renaming inl->D
open Nat renaming le_refl->G
namespace Go.Proofs.YtccikgogjfbpeaaGreatDoor
set_option maxRecDepth 30000
set_option maxHeartbeats 8000000
open Go.RowKit
def Np (c:Nat->Nat)(w:O)(L d:Nat)(es f:List Ue)(w':O):Prop:=
 (∃v g h i j a l es' b,Nj w c w' L v g h i j a l es' b/\a<=d+1/\es'.length<=es.length+4/\b.length<=f.length+4/\(∀e,e∈es'->e∈es\/e.n<=8796093022208)/\∀e,e∈b->e∈f\/e.n<=8796093022208)/\Fr (fun k=>c k≠0) w w'
theorem Np.of {c:Nat->Nat}{w W w':O}{L d a:Nat}{es f es' b:List Ue}{v i j l m:M}{o Q:List Nat}(p:F0 w W)(h:Nj W c w' L v i j l m a o es' b)(q:a<=d+1)(r:es'.length<=es.length+4)(s:b.length<=f.length+4)(t:∀e,e∈es'->e∈es\/e.n<=8796093022208)(u:∀e,e∈b->e∈f\/e.n<=8796093022208)(x:St Q c W w')(y:0∉Q):Np c w L d es f w':=by
 obtain⟨z,A,B⟩:=h;exact⟨⟨v,i,j,l,m,a,o,es',b,⟨z,fun k g=>A k (nL g p.size),B⟩,q,r,s,t,u⟩,(p.mono (by simp)).trans (x.mono fun k g e=>y (e▸g))⟩
theorem Np.same {c:Nat->Nat}{w w':O}{L a:Nat}{es d:List Ue}{v f g i j:M}{k:List Nat}(l:F0 w w')(h:SU c w' L v f g i j a k es d):Np c w L a es d w':=
 Np.of (Q:=[]) l ⟨c,WJ.refl _ _,h⟩ (by omega) (by omega) (by omega) (fun e b=>D b) (fun e b=>D b) (Fr.refl _ _) (by simp)
theorem NO (c:Nat->Nat)(w:O)(L:Nat)(v j k l m:M)(a:Nat)(n:List Nat)(es b:List Ue)(u:Int)(s d:ByteArray)(f x g:Int)(y:Option Addr)(z A:Nat)(C:Bool)(h:SU c w L v j k l m a n es b):
  H I 26 #[V (S ⟨L,0,J⟩),Ho 1 u s d f x g y z A C] w fun e w'=>e=Y (K true)/\Np c w L a es b w':=by
 unfold Ho;have E:=Za h;clear h;go_enter Tryz.func26,Tryz.ntmps26;go_wp2_with fail;generalize p:w.alloc _=W at*;have q:B (F0 w W):=IOq p;clear p;refine(SV c W L v j k l m a n es b s (E.o.keep q.o (WJ.refl _ _))).mono ?_;rintro e F ⟨rfl,⟨P,G,r⟩,t⟩;have N:B (Np c w L a es b F):=Np.of q.o r (by omega) (by omega) (by omega) (fun e i=>D i) (fun e i=>D i) t (by decide);clear r t;go_wp2;go_ret;exact⟨rfl,N.o⟩
theorem IV (c:Nat->Nat)(w:O)(L:Nat)(t u v x:M)(a:Nat)(y:List Nat)(es j:List Ue)(z:Option Addr)(A:Nat)(k l:Int)(s b:ByteArray)(d m f:Int)(n:Option Addr)(p q:Nat)(r:Bool)(h:SU c w L (P z 0 A) t u v x a y es j)(C:k<=5)(i:k≠1):
  H I 26 #[V (S ⟨L,0,J⟩),Ho k l s b d m f n p q r] w fun e w'=>e=Y (K true)/\Np c w L a es j w':=by
 have D:=Za h
 have G:(k==1)=false:=by simp;omega
 have N:(k==7)=false:=by simp;omega
 have Q:(k==9)=false:=by simp;omega
 have E:(k==10)=false:=by simp;omega
 have g:B (F0 w (w.alloc (Up k l s b d m f n p q r))):=(Fr.refl _ _).alloc _;have F:=bC (g.o.whole h.bx (by simp)) 0 _ rfl;unfold Up at g F;clear h C i;unfold Ho;go_enter Tryz.func26,Tryz.ntmps26;go_wp2;go_ret;exact⟨rfl,Np.same g.o (D.o.keep g.o (WJ.refl _ _))⟩
theorem Lv.raw {c:Nat->Nat}{w:O}{X:Nat}(h:Lv c w X):∃a T q f R b d e,IS w a T q f R/\YE f R/\w.heap[X]?=S (.cells #[V (S ⟨T,0,J⟩),V (S ⟨q,0,J⟩),K false,K b,d,e] 97):=by
 obtain⟨w0,a,T,q,f,R,b,d,e,g,i,_,j,_,_,l,_⟩:=h;exact⟨a,T,q,f,R,b,d,e,g.fr j fun k m=>m,i,l⟩
theorem SU.pick {c:Nat->Nat}{w:O}{L:Nat}{v j l m n:M}{b:Nat}{a:List Nat}{es o:List Ue}(h:SU c w L v j l m n b a es o)(k:Nat)(f:k<a.length):∃g d X,v=P (S ⟨g,0,J⟩) a.length d/\w.cell? ⟨g,k,J⟩=S (V (S ⟨X,0,J⟩))/\X∈a:=by
 obtain⟨g,d,e,p,q⟩:=h.tv.form (by omega);subst e;have i:=h.tv.cells (g:=g) rfl _ _ (show(a.map fun X=>N (S ⟨X,0,J⟩))[k]?=S (V (S ⟨a[k],0,J⟩)) by rw[List.getElem?_map,gE f];rfl);rw[Tc,Nat.zero_add]at i;exact⟨g,d,a[k],rfl,i,List.getElem_mem f⟩
theorem IW (c:Nat->Nat)(w:O)(L:Nat)(v nv ov mv kv:M)(d:Nat)(xs:List Nat)(es F:List Ue)(k j:Int)(s b:ByteArray)(f N i:Int)(y:Option Addr)(x Q:Nat)(R:Bool)(dl:List ByteArray)(h:SU c w L v nv ov mv kv d xs es F)(h0:0<xs.length)(hk:k<=5)(r0:k≠1)(f0: -9223372036854775808<=j)(g0:j<=9223372036854775807)
  (ht:∀w',Fr (fun k=>L<=k) w w'->QA w')(i0:dl.length=x)(hd:Yz w y dl)(hs:b.size<=maxLen)(hc:d<=4611686018427387904)(hE:(es.length+4)*24<=140737488355328)(j0:(F.length+4)*24<=140737488355328)(hN:(x+6)*16<=140737488355328):
  H I 26 #[V (S ⟨L,0,J⟩),Ho k j s b f N i y x Q R] w fun e w'=>e=Y (K true)/\Np c w L d es F w':=by
 have e1:(k==1)=false:=by simp;omega
 have e7:(k==7)=false:=by simp;omega
 have e9:(k==9)=false:=by simp;omega
 have s0:(k==10)=false:=by simp;omega
 have HF:B (F0 w (w.alloc (Up k j s b f N i y x Q R))):=(Fr.refl _ _).alloc _;have HT:=Za ht;have HL:=Za (h.keep HF.o (WJ.refl _ _));have hy:=aN w (Up k j s b f N i y x Q R);have y0:=bC hy 0 _ rfl;have y1:=bC hy 1 _ rfl;have HY:=Za hy;have z:B (dl.length=x/\Yz w y dl/\b.size<=maxLen/\d<=4611686018427387904/\(es.length+4)*24<=140737488355328/\(F.length+4)*24<=140737488355328/\(x+6)*16<=140737488355328):=⟨i0,hd,hs,hc,hE,j0,hN⟩;unfold Up at HF HL HY y0 y1;obtain⟨n,hn⟩:∃n,xs.length=n:=⟨_,rfl⟩;have HN:=Za hn
 have b0:0<n:=by omega
 have k0:n<=20:=by have:=h.few;omega
 have hp:Sa j n<n:=Da j n b0
 have t0:(Sa j n:Int)<(n:Int):=by omega
 have v0:((n:Int)==0)=false:=by simp;omega
 obtain⟨g,vc,X,hv,w0,l0⟩:=HL.o.pick (Sa j n) (by omega);have a0:=Za l0;subst hv;rw[hn]at HL;have c0:=bC HL.o.bx 0 _ rfl
 have A0:B (∀W,H I 44 #[Z U j,Z U n] W fun e w'=>e=Y (Z U (Sa j n))/\w'=W):=fun W=>Db j n W f0 g0 b0 (by omega)
 clear h ht h0 r0 hn hy l0 b0 k0 f0 g0 i0 hd hs hc hE j0 hN;unfold Ho;go_enter Tryz.func26,Tryz.ntmps26;go_wp2_with fail
 go_quiet ((go_at_call 44;exact Calls.quiet_of_same (A0.o _)))
 have HD:B (F0 (w.alloc (.cells #[Z U k,Z U j,E s,E b,Z U f,Z U N,Z U i,P y x Q,K R] 62)) ((w.alloc (.cells #[Z U k,Z U j,E s,E b,Z U f,Z U N,Z U i,P y x Q,K R] 62)).drewN nq)):=⟨rfl,rfl,rfl,G _,fun _ _ _=>rfl⟩;have z0:=HD.o.get y0;have u:=Za (HL.o.keep HD.o (WJ.refl _ _));have l:=Za (HD.o.whole HY.o (by simp));have m:=Za (HF.o.trans HD.o);generalize(w.alloc (.cells #[Z U k,Z U j,E s,E b,Z U f,Z U N,Z U i,P y x Q,K R] 62)).drewN nq=W at*;clear y0 y1 c0 w0 hp t0 v0 e1 e7 e9 s0 HD HY HF HL;by_cases m0:k=2
 ·subst m0
  obtain⟨a,T,q,d0,e0,B0,I0,J0,⟨Bb,TT,vr,vl,zs,body,h3,h4,k4,h5,h6,k6,h8⟩,h7,h2⟩:=(u.o.tb X a0.o).raw;have C0:=Za (Fz W T Bb vr vl d0 e0 zs h4 h6 h7 (HT.o W (m.o.mono (by simp))));have D0:=Za h8;have HX:=Za h2;have x0:=bC h2 0 _ rfl;clear h2 h3 h4 k4 h5 h6 k6 h7 h8;go_wp2_with fail;refine C0.o.mono ?_;rintro e w5 ⟨rfl,hf⟩;have n0:=Za hf;have x1:=bC (hf.whole HX.o (by simp)) 1 _ rfl;have x2:=bC (hf.whole HX.o (by simp)) 2 _ rfl
  have E0:B (H I 45 #[V (S ⟨q,0,J⟩)] w5 fun e w'=>e=Y (E (ZV (V8 d0 e0)))/\w'=w5):=by
   have hr:=D0.o.fr hf;obtain⟨⟨a',c',k1,k2⟩,_,⟨k3,k4⟩,k5,_⟩:=hr;refine(GL w5 q a' c' body k1 (fun h=>by obtain⟨g',e,_,_,r⟩:=k2 h;exact⟨g',e,r⟩) k3 k4).mono ?_;rintro e w' ⟨⟨t,rfl,ht⟩,rfl⟩;refine⟨?_,rfl⟩;rw[<-k5]at ht
   have:t=ZV (V8 d0 e0):=by
    unfold ZV;rw[<-ht]
   rw[this]
  clear hf x0 z0;go_wp2_with fail;refine E0.o.mono ?_;rintro e w6 ⟨rfl,hw⟩;replace hw:=hw.symm;subst hw;go_wp2;go_ret;exact⟨rfl,Np.same (m.o.trans n0.o) (u.o.keep n0.o (WJ.refl _ _))⟩
 ·by_cases o0:k=3
  ·subst o0
   have A:B (H I 46 #[V (S ⟨L,0,J⟩),V (S ⟨X,0,J⟩),.agg #[Z U 3,Z U j,E s,E b,Z U f,Z U N,Z U i,P y x Q,K R]] W fun e w'=>e=Y (K true)/\Np c w L d es F w'):=by
    obtain⟨d1,d2,d3,d4,d5,_,d6⟩:=z.o;have e:=Lw c W L (P (S ⟨g,0,J⟩) n vc) nv ov mv kv d xs es F X 3 j s ⟨b,f,N,i⟩ y dl Q R u.o (u.o.tb X a0.o) (d2.fr m.o (by simp)) d3 d4 d5 (by omega);rw[d1]at e;refine e.mono ?_;rintro e w' ⟨r1,⟨G0,H0,es',r2,r3,r4⟩,r5⟩;exact⟨r1,Np.of m.o r2 (by omega) (by omega) (by omega) r4 (fun e he=>D he) r5 (by decide)⟩
   have z1:W.cell? ⟨w.heap.size,1,J⟩=S (Z U j):=bC l.o 1 _ rfl;have z2:W.cell? ⟨w.heap.size,2,J⟩=S (E s):=bC l.o 2 _ rfl;have z3:W.cell? ⟨w.heap.size,3,J⟩=S (E b):=bC l.o 3 _ rfl;have z4:W.cell? ⟨w.heap.size,4,J⟩=S (Z U f):=bC l.o 4 _ rfl;have z5:W.cell? ⟨w.heap.size,5,J⟩=S (Z U N):=bC l.o 5 _ rfl;have z6:W.cell? ⟨w.heap.size,6,J⟩=S (Z U i):=bC l.o 6 _ rfl;have z7:W.cell? ⟨w.heap.size,7,J⟩=S (P y x Q):=bC l.o 7 _ rfl;have z8:W.cell? ⟨w.heap.size,8,J⟩=S (K R):=bC l.o 8 _ rfl;go_wp2_with fail;refine A.o.mono ?_;rintro e w5 ⟨rfl,p⟩;have C:=Za p;clear p z0 z1 z2 z3 z4 z5 z6 z7 z8;go_wp2;go_ret;exact⟨rfl,C.o⟩
  ·by_cases p0:k=4
   ·subst p0
    have A:B (H I 47 #[V (S ⟨L,0,J⟩),V (S ⟨X,0,J⟩)] W fun e w'=>e=Y (K true)/\Np c w L d es F w'):=(Ly c W L (P (S ⟨g,0,J⟩) n vc) nv ov mv kv d xs es F X u.o a0.o (HT.o W (m.o.mono (by simp))) z.o.2.2.2.1 z.o.2.2.2.2.2.1).mono (by
     rintro e w' ⟨r1,⟨K0,L0,M0,r2,r3,r4⟩,r5⟩
     exact⟨r1,Np.of m.o r2 (by omega) (by omega) (by omega) (fun e he=>D he) r4 r5 (by decide)⟩)
    go_wp2_with fail;refine A.o.mono ?_;rintro e w5 ⟨rfl,p⟩;have C:=Za p;clear p z0;go_wp2;go_ret;exact⟨rfl,C.o⟩
   ·by_cases q0:k=5
    ·subst q0
     have A:B (H I 48 #[V (S ⟨L,0,J⟩),V (S ⟨X,0,J⟩)] W fun e w'=>e=Y (K true)/\Np c w L d es F w'):=(Jc c W L (P (S ⟨g,0,J⟩) n vc) nv ov mv kv d xs es F X u.o a0.o z.o.2.2.2.1 z.o.2.2.2.2.1).mono (by
      rintro e w' ⟨r1,⟨G0,H0,es',r2,r3,r4⟩,r5⟩
      exact⟨r1,Np.of m.o r2 (by omega) (by omega) (by omega) r4 (fun e he=>D he) r5 (by decide)⟩)
     go_wp2_with fail;refine A.o.mono ?_;rintro e w5 ⟨rfl,p⟩;have C:=Za p;clear p z0;go_wp2;go_ret;exact⟨rfl,C.o⟩
    ·have f2:(k==2)=false:=by simp;omega
     have f3:(k==3)=false:=by simp;omega
     have f4:(k==4)=false:=by simp;omega
     have f5:(k==5)=false:=by simp;omega
     have f6:(k==6)=false:=by simp;omega
     have f8:(k==8)=false:=by simp;omega
     clear hk m0 o0 p0 q0;go_wp2;go_ret;exact⟨rfl,Np.same m.o u.o⟩
def Ru (w:O)(L m:Nat):Prop:=∃c v d f g h a i es b,SU c w L v d f g h a i es b/\(∀k,k<L->c k=0)/\a<=m/\es.length<=4*m/\b.length<=4*m/\∀e,e∈es\/e∈b->e.n<=8796093022208
theorem Np.all {c:Nat->Nat}{w w':O}{L a m:Nat}{es d:List Ue}(h:Np c w L a es d w')(B:L<w.heap.size)(j:∀k,k<L->c k=0)(C:a<=m)(E:es.length<=4*m)(F:d.length<=4*m)(l:∀e,e∈es\/e∈d->e.n<=8796093022208):Ru w' L (m+1)/\Fr (fun k=>L<=k) w w':=by
 obtain⟨⟨v,o,p,q,r,b,s,es',f,⟨t,u,x⟩,G,H,I,y,z⟩,A⟩:=h;refine⟨⟨t,v,o,p,q,r,b,s,es',f,x,fun k g=>(u k (by omega)).trans (j k g),by omega,by omega,by omega,?_⟩,A.mono fun k g=>Nat.le_of_not_lt fun e=>g (j k e)⟩;rintro e (i|i)
 ·exact(y e i).elim (fun h=>l e (D h)) id
 ·exact(z e i).elim (fun h=>l e (Or.inr h)) id
theorem MD (w:O)(L m:Nat)(k g:Int)(s a:ByteArray)(b n d:Int)(l:Option Addr)(i o:Nat)(p:Bool)(x:List ByteArray)(h:Ru w L m)(G:k<=5)(y: -9223372036854775808<=g)(z:g<=9223372036854775807)
  (M:∀w',Fr (fun k=>L<=k) w w'->QA w')(A:x.length=i)(N:Yz w l x)(P:a.size<=maxLen)(hm:96*m+96<=140737488355328)(Q:(i+6)*16<=140737488355328):
  H I 26 #[V (S ⟨L,0,J⟩),Ho k g s a b n d l i o p] w fun e w'=>e=Y (K true)/\Ru w' L (m+1)/\Fr (fun k=>L<=k) w w':=by
 obtain⟨c,v,B,C,D,E,f,t,es,u,r,R,T,U,W,X⟩:=h;have Z:=(iA.1 r.bx).1
 have q:H I 26 #[V (S ⟨L,0,J⟩),Ho k g s a b n d l i o p] w fun e w'=>e=Y (K true)/\Np c w L f es u w':=by
  by_cases j:k=1
  ·subst j
   exact NO c w L v B C D E f t es u g s a b n d l i o p r
  ·rcases Nat.eq_zero_or_pos t.length with F|F
   ·obtain⟨va,vc,e⟩:=oL r.tv
    rw[F]at e;subst e;exact IV c w L B C D E f t es u va vc k g s a b n d l i o p r G j
   ·exact IW c w L v B C D E f t es u k g s a b n d l i o p x r F G j y z M A N P (by omega) (by omega) (by omega) Q
 exact q.mono fun e w' ⟨r1,r2⟩=>⟨r1,r2.all Z R T U W X⟩
theorem Ru.fr {w w':O}{L m:Nat}(h:Ru w L m)(b:F0 w w'):Ru w' L m:=by
 obtain⟨c,v,d,e,f,g,a,i,es,j,k,l⟩:=h;exact⟨c,v,d,e,f,g,a,i,es,j,k.keep b (WJ.refl _ _),l⟩
theorem Ru.up {w:O}{L m:Nat}(h:Ru w L m):Ru w L (m+1):=by
 obtain⟨c,v,b,d,e,f,a,g,es,i,j,k,n,o,p,l⟩:=h;exact⟨c,v,b,d,e,f,a,g,es,i,j,k,by omega,by omega,by omega,l⟩
theorem Ru.still {w:O}{L m:Nat}(h:Ru w L m)(o:4*m<=8796093022208):H I 29 #[V (S ⟨L,0,J⟩)] w fun e w'=>e=Y (K true)/\F0 w w':=by
 obtain⟨c,v,b,d,f,g,a,i,es,j,k,p,q,r,s,l⟩:=h;exact IU c w L v b d f g a i es j k (by omega) (by omega) (fun e n=>Nat.le_trans (l e n) (by unfold maxLen;omega))
theorem SU.zero {w:O}{L:Nat}(h:w.heap[L]?=S (Ji (P J 0 0) (P J 0 0) (P J 0 0) (P J 0 0) (P J 0 0) 0)):SU (fun k=>if k=L then 1 else 0) w L (P J 0 0) (P J 0 0) (P J 0 0) (P J 0 0) (P J 0 0) 0 [] [] []:=by
 have a:∀t,Cl (fun k=>if k=L then 1 else 0) (P J 0 0) t:=fun t k c=>by cases c
 exact⟨h,if_pos rfl,oZ _ _ _ _,a _,by simp,(fun X d=>by cases d),⟨oZ _ _ _ _,a _,oZ _ _ _ _,a _,(fun e b=>by cases b)⟩,⟨oZ _ _ _ _,a _,oZ _ _ _ _,a _,(fun e b=>by cases b)⟩⟩
theorem Jd (w:O)(sa:Option Addr)(n c:Nat)(hn:96*n+192<=140737488355328)(W:∀i,i<n->∃b o,sa=S ⟨b,o,J⟩/\b<w.heap.size/\Ja w b (o+i*9))(ht:∀w',Below w.heap.size w w'->QA w'):
  H I 11 #[P sa n c,Z U 5] w fun e w'=>e=Y (K true)/\Below w.heap.size w w':=by
 have HS:=Za W;have HT:=Za ht
 have l0:(n:Int)<=9223372036854775807:=by omega
 clear W ht;go_enter Tryz.func11,Tryz.ntmps11;go_wp2_with fail;have q:=aN w (.cells #[P J 0 0,P J 0 0,P J 0 0,P J 0 0,P J 0 0,P J 0 0,Z U 0] 58);have r:B (F0 w (w.alloc (.cells #[P J 0 0,P J 0 0,P J 0 0,P J 0 0,P J 0 0,P J 0 0,Z U 0] 58))):=(Fr.refl _ _).alloc _;have HL:=Za (SU.zero q);clear q;refine(SV _ _ w.heap.size _ _ _ _ _ _ [] [] [] _ HL.o).mono ?_;rintro e t ⟨rfl,⟨v1,a0,⟨c1,u,v⟩⟩,y⟩;have l:B (Ru t w.heap.size 0):=⟨c1,v1,_,_,_,_,0,a0,[],[],v,fun k j=>(u k (by simp;omega)).trans (if_neg (by omega)),by omega,by simp,by simp,fun x hx=>by rcases hx with h|h<;>cases h⟩
 have f:B (Fr (fun k=>w.heap.size<=k) w t):=(r.o.mono (by simp)).trans (y.mono fun k j=>by
  by_cases e:k=w.heap.size
  ·omega
  ·dsimp only at j
   rw[if_neg e]at j
   simp at j)
 clear v y u HL r;obtain⟨L,X⟩:∃L,w.heap.size=L:=⟨_,rfl⟩;rw[X]at l f;have g:=Za X;rw[X];clear X
 have a:B (H I 26 #[V (S ⟨L,0,J⟩),Ho 3 0 ⟨#[]⟩ ⟨#[52,49,50,51,52,53]⟩ 0 0 0 J 0 0 false] t fun e w'=>e=Y (K true)/\Ru w' L (0+1)/\Fr (fun k=>L<=k) t w'):=
  MD t L 0 3 0 ⟨#[]⟩ ⟨#[52,49,50,51,52,53]⟩ 0 0 0 J 0 0 false [] l.o (by omega) (by omega) (by omega) (fun w' hw=>HT.o w' ((f.o.trans hw).below (G _) (fun k j=>by have:=g.o;omega))) rfl (fun k s W=>by simp at W) (by decide) (by omega) (by omega)
 unfold Ho at a;go_wp2_with fail;refine a.o.mono ?_;rintro e w2 ⟨rfl,z,A⟩;have b0:=Za z;have d0:=Za (f.o.trans A);clear z A a l f;go_wp2_with fail
 go_loopg [6,8] 0 (fun _ ok kk wr=>ok=K true/\kk=Z U 0/\B (wr=w2))
 case atStart=>exact⟨rfl,rfl,rfl⟩
 case round=>
  obtain⟨rfl,rfl,HW⟩:=hrel;have e:=HW.o;subst e;go_wp2_with fail
  go_loopg [6,14] n (fun m ok ii wr=>∃i,i<=n/\m=n-i/\ok=K true/\ii=Z U (i:Nat)/\B (Ru wr L (i+1))/\B (Fr (fun k=>L<=k) w wr))
  case atStart=>exact⟨0,Nat.zero_le _,rfl,rfl,rfl,b0,d0⟩
  case round=>
   obtain⟨i,hi,rfl,rfl,rfl,C,d⟩:=hrel;by_cases e0:i<n
   ·have f0:(i:Int)<(n:Int):=by omega
    obtain⟨b,o,rfl,hb,D⟩:=HS.o i e0;obtain⟨k,on,s,E,F,am,M,da,dn,dc,up,dl,hD,c0,c1,c2,c3,c4,c5,c6,c7,c8⟩:=D.fr d.o hb (Nat.le_of_eq g.o);have g0:=Za hD;clear D hD;by_cases j:5<k
    ·go_wp2
     go_roundg (n-(i+1))
     case measure=>omega
     case rel=>exact⟨i+1,by omega,rfl,rfl,by go_num,C.o.up,d⟩
    ·have N:k<=5:=by omega
     have a:B (H I 26 #[V (S ⟨L,0,J⟩),Ho k on s E F am M da dn dc up] wr fun e w'=>e=Y (K true)/\Ru w' L (i+1+1)/\Fr (fun k=>L<=k) wr w'):=by
      obtain⟨d1,d2,d3,d4,d5,d6⟩:=g0.o;exact MD wr L (i+1) k on s E F am M da dn dc up dl C.o N d1 d2 (fun w' hw=>HT.o w' ((d.o.trans hw).below (G _) (fun k j=>by have:=g.o;omega))) d3 d4 d5 (by omega) d6
     unfold Ho at a;clear N;go_wp2_with fail;refine a.o.mono ?_;rintro e w4 ⟨rfl,Q,R⟩;have T:=Za Q;have h0:=Za (d.o.trans R);clear Q R c0 c1 c2 c3 c4 c5 c6 c7 c8;have i0:=Za (T.o.still (by omega));go_wp2_with fail;refine i0.o.mono ?_;rintro e w5 ⟨rfl,p⟩;have j0:=Za (T.o.fr p);have k0:=Za (h0.o.trans (p.mono (by simp)));clear p;go_wp2;go_roundg (n-(i+1))
     case measure=>omega
     case rel=>exact⟨i+1,by omega,rfl,rfl,by go_num,j0,k0⟩
   ·have f0:¬(i:Int)<(n:Int):=by omega
    go_wp2;go_ret;exact⟨rfl,d.o.below (G _) (fun k j=>by have:=g.o;omega)⟩
theorem Pf (w:O)(a:Option Addr)(n c:Nat)(d:96*n+192<=140737488355328)(f:∀i,i<n->∃b o,a=S ⟨b,o,J⟩/\b<w.heap.size/\Ja w b (o+i*9))(g:∀w',Below w.heap.size w w'->QA w'):
  H I 5 #[P a n c] w fun e w'=>e=Y (K true)/\Below w.heap.size w w':=by
 have j:=Za (Jd w a n c d f g);clear d f g;go_enter Tryz.func5,Tryz.ntmps5;go_wp2_with fail;refine j.o.mono ?_;rintro e l ⟨rfl,h⟩;have k:=Za h;clear h;go_wp2;go_ret;exact⟨rfl,k.o⟩
open Go.ChangeShapes Go.WideShapes Go.ChangeAt
theorem AX:(Rows.reportsRow.wf (OpenSpec.ofChange Rows.reportsSpec))=true:=by kernel_rfl
theorem AY:(laidOutB I)=true:=by kernel_rfl
theorem AZ:(mapsRowed I)=true:=by kernel_rfl
theorem A0:(Tryz.f5.params.all (I.readableRec ·))=true:=by kernel_rfl
theorem A5:(namedTie I Rows.reportsRow.named Rows.reportsSpec.vars)=true:=by kernel_rfl
theorem A6:((Rows.reportsRow.stops==[]))=true:=by kernel_rfl
theorem A7:((I.stops==[]))=true:=by kernel_rfl
theorem A8:((Rows.reportsRow.knobs==[]))=true:=by kernel_rfl
theorem A9:((I.stopKnobs==[]))=true:=by kernel_rfl
theorem za:((Rows.reportsRow.inPlace==I.inPlace 5))=true:=by kernel_rfl
theorem An:((Rows.reportsRow.unfollowed==I.unfollowed 5))=true:=by kernel_rfl
theorem Ao:((Rows.reportsRow.recurses==I.recurses 5))=true:=by kernel_rfl
theorem Ap:((Rows.reportsRow.named==I.varsNamed 5))=true:=by kernel_rfl
theorem Aq:((Rows.reportsRow.maps==(Tryz.f5.params.toList++Rows.reportsSpec.plain.varTypes I).any (I.mapsRec ·)))=true:=by kernel_rfl
theorem Ar:((Rows.reportsRow.ifaces==(Tryz.f5.params.toList++Rows.reportsSpec.plain.varTypes I).any (I.ifacesRec ·)))=true:=by kernel_rfl
theorem At:((Rows.reportsRow.mapsOut==I.mapsAmong Tryz.f5.resultTypes.toList))=true:=by kernel_rfl
theorem Au:((Rows.reportsRow.loops==(Tryz.f5.params.toList++Rows.reportsSpec.plain.varTypes I).any (I.loopsFrom ·)))=true:=by kernel_rfl
theorem Av:((Rows.reportsRow.wideKeys==(Tryz.f5.params.toList++Rows.reportsSpec.plain.varTypes I++Tryz.f5.resultTypes.toList).any (I.wideKeysFrom ·)))=true:=by kernel_rfl
theorem Aw:(Rows.reportsSpec.vars.all (I.varReadable ·))=true:=by kernel_rfl
theorem Ay:(Tryz.f5.resultTypes.all (fun t=>I.readableRec t&&decide (t<I.types.size)))=true:=by kernel_rfl
theorem Az:((Rows.reportsRow.ifacesOut==Tryz.f5.resultTypes.toList.any (I.ifacesRec ·)))=true:=by kernel_rfl
theorem AA:((Rows.reportsRow.loopsOut==Tryz.f5.resultTypes.toList.any (I.loopsFrom ·)))=true:=by kernel_rfl
theorem AB:((Rows.reportsRow.plainKeys==I.plainKeys))=true:=by kernel_rfl
theorem AC:(Rows.reportsRow.shortTexts.isNone)=true:=by kernel_rfl
theorem AD:(I.stopsHeard)=true:=by kernel_rfl
theorem AE:(I.mayEnter)=true:=by kernel_rfl
theorem AF:((Rows.reportsRow.lifted==I.liftsFinal))=true:=by kernel_rfl
theorem AG:((I.make==S Rows.reportsRow.make))=true:=by kernel_rfl
theorem AH:((Rows.reportsRow.kinds==(if Rows.reportsRow.domain.isEmpty then[]else Tryz.f5.params.toList.map fun t=>match I.underlying t with|some (.int k)=>S k|_=>J)))=true:=by kernel_rfl
theorem AI:((Rows.reportsRow.pinned==Rows.reportsRow.pinnedBy))=true:=by kernel_rfl
theorem AJ:((Rows.reportsRow.veiled==(Tryz.f5.params.toList++Rows.reportsSpec.plain.varTypes I++Tryz.f5.resultTypes.toList).any (I.veiledRec ·)))=true:=by kernel_rfl
theorem AK:(Rows.reportsRow.veiledFits I Tryz.f5.params.toList (Tryz.f5.params.toList++Rows.reportsSpec.plain.varTypes I++Tryz.f5.resultTypes.toList))=true:=by kernel_rfl
theorem Y8 {a b:Bool}(c:a=true)(d:b=true):(a&&b)=true:=by rw[c,d];rfl
set_option maxRecDepth 100000 in
theorem Nm:joinedFacts I 5 Tryz.f5 Rows.reportsSpec Rows.reportsRow=true:=by
 unfold joinedFacts;exact(Y8 (Y8 (Y8 (Y8 (Y8 (Y8 (Y8 (Y8 (Y8 (Y8 (Y8 (Y8 (Y8 (Y8 (Y8 (Y8 (Y8 (Y8 (Y8 (Y8 (Y8 (Y8 (Y8 (Y8 (Y8 (Y8 (Y8 (Y8 (Y8 (Y8 (Y8 AX AY) AZ) A0) A5) A6) A7) A8) A9) za) An) Ao) Ap) Aq) Ar) At) Au) Av) Aw) Ay) Az) AA) AB) AC) AD) AE) AF) AG) AH) AI) AJ) AK)
open Go.Deep
theorem AL:I.globalNamed "internal/strconv.uint64pow10" =S 1:=by kernel_rfl
theorem DD:(I.globals[1]?).map (·.type)=S 351:=by kernel_rfl
theorem DE:I.cellsOf 351=20:=by kernel_rfl
theorem CD:I.cellsOf 328=1:=by kernel_rfl
theorem B7 {W:O}(h:laidMetH I Rows.reportsRow.laid W):QA W:=by
 have a:laidMet I Rows.reportsRow.laid W:=h;exact Lib.tabIs_of_head AL DD Tryz.underlying351 Tryz.underlying328 CD DE a.tail.tail.tail
set_option maxRecDepth 100000 in
theorem DF (os:Os):laidMet I Rows.reportsRow.laid ((World.laidAll I os Rows.reportsRow.laid).forCall (fun _ _=>0) ⟨#[],#[P J 0 0],[]⟩).memory:=
 laidMet_laidAll _ (by kernel_rfl) (by kernel_rfl)
set_option maxRecDepth 100000 in
theorem FU (os:Os):((World.laidAll I os Rows.reportsRow.laid).forCall (fun _ _=>0) ⟨#[],#[P J 0 0],[]⟩).variablesRefB Tryz.checked.prog=true:=by kernel_rfl
