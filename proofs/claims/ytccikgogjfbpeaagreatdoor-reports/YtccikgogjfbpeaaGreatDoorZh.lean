import Derived.Test.YtccikgogjfbpeaaGreatDoorZf
import Derived.Test.YtccikgogjfbpeaaGreatDoorQz
import Derived.Test.YtccikgogjfbpeaaGreatDoorQm
open Option renaming none->I,some->U
open Go.Value renaming slice->J,int->S,pointer->Y
open Go.IntKind renaming i64->V
open Go.Obj renaming cells->Z
open Go.RowKit renaming Hid->K
open _root_.ByteArray renaming empty->O
open Go.Ending renaming returned->E
open Go.Proofs.Tryz renaming prog->H
open Nat renaming zero_le->D,le_trans->M,le_refl->R
open Go renaming World->G,Calls->T
namespace Go.Proofs.YtccikgogjfbpeaaGreatDoor
set_option maxRecDepth 30000
set_option maxHeartbeats 8000000
open Go.RowKit
structure Wi (w:G)(B q:Nat)(body:List Tk)(rts:List Zd)(rls:List Zc):Prop where
 tk:∃a c,w.cell? ⟨q,0,I⟩=U (J a body.length c)/\(0<body.length->∃g,a=U ⟨g,0,I⟩/\B<=g/\g<w.heap.size/\CJ w g body)
 qb:B<=q/\q<w.heap.size
 few:body.length<=3000/\∀t,t∈body->t.text.size<=3000
 AQ:V8 rts rls=Vz body body.length
 row:∃B2 vr vl xs,B<=B2/\w.cell? ⟨q,1,I⟩=U vr/\w.cell? ⟨q,2,I⟩=U vl/\w.ownsRow B2 189 3 vr rts.length (YU rts)/\w.ownsRow B2 170 13 vl rls.length xs/\U4 B2 w (rls.map Zc.ref) xs
theorem Wi.fr {w w':G}{B q:Nat}{body:List Tk}{d:List Zd}{f:List Zc}(h:Wi w B q body d f)(b:F0 w w'):Wi w' B q body d f:=by
 obtain⟨⟨a,c,k,l⟩,i,m,o,r,s,t,u,x,y,z,A,C,D⟩:=h;refine⟨⟨a,c,(b.cell (p:=⟨q,0,I⟩) i.2 (by simp)).trans k,fun E=>?_⟩,⟨i.1,nL i.2 b.size⟩,m,o,r,s,t,u,x,(b.cell (p:=⟨q,1,I⟩) i.2 (by simp)).trans y,(b.cell (p:=⟨q,2,I⟩) i.2 (by simp)).trans z,oF A b (by simp),oF C b (by simp),U4.keep (fun v n K F=>oF F b (by simp)) D⟩;obtain⟨g,e,H,j,J⟩:=l E;exact⟨g,e,H,nL j b.size,J.fr b j (by simp)⟩
def VE (x:Except (Nat×Nat) (List Zd×List Zc))(w:G)(e:Ending)(w':G):Prop:=
 match x with
 | .ok p=>(∃q body,e=E (.tuple #[Y (U ⟨q,0,I⟩),S V 0,S V 0])/\Wi w' w.heap.size q body p.1 p.2)/\F0 w w'
 | .error f=>e=E (.tuple #[Y I,S V f.1,S V f.2])/\F0 w w'
theorem VE.ok {x:Except (Nat×Nat) (List Zd×List Zc)}{w w':G}{e:Ending}{p:List Zd×List Zc}(h:x=.ok p):VE x w e w'↔(∃q body,e=E (.tuple #[Y (U ⟨q,0,I⟩),S V 0,S V 0])/\Wi w' w.heap.size q body p.1 p.2)/\F0 w w':=by subst h;exact Iff.rfl
theorem VE.err {x:Except (Nat×Nat) (List Zd×List Zc)}{w w':G}{e:Ending}{f:Nat×Nat}(h:x=.error f):VE x w e w'↔e=E (.tuple #[Y I,S V f.1,S V f.2])/\F0 w w':=by subst h;exact Iff.rfl
def BU (c:List Yk)(body:List Tk)(i:Nat)(f:Fa)(a:List Zd)(b:List Z8):Prop:=
 (f=I->∃d,Qs body i d/\YV [] [] c=YV a b d/\a.length<=6/\b.length<=8)/\(∀x,f=U x->YV [] [] c=.error x)
theorem Fx {e d:List Yk}{body:List Tk}{j:Nat}{a:List Zd}{b:List Z8}{r:Vp}(c:YV [] [] e=YV a b (.route r::d))(g:Qs body (j+1) d)(h:b.length<=8):
  BU e body (j+1) (X5 a I r) (a++[⟨r.name.text,Ze r.base,Ze r.rate⟩]) b:=by
 simp only[YV]at c;refine⟨fun f=>⟨d,g,?_,?_,h⟩,fun x i=>?_⟩
 ·rw[f]at c;exact c
 ·have:=Om f;simp;omega
 ·rw[i]at c;exact c
theorem E8 {e d:List Yk}{body:List Tk}{j:Nat}{a:List Zd}{b:List Z8}{r:XX}(c:YV [] [] e=YV a b (.rule r::d))(g:Qs body (j+1) d)(h:a.length<=6):
  BU e body (j+1) (Xm a (b.map Z8.name) I r) a (b++[WR a r]):=by
 simp only[YV]at c;refine⟨fun f=>⟨d,g,?_,h,?_⟩,fun x i=>?_⟩
 ·rw[f]at c;exact c
 ·have:=Ny f;rw[List.length_map]at this;simp;omega
 ·rw[i]at c;exact c
theorem KE {a:List Yk}(b:∀x,x∈a->WL x):YV [] [] a=(match ZZ [] [] a with| .error f=>.error f| .ok p=>.ok (p.1,p.2.map Zc.ref)):=
 T3 a [] [] (by simp) (by simp) trivial b
theorem Cm {d:List Yk}{body:List Tk}{b:List Zd}{c:List Z8}(m:∀x,x∈d->WL x)(h:BU d body body.length I b c):∃p,ZZ [] [] d=.ok p/\b=p.1/\c=p.2.map Zc.ref:=by
 obtain⟨g,n,a,_⟩:=h.1 rfl
 cases g with
 |cons e g=>
  obtain⟨j,⟨i,k,_⟩,_⟩:=n;omega
 |nil=>
  simp only[YV]at a;rw[KE m]at a
  cases l:ZZ [] [] d with
  |error f=>rw[l]at a;cases a
  |ok p=>
   rw[l]at a;injection a with a;injection a with i k;exact⟨p,rfl,i.symm,k.symm⟩
theorem Fy {b:List Yk}{body:List Tk}{i:Nat}{x:Nat×Nat}{c:List Zd}{d:List Z8}(g:∀x,x∈b->WL x)(h:BU b body i (U x) c d):ZZ [] [] b=.error x:=by
 have a:=h.2 x rfl;rw[KE g]at a
 cases e:ZZ [] [] b with
 |error f=>rw[e]at a;injection a with a;rw[a]
 |ok p=>rw[e]at a;cases a
theorem PB.rulesAt {w:G}{c B d p q g i:Nat}{f:Fa}{body:List Tk}{n:Nat}{e j:Value}{a:List Zd}{b:List Zc}{k:List Value}(h:PB w B d p q g i f body n e j a (b.map Zc.ref) k)(o:c<=g)(l:c<=B)(r:body.length<=3000)(s:∀t,t∈body->t.text.size<=3000)(u:V8 a b=Vz body body.length):Wi w c q body a b:=by
 have m:=h.lo;rw[List.length_map]at m;exact⟨⟨_,_,h.wt.c0,fun _=>⟨g,rfl,o,h.wt.lt,h.wt.row⟩⟩,⟨M l h.qB.1,nL h.qB.2 h.b2⟩,⟨r,s⟩,u,d,e,j,k,M l (M h.pB.1 (Nat.le_of_lt h.pB.2)),h.q1,h.q2,h.ro,m,h.ru⟩
theorem Cn (s:ByteArray)(w:G):T H 43 #[.string s] w (VE (XP s) w):=by
 by_cases hs:3000<s.size
 ·have HQ:K (XP s=.error (1,0)):=by show _=_;unfold XP;rw[if_pos hs]
  go_enter Tryz.func43,Tryz.ntmps43;go_wp2_with fail
  go_ret3
  exact(VE.err HQ.o).2 ⟨rfl,Fr.refl _ _⟩
 have HS:=Za hs;go_enter Tryz.func43,Tryz.ntmps43;go_wp2_with fail;clear hs;refine(JM s w (by have:=HS.o;omega)).mono ?_;intro e w1 hT
 cases hL:ZL s 0 1 []with
 |error l=>
  obtain⟨rfl,A⟩:=(VA.err hL).1 hT;have HF:=Za A;have hl:1<=l:=(RO _ 0 1 [] rfl (by omega) (by simp)).1 l hL
  have HQ:K (XP s=.error (2,l)):=by show _=_;unfold XP;rw[if_neg HS.o,hL]
  have d0:decide ((0:Int)<(l:Int))=true:=by simp;omega
  clear hT A hL;go_wp2_with fail
  go_ret3
  exact(VE.err HQ.o).2 ⟨rfl,HF.o⟩
 |ok ts=>
  obtain⟨⟨v,rfl,u⟩,A⟩:=(VA.ok hL).1 hT;obtain⟨body,t0,hB,X⟩:=Kb hL;have a0:=QV _ 0 1 [] ts rfl (D _) hL;have y:=(RO (s:=s) _ 0 1 [] rfl (by omega) (by simp)).2 ts hL;rw[t0]at u a0 y;rw[List.dropLast_concat]at u
  have hb:body.length<=3000:=by have:=HS.o;simp at a0;omega
  have D0:=Za A;have r0:=Za u;have E0:=Za hB;have s0:=Za X
  have G0:K (XP s=match Zu (body++[⟨3,O,1+Qe s.data.toList⟩]) 0 []with| .error l=>.error (3,l)| .ok (xs,_)=>ZZ [] [] xs):=by
   show _=_
   unfold XP;rw[if_neg HS.o,hL]
   dsimp only
   rw[t0];rfl
  obtain⟨H0,I0⟩:=D8 (body:=body) (en:=⟨3,O,1+Qe s.data.toList⟩) rfl hB.ns y;have J0:=Za H0;have K0:=Za I0
  have v0:K (∀r N,YG (body++[⟨3,O,1+Qe s.data.toList⟩]) N [.rules] 0=U r->T H 79 #[v] w1 fun e w'=>e=E (S V (WT (body++[⟨3,O,1+Qe s.data.toList⟩]) r))/\F0 w1 w'):=fun r N hN=>Ex w1 w.heap.size v body _ ⟨rfl,rfl⟩ u (fun t ht=>(X t ht).1) hb N r hN
  obtain⟨va,d,hv⟩:=oL u;clear hT A hL u hB X a0 y H0 I0 t0;subst hv;obtain⟨n,hn⟩:∃n,body.length=n:=⟨_,rfl⟩;rw[hn]at r0 v0 hb ⊢;have L:=Za hn;clear hn
  cases hP:Zu (body++[⟨3,O,1+Qe s.data.toList⟩]) 0 []with
  |error l=>
   obtain⟨N,j,hN,L0⟩:=K0.o l hP
   have HQ:K (XP s=.error (3,l)):=by show _=_;rw[G0.o,hP]
   have HC:=Za (v0.o _ _ hN);have Z0:=Za L0;clear hP hN L0;go_wp2_with fail;refine HC.o.mono ?_;rintro e w2 ⟨rfl,A⟩;have F:=Za (D0.o.trans A);clear A;rcases Z0.o with⟨h1,h2⟩|⟨h1,h2⟩
   ·rw[h1]
    have a1:=Za h2;clear h1 h2;go_wp2_with fail
    go_loopg [7,8] s.size (fun m ln ix wr=>∃k lo,k<=s.size/\m=s.size-k/\ln=S V (lo:Nat)/\ix=S V (k:Nat)/\lo<=k+1/\K (lo+Qe (s.data.toList.drop k)=1+Qe s.data.toList)/\K (F0 w wr))
    case atStart=>exact⟨0,1,D _,rfl,rfl,rfl,by omega,by show _=_;rw[List.drop_zero],F⟩
    case round=>
     obtain⟨k,lo,hk,rfl,rfl,rfl,p1,z,C⟩:=hrel
     have q1:s.size<=3000:=by have:=HS.o;omega
     by_cases Q:k<s.size
     ·have b0:(k:Int)<(s.size:Int):=by omega
      have b1:=fun w=>ZN (P:=H) Tryz.underlying9 s k (k:Int) rfl Q w
      by_cases l0:Zv s k=10
      ·have HT:K (Qe (s.data.toList.drop k)=Qe (s.data.toList.drop (k+1))+1):=by show _=_;rw[P1 s k Q,if_pos l0]
       rw[l0]at b1;clear l0;go_wp2;go_roundg (s.size-(k+1))
       case measure=>omega
       case rel=>exact⟨k+1,lo+1,by omega,rfl,by go_num,by go_num,by omega,by(have:=z.o;have:=HT.o;show _=_;omega),C⟩
      ·have HT:=Za (Tb s k Q l0)
       go_wp2;go_roundg (s.size-(k+1))
       case measure=>omega
       case rel=>exact⟨k+1,lo,by omega,rfl,rfl,by go_num,by omega,by(have:=z.o;have:=HT.o;show _=_;omega),C⟩
     ·have b0:¬(k:Int)<(s.size:Int):=by omega
      have e1:K (lo=l):=by
       have e:=z.o;rw[dL (by simp;omega)]at e;have:=a1.o
       show _=_
       simp[Qe]at e this;omega
      go_wp2_with fail
      go_ret3
      exact(VE.err HQ.o).2 ⟨by rw[e1.o];rfl,C.o⟩
   ·rw[h1]
    have d1:((l:Int) !=0)=true:=by simp;omega
    have d2:decide ((l:Int)<0)=false:=by simp
    clear h1;go_wp2_with fail
    go_ret3
    exact(VE.err HQ.o).2 ⟨rfl,F.o⟩
  |ok r=>
   obtain⟨xs,kk⟩:=r;obtain⟨N,hN⟩:=J0.o xs kk hP;have HC:=Za (v0.o _ _ hN)
   have m0:K (∀x,x∈xs->WL x):=P0 (ts:=body++[⟨3,O,1+Qe s.data.toList⟩]) (n:=s.size) (fun t ht=>by
    rcases List.mem_append.1 ht with h|h
    ·exact(s0.o t h).2
    ·simp at h;subst h;exact⟨fun e=>by simp at e,by simp,by simp⟩) (by have:=HS.o;omega) (by have:=L.o;simp;omega) _ 0 [] xs kk rfl (by simp) hP
   have M0:K (Qs body 0 xs):=by
    obtain⟨ys,e,h⟩:=JW rfl E0.o _ 0 [] xs kk rfl (D _) m0.o hP;rw[e];exact h
   have HU:K (XP s=ZZ [] [] xs):=by show _=_;rw[G0.o,hP]
   have N0:K (∀p,ZZ [] [] xs=.ok p->V8 p.1 p.2=Vz body body.length):=fun p hp=>EK E0.o hP m0.o hp
   have O0:K (∀t,t∈body->t.text.size<=3000):=fun t ht=>by have:=(s0.o t ht).2.2.1;have:=HS.o;omega
   clear hP hN;go_wp2_with fail;refine HC.o.mono ?_;rintro e w2 ⟨rfl,A⟩;have F:=Za (D0.o.trans A);have w0:=Za (oF r0.o A (by simp));clear A;rcases Nat.eq_zero_or_pos n with h0|h0
   ·subst h0
    have Q0:K (xs=[]):=by
     have e:=M0.o;have hn:=L.o
     cases xs with
     |nil=>rfl
     |cons x r=>obtain⟨j,⟨h1,h2,_⟩,_⟩:=e;omega
    have f1:K (XP s=.ok ([],[])):=by show _=_;rw[HU.o,Q0.o];rfl
    have R0:=Za (N0.o ([],[]) (by rw[Q0.o];rfl));go_wp2_with fail;have q0:((w2.alloc (Z #[J va 0 d,J I 0 0,J I 0 0] 71)).alloc (Z #[Y (U ⟨w2.heap.size,0,I⟩),S V 0,S V 0,S V 0] 164)).heap[w2.heap.size]?=U (Z #[J va 0 d,J I 0 0,J I 0 0] 71):=((Fr.refl (fun _=>False) _).alloc _).whole (aN w2 _) (by simp)
    have p0:((w2.alloc (Z #[J va 0 d,J I 0 0,J I 0 0] 71)).alloc (Z #[Y (U ⟨w2.heap.size,0,I⟩),S V 0,S V 0,S V 0] 164)).heap[w2.heap.size+1]?=U (Z #[Y (U ⟨w2.heap.size,0,I⟩),S V 0,S V 0,S V 0] 164):=by have:=aN (w2.alloc (Z #[J va 0 d,J I 0 0,J I 0 0] 71)) (Z #[Y (U ⟨w2.heap.size,0,I⟩),S V 0,S V 0,S V 0] 164);simpa using this
    have e0:K (F0 w2 ((w2.alloc (Z #[J va 0 d,J I 0 0,J I 0 0] 71)).alloc (Z #[Y (U ⟨w2.heap.size,0,I⟩),S V 0,S V 0,S V 0] 164))):=((Fr.refl _ _).alloc _).alloc _;generalize(w2.alloc (Z #[J va 0 d,J I 0 0,J I 0 0] 71)).alloc (Z #[Y (U ⟨w2.heap.size,0,I⟩),S V 0,S V 0,S V 0] 164)=W at*;have g1:=Za ((iA.1 q0).1);have x0:=Za q0;have n0:=Za p0;clear q0 p0
    go_loopg [] 0 (fun _ wr=>K (wr=W))
    case atStart=>exact rfl
    case round=>
     have e:=hrel.o;subst e;have c0:=bC n0.o 0 _ rfl;have c1:=bC n0.o 1 _ rfl;have c2:=bC n0.o 2 _ rfl;have c3:=bC n0.o 3 _ rfl;go_wp2_with fail
     go_ret3
     refine(VE.ok f1.o).2 ⟨⟨w2.heap.size,body,rfl,⟨⟨va,d,?_,fun h=>by have:=L.o;omega⟩,⟨F.o.size,g1.o⟩,⟨by have:=L.o;omega,O0.o⟩,R0.o,w.heap.size,J I 0 0,J I 0 0,[],R _,bC x0.o 1 _ rfl,bC x0.o 2 _ rfl,oZ _ _ _ _,oZ _ _ _ _,rfl⟩⟩,F.o.trans e0.o⟩;rw[L.o];exact bC x0.o 0 _ rfl
   ·obtain⟨g,i1,HG⟩:∃g,va=U ⟨g,0,I⟩/\K (w.heap.size<=g/\g<w2.heap.size/\CJ w2 g body):=by
     have e:=w0.o;rw[<-L.o]at e;obtain⟨a',c',e2,hr⟩:=RL e;injection e2 with e3 _ _;subst e3;obtain⟨g,e5,j1,k1,l1⟩:=hr (by have:=L.o;omega);exact⟨g,e5,j1,k1,l1⟩
    subst i1;go_wp2_with fail;have q0:((w2.alloc (Z #[J (U ⟨g,0,I⟩) n d,J I 0 0,J I 0 0] 71)).alloc (Z #[Y (U ⟨w2.heap.size,0,I⟩),S V 0,S V 0,S V 0] 164)).heap[w2.heap.size]?=U (Z #[J (U ⟨g,0,I⟩) n d,J I 0 0,J I 0 0] 71):=((Fr.refl (fun _=>False) _).alloc _).whole (aN w2 _) (by simp)
    have p0:((w2.alloc (Z #[J (U ⟨g,0,I⟩) n d,J I 0 0,J I 0 0] 71)).alloc (Z #[Y (U ⟨w2.heap.size,0,I⟩),S V 0,S V 0,S V 0] 164)).heap[w2.heap.size+1]?=U (Z #[Y (U ⟨w2.heap.size,0,I⟩),S V 0,S V 0,S V 0] 164):=by have:=aN (w2.alloc (Z #[J (U ⟨g,0,I⟩) n d,J I 0 0,J I 0 0] 71)) (Z #[Y (U ⟨w2.heap.size,0,I⟩),S V 0,S V 0,S V 0] 164);simpa using this
    have e0:K (F0 w2 ((w2.alloc (Z #[J (U ⟨g,0,I⟩) n d,J I 0 0,J I 0 0] 71)).alloc (Z #[Y (U ⟨w2.heap.size,0,I⟩),S V 0,S V 0,S V 0] 164))):=((Fr.refl _ _).alloc _).alloc _;generalize(w2.alloc (Z #[J (U ⟨g,0,I⟩) n d,J I 0 0,J I 0 0] 71)).alloc (Z #[Y (U ⟨w2.heap.size,0,I⟩),S V 0,S V 0,S V 0] 164)=W at*
    have S0:K (PB W w2.heap.size (w2.heap.size+2) (w2.heap.size+1) w2.heap.size g 0 I body d (J I 0 0) (J I 0 0) [] [] []):=by
     refine⟨⟨bC p0 0 _ rfl,bC p0 1 _ rfl,bC p0 2 _ rfl,bC p0 3 _ rfl,fun o=>bF p0 o,fun x e=>by cases e⟩,⟨?_,nL HG.o.2.1 e0.o.size,HG.o.2.2.fr e0.o HG.o.2.1 (by simp)⟩,bC q0 1 _ rfl,bC q0 2 _ rfl,fun o=>bF q0 o,oZ _ _ _ _,oZ _ _ _ _,rfl,HG.o.2.1,⟨by omega,by omega⟩,⟨R _,by omega⟩,by omega,?_⟩
     ·rw[L.o];exact bC q0 0 _ rfl
     ·have:=(iA.1 p0).1;omega
    obtain⟨B,hB⟩:∃B,w2.heap.size=B:=⟨_,rfl⟩
    have f0:K (w.heap.size<=B):=by rw[<-hB];exact F.o.size
    have m1:=Za HG.o.1;have n1:=Za (F.o.trans e0.o);rw[hB]at S0;rw[hB];clear q0 p0 hB HG
    go_loopg [] n (fun m wr=>∃i f vr vl a q ys,i<=n/\m=n-i/\K (PB wr B (B+2) (B+1) B g i f body d vr vl a q ys)/\K (BU xs body i f a q)/\K (F0 w wr))
    case atStart=>exact⟨0,I,_,_,[],[],[],D _,rfl,S0,⟨fun _=>⟨xs,M0.o,rfl,by simp,by simp⟩,fun x e=>by cases e⟩,n1⟩
    case round=>
     obtain⟨i,f,vr,vl,a,q,ys,hi,rfl,z,y0,C⟩:=hrel;have c0:=z.o.wp.c0;have c1:=z.o.wp.c1;have c2:=z.o.wp.c2;have c3:=z.o.wp.c3
     cases f with
     |some x=>
      have r1:((x.1:Int)==0)=false:=by have:=z.o.wp.ok x rfl;simp;omega
      have s1:((x.1:Int) !=0)=true:=by have:=z.o.wp.ok x rfl;simp;omega
      have HE:K (XP s=.error x):=by show _=_;rw[HU.o];exact Fy m0.o y0.o
      simp only[BJ,B9]at c2 c3;by_cases Q:i<n
      all_goals
       have b0:decide ((i:Int)<(n:Int))=decide (i<n):=by simp
       simp only[Q]at b0;go_wp2_with fail
       go_quiet (fail)
       go_wp2_with fail
       go_ret3
       exact(VE.err HE.o).2 ⟨rfl,C.o.trans ⟨rfl,rfl,rfl,R _,fun _ _ _=>rfl⟩⟩
     |none=>
      simp only[BJ,B9]at c2 c3;by_cases Q:i<n
      ·have b0:(i:Int)<(n:Int):=by omega
       obtain⟨zs,T0,hu,h6,h8⟩:=y0.o.1 rfl
       cases zs with
       |nil=>exact absurd T0 (by have:=L.o;show¬i=body.length;omega)
       |cons e zs=>
        obtain⟨j,o0,g0⟩:=T0;have v1:=Za g0;have x1:i<j/\j<n:=⟨o0.2.1,by have:=o0.1;have:=L.o;omega⟩
        cases e with
        |route r=>
         obtain⟨_,_,⟨t,ht,z0⟩,t1,t2,t3,d2,d3,hj⟩:=o0;have A0:=Za (Xs wr (B+1) B g i I body d t z.o.wp z.o.wt ht)
         have HW:K (∀W,F0 wr W->T H 81 #[Y (U ⟨B+1,0,I⟩)] W fun e w'=>e=E (.tuple #[])/\(∃V0,PB w' B (B+2) (B+1) B g j (X5 a I r) body d V0 vl (a++[⟨r.name.text,Ze r.base,Ze r.rate⟩]) q ys)/\Fr (fun j=>B<=j) W w'):=fun W hW=>by
          rw[hj];exact JN W B (B+2) (B+1) B g i I body d vr vl a q ys r.name r.base r.rate (z.o.step (z.o.wp.fr hW (by simp)) hW.no) (by have:=L.o;omega) h6 t1 t2 t3 d2 d3
         have B0:=Za (Fx hu g0 h8);clear ht t1 t2 t3 d2 d3 hj hu g0 h6 h8;go_wp2_with fail;refine A0.o.mono ?_;rintro e w3 ⟨rfl,A⟩;have i0:=Za A;clear A c0 c1 c2 c3;go_wp2_with fail;refine(HW.o w3 i0.o).mono ?_;rintro e w4 ⟨rfl,⟨V0,j0⟩,k0⟩;have b:=Za j0;have C0:=Za ((C.o.trans i0.o).monoNew k0 (fun k hk=>Or.inr (by have:=f0.o;omega)));clear j0 k0 z0;have c0:=b.o.wp.c0;have c1:=b.o.wp.c1;have fz:=b.o.wp.fz
         have o1:j<=3000:=by omega
         have HM:K (TG (w4.setCell ⟨B+1,1,I⟩ (S V ((j:Int)+1))) (B+1) B (j+1) (X5 a I r)/\Fr (fun k=>k=B+1) w4 (w4.setCell ⟨B+1,1,I⟩ (S V ((j:Int)+1)))):=by have e:=b.o.wp.move (j+1);rw[Int.natCast_add]at e;exact e
         go_wp2;go_roundg (n-(j+1))
         case measure=>omega
         case rel=>exact⟨j+1,_,_,_,_,_,_,by omega,rfl,b.o.step HM.o.1 HM.o.2,B0,C0.o.monoNew HM.o.2 (fun k hk=>Or.inr (by have:=f0.o;omega))⟩
        |rule r=>
         obtain⟨_,_,⟨t,ht,z0⟩,W0⟩:=o0;have A0:=Za (Xs wr (B+1) B g i I body d t z.o.wp z.o.wt ht)
         have HW:K (∀W,F0 wr W->T H 82 #[Y (U ⟨B+1,0,I⟩)] W fun e w'=>e=E (.tuple #[])/\(∃X0 c,PB w' B (B+2) (B+1) B g j (Xm a (q.map Z8.name) I r) body d vr X0 a (q++[WR a r]) (ys++c))/\Fr (fun j=>B<=j) W w'):=fun W hW=>
          Fw W B (B+2) (B+1) B g i I body d vr vl a q ys r j (z.o.step (z.o.wp.fr hW (by simp)) hW.no) (by have:=L.o;omega) (by omega) h8 W0
         have B0:=Za (E8 hu g0 h6);clear ht W0 hu g0 h6 h8;go_wp2_with fail;refine A0.o.mono ?_;rintro e w3 ⟨rfl,A⟩;have i0:=Za A;clear A c0 c1 c2 c3;go_wp2_with fail;refine(HW.o w3 i0.o).mono ?_;rintro e w4 ⟨rfl,⟨X0,cc,j0⟩,k0⟩;have b:=Za j0;have C0:=Za ((C.o.trans i0.o).monoNew k0 (fun k hk=>Or.inr (by have:=f0.o;omega)));clear j0 k0 z0;have c0:=b.o.wp.c0;have c1:=b.o.wp.c1;have fz:=b.o.wp.fz
         have o1:j<=3000:=by omega
         have HM:K (TG (w4.setCell ⟨B+1,1,I⟩ (S V ((j:Int)+1))) (B+1) B (j+1) (Xm a (q.map Z8.name) I r)/\Fr (fun k=>k=B+1) w4 (w4.setCell ⟨B+1,1,I⟩ (S V ((j:Int)+1)))):=by have e:=b.o.wp.move (j+1);rw[Int.natCast_add]at e;exact e
         go_wp2;go_roundg (n-(j+1))
         case measure=>omega
         case rel=>exact⟨j+1,_,_,_,_,_,_,by omega,rfl,b.o.step HM.o.1 HM.o.2,B0,C0.o.monoNew HM.o.2 (fun k hk=>Or.inr (by have:=f0.o;omega))⟩
      ·have b0:¬(i:Int)<(n:Int):=by omega
       have Y0:i=body.length:=by have:=L.o;omega
       have HE:K (∃p,XP s=.ok p/\a=p.1/\q=p.2.map Zc.ref/\V8 p.1 p.2=Vz body body.length):=by
        have e:=y0.o;rw[Y0]at e;obtain⟨p,h1,h2,h3⟩:=Cm m0.o e;exact⟨p,by rw[HU.o];exact h1,h2,h3,N0.o p h1⟩
       clear Y0;go_wp2_with fail
       go_ret3
       obtain⟨p,h1,h2,h3,h4⟩:=HE.o;have e:=z.o;rw[h3,h2]at e;exact(VE.ok h1).2 ⟨⟨B,body,rfl,e.rulesAt m1.o f0.o (by have:=L.o;omega) O0.o h4⟩,C.o⟩
