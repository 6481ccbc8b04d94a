import Derived.Test.YtccikgogjfbpeaaGreatDoorAj
import Derived.Test.YtccikgogjfbpeaaGreatDoorAl
import Derived.Laws.OwnMore
open Go.Value renaming int->I,string->U,slice->G,bool->z8,pointer->z9,slice->j3,oneCell'->g7,bool->b4,string->b9,agg->m7,int->n9,ownBlock->a0
open Go.IntKind renaming i64->V,u8->i2
open Option renaming some->Y,none->Z
open Go.RowKit renaming Hid->O
open Go.Proofs.Tryz renaming prog->L
open Or renaming inr->C,inl->z6
open Nat renaming le_refl->z3,zero_le->q8,le_trans->j1,zero_add->j6,min_eq_left->j8,max_eq_left->m6,mul_one->m8,mul_le_mul_right->n5,max_eq_right->s7,min_eq_right->s8,le_of_eq->a8,zero_mul->a9,pow_succ->e7,mul_comm->e8,add_mul->i0,pow_pos->i1
open Go.Ending renaming returned->z4,returned->k7
open Go.Obj renaming cells->z5
open _root_.ByteArray renaming empty->z7
open Go renaming Calls->j0,World->j7,Value->k9
open List renaming take_of_length_le->j2,mem_cons_self->j5,take_add_one->j9,append_assoc->k4,mem_cons->b0,getElem?_append_left->b5,getElem_mem->b7,length_eq_zero_iff->c9,length_filter_le->m9,mem_cons_of_mem->n0,any_cons->n6,flatMap_append->n8,pairwise_cons->s5,size_toArray->s6,mem_flatMap->s9,take_length->r6,length_map->r7,mem_append->h7,mem_map->e9
open Bool renaming and_eq_true->j4,eq_iff_iff->k8,false_or->g8,true_and->g9,true_or->b6,false_eq_true->s4,or_eq_true->l0,false_and->l9
open Go.World renaming news_of_block->k6
open Int renaming tmod_eq_emod_of_nonneg->p9,eq_ofNat_of_zero_le->m0,emod_nonneg->m5,toNat_of_nonneg->n7,natCast_add->h9
open Go.Proofs.Tryz
namespace Go.Proofs.YtccikgogjfbpeaaGreatDoor
set_option linter.defProp false
set_option maxRecDepth 30000
set_option maxHeartbeats 8000000
open Go.RowKit
structure Xu (w:j7)(B q:Nat)(body:List Tk)(rts:List Zf)(rls:List Ze):Prop where
 tk:∃a c,w.cell? ⟨q,0,Z⟩=Y (G a body.length c)/\(0<body.length->∃g,a=Y ⟨g,0,Z⟩/\B<=g/\g<w.heap.size/\th w g body)
 qb:B<=q/\q<w.heap.size
 few:body.length<=3000/\∀t,t∈body->t.text.size<=3000
 pQ:VN rts rls=VW body body.length
 row:∃B2 vr vl xs,B<=B2/\w.cell? ⟨q,1,Z⟩=Y vr/\w.cell? ⟨q,2,Z⟩=Y vl/\w.ownsRow B2 189 3 vr rts.length (Ym rts)/\w.ownsRow B2 170 13 vl rls.length xs/\TU B2 w (rls.map Ze.ref) xs
def Xu.fr {w w' B q body d f}(h:Xu w B q body d f)(b:F0 w w'):Xu w' B q body d f:=by
 obtain⟨⟨a,c,k,l⟩,i,m,o,r,s,t,u,x,y,z,A,C,D⟩:=h;refine⟨⟨a,c,(b.cell (p:=⟨q,0,Z⟩) i.2).trans k,fun E=>?_⟩,⟨i.1,nL i.2 b.size⟩,m,o,r,s,t,u,x,(b.cell (p:=⟨q,1,Z⟩) i.2).trans y,(b.cell (p:=⟨q,2,Z⟩) i.2).trans z,oF A b,oF C b,TU.keep (fun v n I F=>oF F b) D⟩;obtain⟨g,e,G,j,H⟩:=l E;exact⟨g,e,G,nL j b.size,H.fr b j⟩
def Vq (x:Except (Nat×Nat) (List Zf×List Ze))(w:j7)(e:Ending)(a:j7):Prop:=
 match x with
 | .ok p=>(∃q body,e=z4 (.tuple #[z9 (Y ⟨q,0,Z⟩),I V 0,I V 0])/\Xu a w.heap.size q body p.1 p.2)/\F0 w a
 | .error f=>e=z4 (.tuple #[z9 Z,I V f.1,I V f.2])/\F0 w a
def Vq.ok {x w w' e p}(h:x=.ok p):Vq x w e w'↔(∃q body,e=z4 (.tuple #[z9 (Y ⟨q,0,Z⟩),I V 0,I V 0])/\Xu w' w.heap.size q body p.1 p.2)/\F0 w w':=by subst h;exact Iff.rfl
def Vq.err {x w a e f}(h:x=.error f):Vq x w e a↔e=z4 (.tuple #[z9 Z,I V f.1,I V f.2])/\F0 w a:=by subst h;exact Iff.rfl
def rZ (c:List VC)(body:List Tk)(i:Nat)(f:Fa)(a:List Zf)(b:List Xh):Prop:=
 (f=Z->∃d,Oo body i d/\Y3 [] [] c=Y3 a b d/\a.length<=6/\b.length<=8)/\(∀x,f=Y x->Y3 [] [] c=.error x)
def A5 {e d body j a b r}(c:Y3 [] [] e=Y3 a b (.route r::d))(g:Oo body (j+1) d)(h:b.length<=8):
  rZ e body (j+1) (Wu a Z r) (a++[⟨r.name.text,Zd r.base,Zd r.rate⟩]) b:=by
 simp only[Y3]at c;refine⟨fun f=>⟨d,g,?_,?_,h⟩,fun x i=>?_⟩
 ·rw[f]at c;exact c
 ·have:=MH f;simp;omega
 rw[i]at c;exact c
def xT {e d body j a b r}(c:Y3 [] [] e=Y3 a b (.rule r::d))(g:Oo body (j+1) d)(h:a.length<=6):
  rZ e body (j+1) (XD a (b.map Xh.name) Z r) a (b++[Vw a r]):=by
 simp only[Y3]at c;refine⟨fun f=>⟨d,g,?_,h,?_⟩,fun x i=>?_⟩
 ·rw[f]at c;exact c
 ·have:=Kq f;rw[r7]at this;simp;omega
 rw[i]at c;exact c
def Fh {XS}(a:∀x,x∈XS->VI x):Y3 [] [] XS=(match ZT [] [] XS with| .error f=>.error f| .ok p=>.ok (p.1,p.2.map Ze.ref)):=
 Ro XS [] [] y y trivial a
def uq {d body b c}(m:∀x,x∈d->VI x)(h:rZ d body body.length Z b c):∃p,ZT [] [] d=.ok p/\b=p.1/\c=p.2.map Ze.ref:=by
 obtain⟨g,n,a,_⟩:=h.1 rfl
 cases g with
 |cons e g=>
  obtain⟨j,⟨i,k,_⟩,_⟩:=n;omega
 |nil=>
  simp only[Y3]at a;rw[Fh m]at a
  cases l:ZT [] [] d with
  |error f=>rw[l]at a;cases a
  |ok p=>
   rw[l]at a;injection a with a;injection a with i k;exact⟨p,rfl,i.symm,k.symm⟩
def A6 {b body i x c d}(g:∀x,x∈b->VI x)(h:rZ b body i (Y x) c d):ZT [] [] b=.error x:=by
 have a:=h.2 x rfl;rw[Fh g]at a
 cases e:ZT [] [] b with
 |error f=>rw[e]at a;injection a with a;rw[a]
 |ok p=>rw[e]at a;cases a
def NU.rulesAt {w c B d p q g i f body n e j a b k}(h:NU w B d p q g i f body n e j a (b.map Ze.ref) k)(o:c<=g)(l:c<=B)(r:body.length<=3000)(s:∀t,t∈body->t.text.size<=3000)(u:VN a b=VW body body.length):Xu w c q body a b:=by
 have m:=h.lo;rw[r7]at m;exact⟨⟨_,_,h.wt.c0,fun _=>⟨g,rfl,o,h.wt.lt,h.wt.row⟩⟩,⟨j1 l h.qB.1,nL h.qB.2 h.b2⟩,⟨r,s⟩,u,d,e,j,k,j1 l (j1 h.pB.1 (Nat.le_of_lt h.pB.2)),h.q1,h.q2,h.ro,m,h.ru⟩
def IW (s w):j0 L 43 #[U s] w (Vq (Xc s) w):=by
 by_cases hs:3000<s.size
 ·have HQ:O (Xc s=.error (1,0)):=by show _=_;unfold Xc;rw[if_pos hs]
  go_enter func43,ntmps43;go_wp2
  go_ret3
  exact(Vq.err HQ.o).2 ⟨rfl,Zo⟩
 have HS:=Za hs;go_enter func43,ntmps43;go_wp2_with fail;clear hs;refine(Dm s w (aj HS.o)).mono ?_;intro e w1 hT
 cases hL:ZN s 0 1 []with
 |error l=>
  obtain⟨rfl,A⟩:=(Ua.err hL).1 hT;have HF:=Za A;have hl:=(PV _ 0 1 [] rfl az aA).1 l hL
  have HQ:O (Xc s=.error (2,l)):=by show _=_;unfold Xc;rw[if_neg HS.o,hL]
  have d0:decide ((0:Int)<(l:Int))=true:=aF;clear hT A hL;go_wp2
  go_ret3
  exact(Vq.err HQ.o).2 ⟨rfl,HF.o⟩
 |ok ts=>
  obtain⟨⟨v,rfl,q⟩,A⟩:=(Ua.ok hL).1 hT;obtain⟨body,r0,hB,M⟩:=Ge hL;have Q:=O3 _ 0 1 [] ts rfl (q8 _) hL;have u:=(PV (s:=s) _ 0 1 [] rfl az aA).2 ts hL;rw[r0]at q Q u;rw[List.dropLast_concat]at q
  have hb:body.length<=3000:=by have:=HS.o;simp at Q;omega
  have B0:=Za A;have n0:=Za q;have C0:=Za hB;have o0:=Za M
  have D0:O (Xc s=match Zs (body++[⟨3,z7,1+P6 s.data.toList⟩]) 0 []with| .error l=>.error (3,l)| .ok (H,_)=>ZT [] [] H):=by
   show _=_
   unfold Xc;rw[if_neg HS.o,hL]
   dsimp only
   rw[r0];rfl
  obtain⟨E0,G0⟩:=ug (body:=body) (en:=⟨3,z7,1+P6 s.data.toList⟩) rfl hB.ns u;have H0:=Za E0;have I0:=Za G0
  have s0:O (∀r N,YQ (body++[⟨3,z7,1+P6 s.data.toList⟩]) N [.rules] 0=Y r->j0 L 79 #[v] w1 fun e w'=>e=z4 (I V (Vz (body++[⟨3,z7,1+P6 s.data.toList⟩]) r))/\F0 w1 w'):=fun r N hN=>xE w1 w.heap.size v body _ ⟨rfl,rfl⟩ q (fun t R=>(M t R).1) hb N r hN
  obtain⟨va,J,hv⟩:=oL q;clear hT A hL q hB M Q u E0 G0 r0;subst hv;obtain⟨n,hn⟩:=ad body.length;rw[hn]at n0 s0 hb ⊢;have F:=Za hn;clear hn
  cases hP:Zs (body++[⟨3,z7,1+P6 s.data.toList⟩]) 0 []with
  |error l=>
   obtain⟨N,j,hN,J0⟩:=I0.o l hP
   have HQ:O (Xc s=.error (3,l)):=by show _=_;rw[D0.o,hP]
   have HC:=Za (s0.o _ _ hN);have W0:=Za J0;clear hP hN J0;go_wp2_with fail;refine HC.o.mono ?_;rintro e y ⟨rfl,A⟩;have E:=Za (B0.o.trans A);clear A;rcases W0.o with⟨S,h2⟩|⟨S,h2⟩
   ·rw[S];have X0:=Za h2;clear S h2;go_wp2
    go_loopg [7,8] s.size (fun m ln ix wr=>∃k lo,k<=s.size/\m=s.size-k/\ln=I V (lo:Nat)/\ix=I V (k:Nat)/\lo<=k+1/\O (lo+P6 (s.data.toList.drop k)=1+P6 s.data.toList)/\O (F0 w wr))
    case atStart=>exact⟨0,1,q8 _,rfl,rfl,rfl,az,by show _=_;rw[List.drop_zero],E⟩
    obtain⟨k,lo,hk,rfl,rfl,rfl,m1,z,D⟩:=hrel;have n1:s.size<=3000:=aj HS.o;by_cases K:k<s.size
    ·have T:=af k s.size
     have Y0:=fun w=>Xf (P:=L) underlying9 s k (k:Int) rfl K w
     by_cases i0:Zy s k=10
     ·have HT:O (P6 (s.data.toList.drop k)=P6 (s.data.toList.drop (k+1))+1):=by show _=_;rw[Mx s k K,if_pos i0]
      rw[i0]at Y0;clear i0;go_wp2;go_roundg (s.size-(k+1))
      case measure=>omega
      exact⟨k+1,lo+1,az,rfl,aE,aE,az,by(have:=z.o;have:=HT.o;show _=_;omega),D⟩
     have HT:=Za (T4 s k K i0);go_wp2;go_roundg (s.size-(k+1))
     case measure=>omega
     exact⟨k+1,lo,az,rfl,rfl,aE,az,by(have:=z.o;have:=HT.o;show _=_;omega),D⟩
    have T:=ai k s.size
    have Z0:O (lo=l):=by
     have e:=z.o;rw[dL aF]at e;have:=X0.o
     show _=_
     simp[P6]at e this;omega
    go_wp2
    go_ret3
    exact(Vq.err HQ.o).2 ⟨by rw[Z0.o];rfl,D.o⟩
   rw[S];have d1:((l:Int) !=0)=true:=aF;have d2:decide ((l:Int)<0)=false:=aA;clear S;go_wp2
   go_ret3
   exact(Vq.err HQ.o).2 ⟨rfl,E.o⟩
  |ok r=>
   obtain⟨H,kk⟩:=r;obtain⟨N,hN⟩:=H0.o H kk hP;have HC:=Za (s0.o _ _ hN)
   have k0:O (∀x,x∈H->VI x):=Mp (ts:=body++[⟨3,z7,1+P6 s.data.toList⟩]) (n:=s.size) (fun t R=>by
    rcases h7.1 R with h|h
    ·exact(o0.o t h).2
    simp at h;subst h;exact⟨fun e=>by simp at e,aA,aA⟩) (aj HS.o) (by have:=F.o;simp;omega) _ 0 [] H kk rfl aA hP
   have K0:O (Oo body 0 H):=by
    obtain⟨ys,e,h⟩:=Ey rfl C0.o _ 0 [] H kk rfl (q8 _) k0.o hP;rw[e];exact h
   have HU:O (Xc s=ZT [] [] H):=by show _=_;rw[D0.o,hP]
   have L0:O (∀p,ZT [] [] H=.ok p->VN p.1 p.2=VW body body.length):=fun p hp=>yC C0.o hP k0.o hp
   have M0:O (∀t,t∈body->t.text.size<=3000):=fun t R=>ak (o0.o t R).2.2.1 HS.o
   clear hP hN;go_wp2_with fail;refine HC.o.mono ?_;rintro e y ⟨rfl,A⟩;have E:=Za (B0.o.trans A);have t0:=Za (oF n0.o A);clear A;rcases Nat.eq_zero_or_pos n with h0|h0
   ·subst h0
    have N0:O (H=[]):=by
     have e:=K0.o;have hn:=F.o
     cases H with
     |nil=>rfl
     |cons x r=>obtain⟨j,⟨S,h2,_⟩,_⟩:=e;omega
    have a1:O (Xc s=.ok ([],[])):=by show _=_;rw[HU.o,N0.o];rfl
    have O0:=Za (L0.o ([],[]) (by rw[N0.o];rfl));go_wp2_with fail;obtain⟨_,q0,p0⟩:=Hc y (z5 #[G va 0 J,G Z 0 0,G Z 0 0] 71) (z5 #[z9 (Y ⟨y.heap.size,0,Z⟩),I V 0,I V 0,I V 0] 164);have X:=(TL y (z5 #[G va 0 J,G Z 0 0,G Z 0 0] 71) (z5 #[z9 (Y ⟨y.heap.size,0,Z⟩),I V 0,I V 0,I V 0] 164)).1;generalize(y.alloc _).alloc _=W at*;have b1:=Za ((iA.1 q0).1);have v0:=Za q0;have l0:=Za p0;clear q0 p0
    go_loopg [] 0 (fun _ wr=>O (wr=W))
    case atStart=>exact rfl
    have e:=hrel.o;subst e;obtain⟨c0,c1,c2,c3⟩:=au l0.o;go_wp2
    go_ret3
    refine(Vq.ok a1.o).2 ⟨⟨y.heap.size,body,rfl,⟨⟨va,J,?_,fun h=>aj F.o⟩,⟨E.o.size,b1.o⟩,⟨aj F.o,M0.o⟩,O0.o,w.heap.size,G Z 0 0,G Z 0 0,[],z3 _,Zc v0.o 1,Zc v0.o 2,oZ _ _ _ _,oZ _ _ _ _,rfl⟩⟩,E.o.trans X.o⟩;rw[F.o];exact Zc v0.o 0
   obtain⟨g,e1,HG⟩:∃g,va=Y ⟨g,0,Z⟩/\O (w.heap.size<=g/\g<y.heap.size/\th y g body):=by
    have e:=t0.o;rw[<-F.o]at e;obtain⟨a',c',e2,hr⟩:=PT e;injection e2 with e3 _ _;subst e3;obtain⟨g,e5,f1,g1,i1⟩:=hr (aj F.o);exact⟨g,e5,f1,g1,i1⟩
   subst e1;go_wp2_with fail;obtain⟨_,q0,p0⟩:=Hc y (z5 #[G (Y ⟨g,0,Z⟩) n J,G Z 0 0,G Z 0 0] 71) (z5 #[z9 (Y ⟨y.heap.size,0,Z⟩),I V 0,I V 0,I V 0] 164);have X:=(TL y (z5 #[G (Y ⟨g,0,Z⟩) n J,G Z 0 0,G Z 0 0] 71) (z5 #[z9 (Y ⟨y.heap.size,0,Z⟩),I V 0,I V 0,I V 0] 164)).1;generalize(y.alloc _).alloc _=W at*
   have P0:O (NU W y.heap.size (y.heap.size+2) (y.heap.size+1) y.heap.size g 0 Z body J (G Z 0 0) (G Z 0 0) [] [] []):=by
    refine⟨⟨Zc p0 0,Zc p0 1,Zc p0 2,Zc p0 3,fun o=>bF p0 o,fun x e=>by cases e⟩,⟨?_,nL HG.o.2.1 X.o.size,HG.o.2.2.fr X.o HG.o.2.1⟩,Zc q0 1,Zc q0 2,fun o=>bF q0 o,oZ _ _ _ _,oZ _ _ _ _,rfl,HG.o.2.1,⟨az,az⟩,⟨z3 _,az⟩,az,?_⟩
    ·rw[F.o];exact Zc q0 0
    have:=(iA.1 p0).1;omega
   obtain⟨B,hB⟩:=ad y.heap.size
   have a0:O (w.heap.size<=B):=by rw[<-hB];exact E.o.size
   have j1:=Za HG.o.1;have k1:=Za (E.o.trans X.o);rw[hB]at P0;rw[hB];clear q0 p0 hB HG
   go_loopg [] n (fun m wr=>∃i f vr vl a d ys,i<=n/\m=n-i/\O (NU wr B (B+2) (B+1) B g i f body J vr vl a d ys)/\O (rZ H body i f a d)/\O (F0 w wr))
   case atStart=>exact⟨0,Z,_,_,[],[],[],q8 _,rfl,P0,⟨fun _=>⟨H,K0.o,rfl,aA,aA⟩,fun x e=>by cases e⟩,k1⟩
   obtain⟨i,f,vr,vl,a,d,ys,hi,rfl,z,w0,D⟩:=hrel;have c0:=z.o.wp.c0;have c1:=z.o.wp.c1;have c2:=z.o.wp.c2;have c3:=z.o.wp.c3
   cases f with
   |some x=>
    have o1:((x.1:Int)==0)=false:=by have:=z.o.wp.ok x rfl;simp;omega
    have p1:((x.1:Int) !=0)=true:=by have:=z.o.wp.ok x rfl;simp;omega
    have HE:O (Xc s=.error x):=by show _=_;rw[HU.o];exact A6 k0.o w0.o
    simp only[rG,qw]at c2 c3;by_cases K:i<n
    all_goals
     have T:decide ((i:Int)<(n:Int))=decide (i<n):=aA;simp only[K]at T;go_wp2
     go_quiet (fail)
     go_wp2
     go_ret3
     exact(Vq.err HE.o).2 ⟨rfl,D.o.trans ⟨rfl,rfl,rfl,z3 _,fun _ _ _=>rfl⟩⟩
   |none=>
    simp only[rG,qw]at c2 c3;by_cases K:i<n
    ·have T:=af i n;obtain⟨zs,Q0,hu,h6,h8⟩:=w0.o.1 rfl
     cases zs with
     |nil=>exact absurd Q0 (by have:=F.o;show¬i=body.length;omega)
     |cons e zs=>
      obtain⟨j,m0,b0⟩:=Q0;have q1:=Za b0;have r1:i<j/\j<n:=⟨m0.2.1,ak m0.1 F.o⟩
      cases e with
      |route r=>
       obtain⟨_,_,⟨t,R,x0⟩,t1,t2,t3,d2,d3,hj⟩:=m0;have y0:=Za (XN wr (B+1) B g i Z body J t z.o.wp z.o.wt R)
       have HW:O (∀W,F0 wr W->j0 L 81 #[z9 (Y ⟨B+1,0,Z⟩)] W fun e w'=>e=z4 (.tuple #[])/\(∃R0,NU w' B (B+2) (B+1) B g j (Wu a Z r) body J R0 vl (a++[⟨r.name.text,Zd r.base,Zd r.rate⟩]) d ys)/\Fr (fun j=>B<=j) W w'):=fun W hW=>by
        rw[hj];exact Do W B (B+2) (B+1) B g i Z body J vr vl a d ys r.name r.base r.rate (z.o.step (z.o.wp.fr hW) hW.no) (aj F.o) h6 t1 t2 t3 d2 d3
       have z0:=Za (A5 hu b0 h8);clear R t1 t2 t3 d2 d3 hj hu b0 h6 h8;go_wp2_with fail;refine y0.o.mono ?_;rintro e w3 ⟨rfl,A⟩;have e0:=Za A;clear A c0 c1 c2 c3;go_wp2_with fail;refine(HW.o w3 e0.o).mono ?_;rintro e w4 ⟨rfl,⟨R0,f0⟩,g0⟩;have b:=Za f0;have A0:=Za ((D.o.trans e0.o).monoNew g0 (fun k hk=>C (aj a0.o)));clear f0 g0 x0;have c0:=b.o.wp.c0;have c1:=b.o.wp.c1;have fz:=b.o.wp.fz;have l1:j<=3000:=az
       have HM:O (SV (w4.setCell ⟨B+1,1,Z⟩ (I V ((j:Int)+1))) (B+1) B (j+1) (Wu a Z r)/\Fr (fun k=>k=B+1) w4 (w4.setCell ⟨B+1,1,Z⟩ (I V ((j:Int)+1)))):=by have e:=b.o.wp.move (j+1);rw[h9]at e;exact e
       go_wp2;go_roundg (n-(j+1))
       case measure=>omega
       exact⟨j+1,_,_,_,_,_,_,az,rfl,b.o.step HM.o.1 HM.o.2,z0,A0.o.monoNew HM.o.2 (fun k hk=>C (aj a0.o))⟩
      |rule r=>
       obtain⟨_,_,⟨t,R,x0⟩,S0⟩:=m0;have y0:=Za (XN wr (B+1) B g i Z body J t z.o.wp z.o.wt R)
       have HW:O (∀W,F0 wr W->j0 L 82 #[z9 (Y ⟨B+1,0,Z⟩)] W fun e w'=>e=z4 (.tuple #[])/\(∃T0 c,NU w' B (B+2) (B+1) B g j (XD a (d.map Xh.name) Z r) body J vr T0 a (d++[Vw a r]) (ys++c))/\Fr (fun j=>B<=j) W w'):=fun W hW=>
        AJ W B (B+2) (B+1) B g i Z body J vr vl a d ys r j (z.o.step (z.o.wp.fr hW) hW.no) (aj F.o) az h8 S0
       have z0:=Za (xT hu b0 h6);clear R S0 hu b0 h6 h8;go_wp2_with fail;refine y0.o.mono ?_;rintro e w3 ⟨rfl,A⟩;have e0:=Za A;clear A c0 c1 c2 c3;go_wp2_with fail;refine(HW.o w3 e0.o).mono ?_;rintro e w4 ⟨rfl,⟨T0,cc,f0⟩,g0⟩;have b:=Za f0;have A0:=Za ((D.o.trans e0.o).monoNew g0 (fun k hk=>C (aj a0.o)));clear f0 g0 x0;have c0:=b.o.wp.c0;have c1:=b.o.wp.c1;have fz:=b.o.wp.fz;have l1:j<=3000:=az
       have HM:O (SV (w4.setCell ⟨B+1,1,Z⟩ (I V ((j:Int)+1))) (B+1) B (j+1) (XD a (d.map Xh.name) Z r)/\Fr (fun k=>k=B+1) w4 (w4.setCell ⟨B+1,1,Z⟩ (I V ((j:Int)+1)))):=by have e:=b.o.wp.move (j+1);rw[h9]at e;exact e
       go_wp2;go_roundg (n-(j+1))
       case measure=>omega
       exact⟨j+1,_,_,_,_,_,_,az,rfl,b.o.step HM.o.1 HM.o.2,z0,A0.o.monoNew HM.o.2 (fun k hk=>C (aj a0.o))⟩
    have T:=ai i n;have V0:i=body.length:=aj F.o
    have HE:O (∃p,Xc s=.ok p/\a=p.1/\d=p.2.map Ze.ref/\VN p.1 p.2=VW body body.length):=by
     have e:=w0.o;rw[V0]at e;obtain⟨p,S,h2,h3⟩:=uq k0.o e;exact⟨p,by rw[HU.o];exact S,h2,h3,L0.o p S⟩
    clear V0;go_wp2
    go_ret3
    obtain⟨p,S,h2,h3,h4⟩:=HE.o;have e:=z.o;rw[h3,h2]at e;exact(Vq.ok S).2 ⟨⟨B,body,rfl,e.rulesAt j1.o a0.o (aj F.o) M0.o h4⟩,D.o⟩
def Fi (x r n):Us (x::r) n=(((x:Int)==n)||Us r n):=by
 unfold Us;rw[n6]
 congr 1
def xU (x r s):Ny (x::r) s=((x.toList==s.toList)||Ny r s):=by
 unfold Ny;rw[n6]
 congr 1
 exact BEq.comm
def RZ (w a c l)(n:Int)(h:Zv w a l)(t:l.length<=4000):
  j0 L 139 #[G a l.length c,I V n] w fun e u=>e=z4 (z8 (Us l n))/\u=w:=by
 have v:=o h;obtain⟨m,j⟩:=ad l.length;have p:=o j;rw[j]at t ⊢;go_enter func139,ntmps139;go_wp2
 go_loop [5] (fun i=>∃k:Nat,k<=m/\i=I V k/\O (Us l n=Us (l.drop k) n)) (fun i=>m-(intOf i).toNat)
 case atStart=>exact⟨0,q8 _,rfl,rfl⟩
 obtain⟨k,C,rfl,q⟩:=hrel;by_cases y:k<m
 ·have f:=af k m;obtain⟨x,r⟩:∃x,l[k]?=Y x:=⟨_,gE (aj p.o)⟩;obtain⟨g,rfl,D⟩:=v.o k x r
  have d:O (Us l n=(((x:Int)==n)||Us (l.drop (k+1)) n)):=by
   obtain⟨z,A⟩:=iG.1 r
   show _=_
   rw[q.o,dC z,A,Fi]
  cases s:((x:Int)==n)with
  |true=>
   rw[s,b6]at d;go_wp2;go_ret;exact⟨congrArg (fun b=>k7 (b4 b)) d.o.symm,rfl⟩
  |false=>
   rw[s,g8]at d;go_wp2_with fail;exact⟨⟨k+1,az,aE,d⟩,by simp[intOf];omega⟩
 have f:=ai k m
 have B:O (Us l n=false):=by show _=_;rw[q.o,dL (aj p.o)];rfl
 go_wp2;go_ret;exact⟨congrArg (fun b=>k7 (b4 b)) B.o.symm,rfl⟩
def Fj (w a c l s)(h:ZX w a l)(j:l.length<=maxLen):
  j0 L 101 #[G a l.length c,U s] w fun e u=>e=z4 (z8 (Ny l s))/\u=w:=by
 have v:=Za h;unfold maxLen at j;obtain⟨m,n⟩:=ad l.length;have p:=Za n;rw[n]at j ⊢;have y:(m:Int)<=9223372036854775807:=az;go_enter func101,ntmps101;go_wp2
 go_loop [5] (fun i=>∃k:Nat,k<=m/\i=I V k/\O (Ny l s=Ny (l.drop k) s)) (fun i=>m-(intOf i).toNat)
 case atStart=>exact⟨0,q8 _,rfl,rfl⟩
 obtain⟨k,D,rfl,q⟩:=hrel;by_cases z:k<m
 ·have f:=af k m;obtain⟨x,r⟩:∃x,l[k]?=Y x:=⟨_,gE (aj p.o)⟩;obtain⟨g,o,rfl,E⟩:=v.o k x r
  have d:O (Ny l s=((x.toList==s.toList)||Ny (l.drop (k+1)) s)):=by
   obtain⟨A,B⟩:=iG.1 r
   show _=_
   rw[q.o,dC A,B,xU]
  cases t:(x.toList==s.toList)with
  |true=>
   rw[t,b6]at d;go_wp2;go_ret;exact⟨congrArg (fun b=>k7 (b4 b)) d.o.symm,rfl⟩
  |false=>
   rw[t,g8]at d;go_wp2_with fail;exact⟨⟨k+1,az,aE,d⟩,by simp[intOf];omega⟩
 have f:=ai k m
 have C:O (Ny l s=false):=by show _=_;rw[q.o,dL (aj p.o)];rfl
 go_wp2;go_ret;exact⟨congrArg (fun b=>k7 (b4 b)) C.o.symm,rfl⟩
def SK (w p)(u:p.pan.size<=maxLen):
  j0 L 86 #[X4 p] w fun e v=>e=z4 (z8 (YD p))/\F0 w v:=by
 obtain⟨g,c⟩:=WM w (R7 p);unfold R7 at g c;unfold X4;unfold maxLen at u;have x:(p.pan.size:Int)<=9223372036854775807:=az;go_enter func86,ntmps86;go_upto_region 1 with fail;generalize w.alloc _=W at*;generalize w.heap.size=X at*;obtain⟨G,H,J,K⟩:=au c.o;go_wp2
 go_loop [3] (fun i=>∃k:Nat,k<=p.pan.size/\i=I V k/\O (YE p.pan 0=YE p.pan k)) (fun i=>p.pan.size-(intOf i).toNat)
 case atStart=>exact⟨0,q8 _,rfl,rfl⟩
 obtain⟨k,M,rfl,h⟩:=hrel;by_cases d:k<p.pan.size
 ·have j:=af k p.pan.size
  have l:=fun w=>Xf (P:=L) underlying9 p.pan k (k:Int) rfl d w
  have m:=o (PK p.pan k d);obtain⟨b,n⟩:=ad (Zy p.pan k);rw[n]at l m;have a:(b<48\/¬b<48/\57<b)\/¬b<48/\¬57<b:=az;rcases a with n|⟨f,q⟩
  ·have y:O (YD p=false):=by
    show _=_
    rw[XH,show X0 p.pan=false from ?_]
    ·rfl
    show(decide (6<=p.pan.size)&&(decide (p.pan.size<=19)&&YE p.pan 0))=false
    rw[h.o,m.o];simp[iD];omega
   rcases n with f|⟨f,q⟩
   all_goals
    go_wp2;go_ret;exact⟨congrArg (fun b=>k7 (b4 b)) y.o.symm,g.o⟩
  have r:O (YE p.pan 0=YE p.pan (k+1)):=by
   show _=_
   rw[h.o,m.o,show iD b=true from by simp[iD];omega,g9]
  go_wp2_with fail;exact⟨⟨k+1,az,aE,r⟩,by simp[intOf];omega⟩
 have j:=ai k p.pan.size
 have s:O (YE p.pan 0=true):=by show _=_;rw[h.o];exact Na p.pan k az
 have t:O (YD p=((decide (6<=p.pan.size)&&(decide (p.pan.size<=19)&&true))&&(V3 p.mcc 9999&&(V3 p.am 1000000000&&V3 p.cur 999)))):=by
  show _=_
  rw[XH,<-s.o];rfl
 have a:¬(6:Int)<=(p.pan.size:Int)\/(6:Int)<=(p.pan.size:Int)/\(¬(p.pan.size:Int)<=19\/(p.pan.size:Int)<=19/\(¬0<=p.mcc\/0<=p.mcc/\(¬p.mcc<=9999\/p.mcc<=9999/\(¬0<=p.am\/0<=p.am/\(¬p.am<=1000000000\/p.am<=1000000000/\(¬0<=p.cur\/0<=p.cur/\(¬p.cur<=999\/p.cur<=999))))))):=az;rcases a with c1|⟨c1,z|⟨z,A|⟨A,B|⟨B,C|⟨C,D|⟨D,E|⟨E,F|F⟩⟩⟩⟩⟩⟩⟩
 all_goals
  go_wp2;go_ret;exact⟨by rw[t.o];simp[V3];omega,g.o⟩
def A7 {s:ByteArray}{k J}(h:J<s.size)(a:k<=J):(s.data.toList.drop k).take (J+1-k)=(s.data.toList.drop k).take (J-k)++[s.data.toList.getD J 0]:=by
 rw[show J+1-k=J-k+1 by omega,j9,List.getElem?_drop,gD,show k+(J-k)=J by omega,gE (by simpa using h)];rfl
def A8 {s}{k E j}(e:ZB iD s k=E)(f:j<=E)(a:j<=10):ZA ((s.data.toList.drop k).take j)<=10000000000:=by
 have h:=Ps ((s.data.toList.drop k).take j) 0 fun c b=>((ID c).1 (PS iD (s.data.toList.drop k) c (List.take_subset_take_left _ (by show j<=ZB iD s k;omega) b))).2
 have d:((s.data.toList.drop k).take j).length<=10:=by rw[List.length_take];omega
 have g:=Nat.pow_le_pow_right (show 0<10 by decide) d;have i:ZA ((s.data.toList.drop k).take j)<(0+1)*10^((s.data.toList.drop k).take j).length:=h;omega
def qM (s:ByteArray)(k a E:Nat)(e:Ending):Prop:=∃n b:Int,e=z4 (.tuple #[I V n,I V b])/\if 1<=E/\E<=a then n=(ZA ((s.data.toList.drop k).take E):Nat)/\b=(k+E:Nat)else b= -1
def A9 (s w)(k a E:Nat)(D F:Int)(hs:s.size<=140737488355328)(K:k<=s.size)(hm:a<=10)(M:D=k)(N:F=a)(G:ZB iD s k=E):
  j0 L 99 #[U s,I V D,I V F] w fun e Q=>qM s k a E e/\Q=w:=by
 subst M N;have H:=o G;clear G;go_enter func99,ntmps99;go_wp2
 go_loopg [8,9] (s.size-k) (fun m n R wr=>∃j,k<=j/\j<=s.size/\m=s.size-j/\R=I V (j:Nat)/\n=I V (ZA ((s.data.toList.drop k).take (min (j-k) a)):Nat)/\O (E=j-k+ZB iD s j)/\O (wr=w))
 case atStart=>exact⟨k,z3 _,K,rfl,rfl,by simp[ZA],(by show _=_;rw[<-H.o];simp),rfl⟩
 obtain⟨j,f,hj,rfl,rfl,rfl,x,S⟩:=hrel;have e:=S.o;subst e;have T:=A8 (j:=min (j-k) a) H.o (aj x.o) az;by_cases d:j<s.size/\iD (Zy s j)=true
 ·obtain⟨b,q⟩:=d;have r:=o (Ry iD s k j E b x.o f q)
  have y:48<=Zy s j/\Zy s j<=57:=by simpa[iD]using q
  have g:=af j s.size
  have t:=fun w=>Xf (P:=L) underlying9 s j (j:Int) rfl b w
  by_cases W:j-k<a
  ·have i:O ((ZA ((s.data.toList.drop k).take (min (j+1-k) a)):Int)=10*(ZA ((s.data.toList.drop k).take (min (j-k) a)):Nat)+(Zy s j-48)):=by
    show _=_
    rw[j8 az,j8 az,A7 b f,Uk];unfold Zy at y ⊢;omega
   have z:(j:Int)-(k:Int)<(a:Int):=az;generalize ZA ((s.data.toList.drop k).take (min (j-k) a))=n at*;generalize Zy s j=c at*;clear q;go_wp2;go_roundg (s.size-(j+1))
   case measure=>omega
   exact⟨j+1,az,az,rfl,aE,by rw[i.o],r,rfl⟩
  have i:O (min (j+1-k) a=min (j-k) a):=aQ;have z:¬(j:Int)-(k:Int)<(a:Int):=az;generalize Zy s j=c at*;clear q;go_wp2;go_roundg (s.size-(j+1))
  case measure=>omega
  exact⟨j+1,az,az,rfl,aE,by rw[i.o],r,rfl⟩
 have X:=Sb iD s k j E x.o f d
 have Y:¬j<s.size\/j<s.size/\Zy s j<48\/j<s.size/\57<Zy s j:=by
  have q:¬(j<s.size/\(48<=Zy s j/\Zy s j<=57)):=by simpa[iD]using d
  omega
 have Z:O (E=j-k/\(j-k<=a->ZA ((s.data.toList.drop k).take (min (j-k) a))=ZA ((s.data.toList.drop k).take (j-k)))):=⟨az,fun h=>by rw[j8 h]⟩;generalize ZA ((s.data.toList.drop k).take (min (j-k) a))=n at*;clear d X
 have l:O (∀v u:Int,(if 1<=j-k/\j-k<=a then v=(n:Nat)/\u=(j:Nat)else u= -1)->qM s k a E (z4 (.tuple #[I V v,I V u]))):=fun v u h=>by
  obtain⟨rfl,A⟩:=Z.o;refine⟨v,u,rfl,?_⟩
  split at h
  ·rename_i p;rw[if_pos p,<-A p.2,show k+(j-k)=j by omega];exact h
  rename_i p;rw[if_neg p];exact h
 rcases Y with b|⟨b,B⟩|⟨b,B⟩
 case' inl=>have g:=ai j s.size
 case' inr.inl=>
  have g:=af j s.size
  have t:=fun w=>Xf (P:=L) underlying9 s j (j:Int) rfl b w
  have C:¬48<=Zy s j:=az;generalize Zy s j=c at*;clear B
 case' inr.inr=>
  have g:=af j s.size
  have t:=fun w=>Xf (P:=L) underlying9 s j (j:Int) rfl b w
  have C:48<=Zy s j:=az;have a0:¬Zy s j<=57:=az;generalize Zy s j=c at*;clear B
 all_goals
  by_cases J:j=k
  ·have h1:((j:Int)==(k:Int))=true:=aF;have HZ:=o J;clear J;go_wp2
   go_ret2
   exact⟨l.o _ _ (by rw[if_neg (aj HZ.o)]),rfl⟩
  have h1:((j:Int)==(k:Int))=false:=aF;by_cases A:j-k<=a
  ·have p:¬(a:Int)<(j:Int)-(k:Int):=az;go_wp2
   go_ret2
   exact⟨l.o _ _ (by rw[if_pos ⟨az,A⟩];exact⟨rfl,rfl⟩),rfl⟩
  have p:(a:Int)<(j:Int)-(k:Int):=az;go_wp2
  go_ret2
  exact⟨l.o _ _ (by rw[if_neg az]),rfl⟩
def Fk {s}{k}(n)(a:k<s.size):UM n (s.data.toList.drop k)=if Zy s k=32/\1<=ZB iD s (k+1)/\ZB iD s (k+1)<=n then Y (ZA ((s.data.toList.drop (k+1)).take (ZB iD s (k+1))),s.data.toList.drop (k+1+ZB iD s (k+1)))else Z:=by
 have e:s.data.toList[k]'(by simpa using a)=32↔Zy s k=32:=by
  rw[P8 s k a,<-UInt8.toNat_inj]
  show _↔((s.data.toList[k]'(by simpa using a)).toNat:Int)=32
  constructor<;>intro h
  ·rw[h];rfl
  have b:(s.data.toList[k]'(by simpa using a)).toNat=32:=z;exact b
 rw[dC (by simpa using a),show s.data.toList.drop (k+1+ZB iD s (k+1))=(s.data.toList.drop (k+1)).drop (ZB iD s (k+1))from by rw[List.drop_drop]];unfold UM ZB;simp only[e]
def za {s:ByteArray}{k}(n)(a:¬k<s.size):UM n (s.data.toList.drop k)=Z:=by
 rw[dL aF];rfl
def sT {w W}{Q t a b c d}(e f g i)(h:W.heap[Q]?=Y (z5 #[a,b,c,d] t))(k:F0 w W)(j:w.heap.size<=Q):
  O (((((W.setCell ⟨Q,0,Z⟩ e).setCell ⟨Q,1,Z⟩ f).setCell ⟨Q,2,Z⟩ g).setCell ⟨Q,3,Z⟩ i).heap[Q]?=Y (z5 #[e,f,g,i] t)/\F0 w ((((W.setCell ⟨Q,0,Z⟩ e).setCell ⟨Q,1,Z⟩ f).setCell ⟨Q,2,Z⟩ g).setCell ⟨Q,3,Z⟩ i)):=
 ⟨heap_setCell_same _ Q 3 _ _ i (heap_setCell_same _ Q 2 _ _ g (heap_setCell_same _ Q 1 _ _ f (heap_setCell_same W Q 0 _ _ e h))),(((k.setCell (p:=⟨Q,0,Z⟩) (C j) _).setCell (p:=⟨Q,1,Z⟩) (C j) _).setCell (p:=⟨Q,2,Z⟩) (C j) _).setCell (p:=⟨Q,3,Z⟩) (C j) _⟩
def vx (s:ByteArray)(p:XQ)(b:Bool):Prop:=match WX s.data.toList with
 |some q=>p=q/\b=YD q
 |none=>b=false
def sU (s:ByteArray)(e:Ending):Prop:=∃p b,e=z4 (.tuple #[X4 p,z8 b])/\vx s p b
def sU.of {s p b}(h:vx s p b):sU s (z4 (.tuple #[X4 p,z8 b])):=⟨p,b,rfl,h⟩
def vx.no {s p}(h:WX s.data.toList=Z):vx s p false:=by
 unfold vx;rw[h]
def sV (s B:ByteArray)(i k x y z:Nat):Prop:=
 (i=0/\WX s.data.toList=GQ 4 (fun x=>GQ 10 fun y=>GQ 3 fun z=>vY B x y z) (s.data.toList.drop k))\/
 (i=1/\WX s.data.toList=GQ 10 (fun y=>GQ 3 fun z=>vY B x y z) (s.data.toList.drop k))\/
 (i=2/\WX s.data.toList=GQ 3 (fun z=>vY B x y z) (s.data.toList.drop k))\/
 (i=3/\WX s.data.toList=vY B x y z (s.data.toList.drop k))
def sV.nil {s B i k x y z}(h:sV s B i k x y z)(b:i<3)(a:UM (if i=0 then 4 else if i=1 then 10 else 3) (s.data.toList.drop k)=Z):WX s.data.toList=Z:=by
 rcases h with⟨rfl,h⟩|⟨rfl,h⟩|⟨rfl,h⟩|⟨h,_⟩
 ·rw[h,GQ,show UM 4 _=Z from a]
 ·rw[h,GQ,show UM 10 _=Z from a]
 ·rw[h,GQ,show UM 3 _=Z from a]
 omega
def sV.next {s B i k x y z n j}(h:sV s B i k x y z)(b:i<3)(a:UM (if i=0 then 4 else if i=1 then 10 else 3) (s.data.toList.drop k)=Y (n,s.data.toList.drop j)):sV s B (i+1) j (if i=0 then n else x) (if i=1 then n else y) (if i=2 then n else z):=by
 rcases h with⟨rfl,h⟩|⟨rfl,h⟩|⟨rfl,h⟩|⟨h,_⟩
 ·exact C (z6 ⟨rfl,by rw[h,GQ,show UM 4 _=_ from a];rfl⟩)
 ·exact C (C (z6 ⟨rfl,by rw[h,GQ,show UM 10 _=_ from a];rfl⟩))
 ·exact C (C (C ⟨rfl,by rw[h,GQ,show UM 3 _=_ from a];rfl⟩))
 omega
def IY (s w)(hs:s.size<=140737488355328):
  j0 L 55 #[U s] w fun e w'=>sU s e/\F0 w w':=by
 obtain⟨N,R⟩:=ad (ZB Rx s 0);have p0:=Xz Rx s 0 (q8 _);rw[R,j6]at p0;have HK:=Za R
 have HB:O (s.extract 0 N=bs (s.data.toList.take N)):=by
  apply ByteArray.ext;apply Array.toList_inj.1;rw[Lib.extract_data];simp
 obtain⟨HF,HQ,HP⟩:=TL w (z5 #[U ⟨#[]⟩,I V 0,I V 0,I V 0] 35) (z5 #[U ⟨#[]⟩,I V 0,I V 0,I V 0] 35);clear R;go_enter func55,ntmps55;go_upto_region 2 with fail;generalize(w.alloc _).alloc _=W at*;obtain⟨Q,hQ⟩:=ad w.heap.size;have u:O (w.heap.size<=Q):=a8 hQ;rw[hQ]at HQ HP ⊢;clear hQ;go_wp2
 go_loopg [5] s.size (fun m kk wr=>∃k,k<=s.size/\m=s.size-k/\kk=I V (k:Nat)/\O (N=k-0+ZB Rx s k)/\O (wr=W))
 case atStart=>exact⟨0,q8 _,rfl,rfl,(by show _=_;rw[HK.o];simp),rfl⟩
 obtain⟨k,hk,rfl,rfl,HR,HW⟩:=hrel;have e:=HW.o;subst e;by_cases F:k<s.size/\Rx (Zy s k)=true
 ·obtain⟨g,hd⟩:=F;have q0:=Za (Ry Rx s 0 k N g HR.o (q8 _) hd)
  have w0:((Zy s k)==32)=false:=by simpa[Rx]using hd
  have G:=af k s.size
  have H:=fun w=>Xf (P:=L) underlying9 s k (k:Int) rfl g w
  generalize Zy s k=c at*;clear hd;go_wp2;go_roundg (s.size-(k+1))
  case measure=>omega
  exact⟨k+1,az,rfl,aE,q0,rfl⟩
 have T:=Sb Rx s 0 k N HR.o (q8 _) F;rw[j6]at T;subst T
 have hw:¬k<s.size\/k<s.size/\Zy s k=32:=by
  by_cases h:k<s.size
  ·exact C ⟨h,by by_cases h2:Zy s k=32;exact h2;exact absurd ⟨h,by simpa[Rx]using h2⟩ F⟩
  exact z6 h
 have X:O (sV s (bs (s.data.toList.take k)) 0 k 0 0 0):=z6 ⟨rfl,by show _=_;unfold WX;rw[show Z5 Rx s.data.toList=k from HK.o]⟩;have z0:(0:Int)<=(k:Int):=az;have A0:(k:Int)<=(s.size:Int):=az;have x0:=Zc HP.o 0;have f0:=bF HP.o 0;clear F
 have a0:O ((wr.setCell ⟨Q+1,0,Z⟩ (U (s.extract 0 k))).heap[Q+1]?=Y (z5 #[U (bs (s.data.toList.take k)),I V 0,I V 0,I V 0] 35)/\(wr.setCell ⟨Q+1,0,Z⟩ (U (s.extract 0 k))).heap[Q]?=Y (z5 #[U ⟨#[]⟩,I V 0,I V 0,I V 0] 35)/\F0 w (wr.setCell ⟨Q+1,0,Z⟩ (U (s.extract 0 k)))):=by
  rw[HB.o];refine⟨heap_setCell_same _ _ _ _ _ _ HP.o,?_,HF.o.setCell (p:=⟨Q+1,0,Z⟩) (C (by have:=u.o;dsimp only;omega)) _⟩;rw[heap_setCell_other wr ⟨Q+1,0,Z⟩ Q _ aA];exact HQ.o
 obtain⟨B,hB⟩:=ad (bs (s.data.toList.take k))
 have r0:O (B.size<=maxLen):=by show _<=_;rw[<-hB,Sv];unfold maxLen;simp;omega
 rw[hB]at a0 X;rcases hw with g|⟨g,K⟩
 case' inl=>have G:=ai k s.size
 case' inr=>
  have G:=af k s.size
  have H:=fun w=>Xf (P:=L) underlying9 s k (k:Int) rfl g w
  rw[K]at H;clear K
 all_goals
  clear HK HB hB;go_upto_region 6 with fail;generalize wr.setCell _ _=W1 at*;generalize t0:k=k' at*;clear t0 x0 f0;go_wp2
  go_loopg [5,6] 3 (fun m kk ii wr=>∃i k x y z,i<=3/\k<=s.size/\m=3-i/\kk=I V (k:Nat)/\ii=I V (i:Nat)/\O (sV s B i k x y z)/\O (wr.heap[Q+1]?=Y (z5 #[U B,I V (x:Nat),I V (y:Nat),I V (z:Nat)] 35)/\wr.heap[Q]?=Y (z5 #[U ⟨#[]⟩,I V 0,I V 0,I V 0] 35)/\F0 w wr))
  case atStart=>exact⟨0,_,0,0,0,az,hk,rfl,rfl,rfl,X,a0⟩
  clear X a0;obtain⟨i,k,x,y,z,hi,hk,rfl,rfl,rfl,HS,a⟩:=hrel;obtain⟨x0,x1,x2,x3⟩:=au a.o.1;have f1:=bF a.o.1;obtain⟨y0,y1,y2,y3⟩:=au a.o.2.1;have g1:=bF a.o.2.1;by_cases h3:i<3
  ·have B0:(i:Int)<3:=az
   have b0:=Za fun hp=>vx.no (p:=⟨B,(x:Nat),(y:Nat),(z:Nat)⟩) (HS.o.nil h3 hp)
   have d:=sT (U B) (I V (x:Nat)) (I V (y:Nat)) (I V (z:Nat)) a.o.2.1 a.o.2.2 u.o;by_cases g:k<s.size
   ·have G:¬(s.size:Int)<=(k:Int):=az
    have H:=fun w=>Xf (P:=L) underlying9 s k (k:Int) rfl g w
    by_cases K:Zy s k=32
    ·obtain⟨E,D⟩:=ad (ZB iD s (k+1));have T:=Xz iD s (k+1) g;rw[D]at T
     have A:=Za fun n=>Fk (k:=k) n g
     rw[D]at A
     have l0:O (∀W (r:Nat)(mv:Int),r<=10->mv=r->j0 L 99 #[U s,I V ((k:Int)+1),I V mv] W fun e w'=>qM s (k+1) r E e/\w'=W):=fun W r mv hm em=>A9 s W (k+1) r E _ mv hs g hm az em D
     have c0:=Za fun n j=>HS.o.next (n:=n) (j:=j) h3
     have HC:=Za K;rw[K]at H
     have m0:O (∀o,(wr.alloc o).heap[Q+1]?=Y (z5 #[U B,I V (x:Nat),I V (y:Nat),I V (z:Nat)] 35)/\(wr.alloc o).heap[Q]?=Y (z5 #[U ⟨#[]⟩,I V 0,I V 0,I V 0] 35)/\F0 w (wr.alloc o)):=fun o=>by
      have e:=(Zo (S:=fun _=>False) (w:=wr)).alloc o;exact⟨e.whole a.o.1,e.whole a.o.2.1,a.o.2.2.trans e⟩
     have d0:i=0\/i=1\/i=2:=az;clear D K HS d x0 x1 x2 x3 y0 y1 y2 y3 f1 g1 hi h3;rcases d0 with rfl|rfl|rfl
     all_goals
      go_wp2_with fail;refine(l0.o _ _ _ ?hm aD).mono ?_
      case hm=>decide
      rintro e w2 ⟨⟨n,en,rfl,hp⟩,hw⟩;obtain⟨o,ho⟩:∃o,wr.alloc o=w2:=⟨_,hw.symm⟩;have f:=m0.o o;rw[ho]at f;have e0:=Za f;have d:=sT (U B) (I V (x:Nat)) (I V (y:Nat)) (I V (z:Nat)) f.2.1 f.2.2 u.o;obtain⟨x0,x1,x2,x3⟩:=au f.1;have f1:=bF f.1;obtain⟨y0,y1,y2,y3⟩:=au f.2.1;have g1:=bF f.2.1;clear hw ho f m0 l0
      split at hp
      ·rename_i D;obtain⟨rfl,rfl⟩:=hp;have g0:=c0.o _ (k+1+E) (by rw[A.o];exact if_pos ⟨HC.o,D.1,D.2⟩);generalize ZA ((s.data.toList.drop (k+1)).take E)=n at*;generalize k+1+E=J at*;simp at g0;have l:=Za g0;clear g0 c0 A D;have C0:¬(J:Int)<0:=az
       have h0:=Za fun j v=>e0.o.2.2.setCell (p:=⟨Q+1,j,Z⟩) (C (by have:=u.o;dsimp only;omega)) v
       have i0:=Za fun j v=>(heap_setCell_other w2 ⟨Q+1,j,Z⟩ Q v aA).trans e0.o.2.1
       have k0:=Za fun j v=>heap_setCell_same w2 (Q+1) j _ _ v e0.o.1
       go_wp2_with fail
       first
       |(go_roundg 2;(case measure=>omega);exact⟨1,J,n,y,z,az,T,rfl,rfl,rfl,l,⟨k0.o _ _,i0.o _ _,h0.o _ _⟩⟩)
       |(go_roundg 1;(case measure=>omega);exact⟨2,J,x,n,z,az,T,rfl,rfl,rfl,l,⟨k0.o _ _,i0.o _ _,h0.o _ _⟩⟩)
       |(go_roundg 0;(case measure=>omega);exact⟨3,J,x,y,n,az,T,rfl,rfl,rfl,l,⟨k0.o _ _,i0.o _ _,h0.o _ _⟩⟩)
      have l:=Za (b0.o (by rw[A.o];rename_i D;exact if_neg fun h=>D h.2));subst hp;clear c0 A;go_wp2_with fail;obtain⟨s0,s1,s2,s3⟩:=au d.o.1;exact bodyPost_ret (by simp[results,results55,go_sem,s0,s1,s2,s3];rfl) rfl ⟨sU.of (p:=⟨B,(x:Nat),(y:Nat),(z:Nat)⟩) l.o,d.o.2⟩
    have l:=Za (b0.o (by rw[Fk _ g,if_neg fun h=>K h.1]))
    have D0:(Zy s k==32)=false:=by simpa using K
    generalize Zy s k=c at*;clear K;go_wp2_with fail;obtain⟨s0,s1,s2,s3⟩:=au d.o.1;exact bodyPost_ret (by simp[results,results55,go_sem,s0,s1,s2,s3];rfl) rfl ⟨sU.of (p:=⟨B,(x:Nat),(y:Nat),(z:Nat)⟩) l.o,d.o.2⟩
   have G:(s.size:Int)<=(k:Int):=az;have l:=Za (b0.o (za _ g));go_wp2_with fail;obtain⟨s0,s1,s2,s3⟩:=au d.o.1;exact bodyPost_ret (by simp[results,results55,go_sem,s0,s1,s2,s3];rfl) rfl ⟨sU.of (p:=⟨B,(x:Nat),(y:Nat),(z:Nat)⟩) l.o,d.o.2⟩
  obtain rfl:i=3:=az
  have n0:O (∀W,j0 L 86 #[m7 #[U B,I V (x:Nat),I V (y:Nat),I V (z:Nat)]] W fun e w'=>e=z4 (z8 (YD ⟨B,(x:Nat),(y:Nat),(z:Nat)⟩))/\F0 W w'):=fun W=>SK W ⟨B,(x:Nat),(y:Nat),(z:Nat)⟩ r0.o
  have o0:O (∀b,YD ⟨B,(x:Nat),(y:Nat),(z:Nat)⟩=b->vx s ⟨B,(x:Nat),(y:Nat),(z:Nat)⟩ (b&&decide (k=s.size))):=fun b hb=>by
   have hr:WX s.data.toList=vY B x y z (s.data.toList.drop k):=by
    rcases HS.o with⟨h,_⟩|⟨h,_⟩|⟨h,_⟩|⟨_,h⟩
    ·cases h
    ·cases h
    ·cases h
    exact h
   unfold vx;rw[hr,vY];by_cases e:k=s.size
   ·rw[if_pos (by rw[dL aF])];simp[e,hb]
   rw[if_neg aF];simp[e]
  obtain⟨b,hb⟩:=ad (YD ⟨B,(x:Nat),(y:Nat),(z:Nat)⟩);have v0:=Za (o0.o b hb);rw[hb]at n0;clear hb o0 h3;go_wp2_with fail;refine(n0.o _).mono ?_;rintro e w2 ⟨rfl,t⟩;have M:=Za (t.whole a.o.1);have d:=sT (U B) (I V (x:Nat)) (I V (y:Nat)) (I V (z:Nat)) (t.whole a.o.2.1) (a.o.2.2.trans t) u.o;obtain⟨y0,y1,y2,y3⟩:=au (t.whole a.o.2.1);have g1:=bF (t.whole a.o.2.1);obtain⟨x0,x1,x2,x3⟩:=au M.o
  have E0:((k:Int)==(s.size:Int))=decide (k=s.size):=by rw[k8];simp;omega
  generalize decide (k=s.size)=q at*
  cases b
  all_goals
   go_wp2_with fail;obtain⟨s0,s1,s2,s3⟩:=au d.o.1;exact bodyPost_ret (by simp[results,results55,go_sem,s0,s1,s2,s3];rfl) rfl ⟨sU.of (p:=⟨B,(x:Nat),(y:Nat),(z:Nat)⟩) v0.o,d.o.2⟩
def Tn (c:Int)(n:Nat):Nat:=((if c<0 then-(c+1)else c)% (n:Int)).toNat
def PZ (c n)(h:0<n):Tn c n<n:=by
 unfold Tn;have a:=m5 (if c<0 then-(c+1)else c) (b:=(n:Int)) z;have d:=Int.emod_lt_of_pos (if c<0 then-(c+1)else c) (b:=(n:Int)) z;omega
def P0 (c:Int)(n:Nat)(w)(j: -9223372036854775808<=c)(k:c<=9223372036854775807)(l:0<n)(m:n<=1000000):
  j0 L 44 #[I V c,I V n] w fun e d=>e=z4 (I V (Tn c n))/\d=w:=by
 have f:=af 0 n;have g:(n:Int)<=1000000:=z;have h:((n:Int)==0)=false:=aF;by_cases b:c<0
 ·have a:O ((Tn c n:Int)=(-(c+1))% (n:Int)):=by
   show _=_
   unfold Tn;rw[if_pos b,n7 (m5 _ z)]
  go_enter func44,ntmps44;go_wp2;go_ret;exact⟨ZQ (by rw[a.o,<-Int.neg_tmod,p9 z]),rfl⟩
 have a:O ((Tn c n:Int)=c % (n:Int)):=by
  show _=_
  unfold Tn;rw[if_neg b,n7 (m5 _ z)]
 have i:0<=c:=z;go_enter func44,ntmps44;go_wp2;go_ret;exact⟨ZQ (by rw[a.o]),rfl⟩
def ze (w T c d f a b g)(l:w.cell? ⟨T,0,Z⟩=Y (z9 (Y ⟨c,0,Z⟩)))(h:Bk w c d f a b g)(i:Yh a b)(j:QL w):
  j0 L 17 #[z9 (Y ⟨T,0,Z⟩)] w fun e m=>e=z4 (U (ZS (VN a b)))/\F0 w m:=by
 have n:=o (BV w c d f a b g h i j);clear h i j;go_enter func17,ntmps17;go_wp2_with fail;refine n.o.mono ?_;rintro e q ⟨rfl,k⟩;have p:=o k;clear k l;go_wp2;go_ret;exact⟨rfl,p.o⟩
def Xu.frS {w o B q d j l S}(h:Xu w B q d j l)(b:Fr S w o)(r:∀k,S k->k<B):Xu o B q d j l:=by
 obtain⟨⟨a,c,z,A⟩,f,C,D,s,E,F,G,t,H,I,J,K,L⟩:=h
 have m:∀k,B<=k->¬S k:=fun k u M=>aj (r k M)
 have i:∀k,S k->k<s:=fun k u=>nL (r k u) t
 refine⟨⟨a,c,(b.cell (p:=⟨q,0,Z⟩) f.2 (m q f.1)).trans z,fun N=>?_⟩,⟨f.1,nL f.2 b.size⟩,C,D,s,E,F,G,t,(b.cell (p:=⟨q,1,Z⟩) f.2 (m q f.1)).trans H,(b.cell (p:=⟨q,2,Z⟩) f.2 (m q f.1)).trans I,oF J b i,oF K b i,TU.keep (fun v n Q O=>oF O b i) L⟩;obtain⟨g,e,x,y,P⟩:=A N;exact⟨g,e,x,nL y b.size,P.fr b y (m g x)⟩
def Xu.less {w B j q b d f}(h:Xu w B q b d f)(i:j<=B):Xu w j q b d f:=by
 obtain⟨⟨a,c,l,m⟩,k,n,o,p,r,s,t,u,v,x,y,z,A⟩:=h;refine⟨⟨a,c,l,fun C=>?_⟩,⟨j1 i k.1,k.2⟩,n,o,p,r,s,t,j1 i u,v,x,y,z,A⟩;obtain⟨g,e,D,E,F⟩:=m C;exact⟨g,e,j1 i D,E,F⟩
def Sj:(L.info? 93).map (fun i=>(i.zero,i.size,i.bytes))=Y (Y (z9 Z),1,8):=n
def QY (k d:Int)(s a:ByteArray)(b e c:Int)(f:Option Addr)(g h:Nat)(i:Bool):k9:=
 m7 #[I V k,I V d,U s,U a,I V b,I V e,I V c,G f g h,z8 i]
def Yl (k d:Int)(s a:ByteArray)(b e c:Int)(f:Option Addr)(g h:Nat)(i:Bool):Obj:=
 z5 #[I V k,I V d,U s,U a,I V b,I V e,I V c,G f g h,z8 i] 62
def DF {s}(h:X0 s=true)(d)(l:d<=6):Dg (s.extract 0 d)/\ZA (s.extract 0 d).data.toList=Zw s/10^(6-d):=by
 obtain⟨m,_,a⟩:=UW h
 have c:(s.extract 0 d).data.toList=s.data.toList.take d:=by rw[Lib.extract_data];simp
 have f:s.data.toList.length=s.size:=y;refine⟨⟨?_,fun k g=>?_⟩,?_⟩
 ·rw[ByteArray.size_extract];omega
 ·have b:k<(s.extract 0 d).data.toList.length:=by simpa using g
  unfold Zy;rw[gD,gE b,Option.getD_some];have j:(s.extract 0 d).data.toList[k]∈s.data.toList:=List.mem_of_mem_take (i:=d) (by rw[<-c];exact b7 b);have:=a _ j;omega
 rw[c];unfold Zw;have e:=QQ a (6-d) d z;rw[show d+(6-d)=6 from z]at e;exact e.symm
def Uc (r:Ze)(p:XQ):Bool:=decide (r.lo<=Zw p.pan/10^(6-r.digits))&&(decide (Zw p.pan/10^(6-r.digits)<=r.hi)&&Uf r p)
def qz (r:Ze)(a:Option Addr)(b:Nat)(c:Option Addr)(d:Nat)(e:Option Addr)(f:Nat):List k9:=
 [U r.name,I V (r.rank:Nat),I V (r.digits:Nat),I V (r.lo:Nat),I V (r.hi:Nat),G a r.mcc.length b,G c r.cur.length d,z8 r.am.isSome,I V ((r.am.getD (0,0)).1:Nat),I V ((r.am.getD (0,0)).2:Nat),G e r.routes.length f,z8 r.decline,z8 r.cheapest]
def QZ (w g o r B S C T pa pc n p)(hc:∀j v,(qz r B S C T pa pc)[j]?=Y v->w.cell? ⟨g,o+j,Z⟩=Y v)(hm:Zv w B r.mcc)(hu:Zv w C r.cur)(ho:Ts n r)(hp:X0 p.pan=true):
  j0 L 87 #[z9 (Y ⟨g,o,Z⟩),X4 p] w fun e l=>e=z4 (z8 (Uc r p))/\F0 w l:=by
 obtain⟨D,HX⟩:=WM w (R7 p);unfold R7 at D HX;unfold X4;obtain⟨a0,k⟩:=DF hp r.digits ho.bn.1;obtain⟨c,E⟩:=ad (Zw p.pan/10^(6-r.digits));rw[E]at k
 have b0:O (∀W,j0 L 133 #[U (p.pan.extract 0 r.digits)] W fun e l=>e=z4 (I V (c:Nat))/\l=W):=fun W=>by rw[<-k];exact Ti _ W a0
 have F:O (∀W,F0 w W->j0 L 139 #[G B r.mcc.length S,I V p.mcc] W fun e l=>e=z4 (z8 (Us r.mcc p.mcc))/\l=W):=fun W u=>RZ W B S r.mcc p.mcc (hm.fr u) ho.mc.1
 have H:O (∀W,F0 w W->j0 L 139 #[G C r.cur.length T,I V p.cur] W fun e l=>e=z4 (z8 (Us r.cur p.cur))/\l=W):=fun W u=>RZ W C T r.cur p.cur (hu.fr u) ho.cu.1
 obtain⟨f,J⟩:=ad (r.am.getD (0,0))
 have HB:O (Uc r p=(decide ((r.lo:Int)<=(c:Int))&&(decide ((c:Int)<=(r.hi:Int))&&((decide (r.mcc.length=0)||Us r.mcc p.mcc)&&((!r.am.isSome||(decide ((f.1:Int)<=p.am)&&decide (p.am<=(f.2:Int))))&&(decide (r.cur.length=0)||Us r.cur p.cur)))))):=by
  show _=_
  unfold Uc Uf MW;rw[E]
  have e1:decide (r.lo<=c)=decide ((r.lo:Int)<=(c:Int)):=by congr 1;apply propext;omega
  have e2:decide (c<=r.hi)=decide ((c:Int)<=(r.hi:Int)):=by congr 1;apply propext;omega
  have e3:decide (r.mcc=[])=decide (r.mcc.length=0):=by congr 1;apply propext;exact c9.symm
  have e4:decide (r.cur=[])=decide (r.cur.length=0):=by congr 1;apply propext;exact c9.symm
  rw[e1,e2,e3,e4,<-J]
  cases r.am with
  |none=>rfl
  |some f=>rfl
 have K:=fun j v M=>(D.o.cell (p:=⟨g,o+j,Z⟩) (bL w _ (hc j v M))).trans (hc j v M)
 have d0:=(UW hp).1;have e0:=ho.bn.1;obtain⟨h,N⟩:=ad r.am.isSome;obtain⟨x,m⟩:=ad r.mcc.length;obtain⟨A,q⟩:=ad r.cur.length;obtain⟨bm,P⟩:=ad (Us r.mcc p.mcc);obtain⟨bc,Q⟩:=ad (Us r.cur p.cur);rw[N,m,q,P,Q]at HB;rw[m,P]at F;rw[q,Q]at H
 have i:O (∀d,F0 (w.alloc (z5 #[U p.pan,I V p.mcc,I V p.am,I V p.cur] 35)) d->d.cell? ⟨w.heap.size,0,Z⟩=Y (U p.pan)/\d.cell? ⟨w.heap.size,1,Z⟩=Y (I V p.mcc)/\d.cell? ⟨w.heap.size,2,Z⟩=Y (I V p.am)/\d.cell? ⟨w.heap.size,3,Z⟩=Y (I V p.cur)/\d.cell? ⟨g,o+2,Z⟩=Y (I V (r.digits:Nat))/\d.cell? ⟨g,o+3,Z⟩=Y (I V (r.lo:Nat))/\d.cell? ⟨g,o+4,Z⟩=Y (I V (r.hi:Nat))/\d.cell? ⟨g,o+5,Z⟩=Y (G B x S)/\d.cell? ⟨g,o+6,Z⟩=Y (G C A T)/\d.cell? ⟨g,o+7,Z⟩=Y (z8 h)/\d.cell? ⟨g,o+8,Z⟩=Y (I V (f.1:Nat))/\d.cell? ⟨g,o+9,Z⟩=Y (I V (f.2:Nat))):=by
  intro d u;have e:=u.whole HX.o
  have a:=fun j v M=>(u.cell (p:=⟨g,o+j,Z⟩) (bL _ _ (K j v M))).trans (K j v M)
  rw[<-N,<-m,<-q,<-J];exact⟨Zc e 0,Zc e 1,Zc e 2,Zc e 3,a 2 _ rfl,a 3 _ rfl,a 4 _ rfl,a 5 _ rfl,a 6 _ rfl,a 7 _ rfl,a 8 _ rfl,a 9 _ rfl⟩
 go_enter func87,ntmps87;go_upto_region 1 with fail;generalize w.alloc _=W at*;generalize w.heap.size=X at*;obtain⟨x0,x1,x2,x3,v2,v3,v4,v5,v6,v7,v8,v9⟩:=i.o W Zo;have f0:(r.digits:Int)<=(p.pan.size:Int):=az
 go_quiet ((go_at_call 133;exact Calls.quiet_of_same (b0.o _)))
 have s:O (F0 W (W.drewN nq)):=⟨rfl,rfl,rfl,z3 _,fun _ _ _=>rfl⟩;obtain⟨x0,x1,x2,x3,v2,v3,v4,v5,v6,v7,v8,v9⟩:=i.o _ s.o;generalize W.drewN nq=W1 at*;go_upto_region 2 with fail
 go_quiet ((go_at_call 139;exact Calls.quiet_of_same (F.o _ ((D.o.trans s.o).trans ⟨rfl,rfl,rfl,z3 _,fun _ _ _=>rfl⟩))))
 have t:O (F0 W (W1.drewN nq)):=s.o.trans ⟨rfl,rfl,rfl,z3 _,fun _ _ _=>rfl⟩;obtain⟨x0,x1,x2,x3,v2,v3,v4,v5,v6,v7,v8,v9⟩:=i.o _ t.o;generalize W1.drewN nq=W2 at*;go_upto_region 3 with fail
 go_quiet ((go_at_call 139;exact Calls.quiet_of_same (H.o _ ((D.o.trans t.o).trans ⟨rfl,rfl,rfl,z3 _,fun _ _ _=>rfl⟩))))
 have R:O (F0 W (W2.drewN nq)):=t.o.trans ⟨rfl,rfl,rfl,z3 _,fun _ _ _=>rfl⟩;obtain⟨x0,x1,x2,x3,v2,v3,v4,v5,v6,v7,v8,v9⟩:=i.o _ R.o;generalize W2.drewN nq=W3 at*;go_upto_region 4 with fail
 have c0:¬(r.lo:Int)<=(c:Int)\/((r.lo:Int)<=(c:Int)/\¬(c:Int)<=(r.hi:Int))\/((r.lo:Int)<=(c:Int)/\(c:Int)<=(r.hi:Int)/\bm=false/\((x:Int)==0)=false/\¬x=0)\/((r.lo:Int)<=(c:Int)/\(c:Int)<=(r.hi:Int)/\(bm=true\/bm=false/\x=0)/\(bc=false/\(((A:Int)==0)=false/\¬A=0)\/(bc=true\/bc=false/\A=0)/\(h=false\/h=true/\(¬(f.1:Int)<=p.am\/(f.1:Int)<=p.am/\(p.am<=(f.2:Int)\/¬p.am<=(f.2:Int)))))):=by
  cases bm<;>cases bc<;>cases h<;>simp<;>omega
 rcases c0 with a1|⟨a1,a2⟩|⟨a1,a2,rfl,z,y⟩|⟨a1,a2,rfl|⟨rfl,rfl⟩,⟨rfl,z,y⟩|⟨rfl|⟨rfl,rfl⟩,rfl|⟨rfl,q1|⟨q1,q2|q2⟩⟩⟩⟩
 all_goals
  go_quiet (fail)
  go_wp2;go_ret;exact⟨by rw[HB.o];simp;try first|omega|(intros;omega),(D.o.trans R.o).trans ⟨rfl,rfl,rfl,z3 _,fun _ _ _=>rfl⟩⟩
structure TV (w:j7)(q:Nat)(rts:List Zf)(R:List Ze):Prop where
 c1:∃ra rc,w.cell? ⟨q,1,Z⟩=Y (G ra rts.length rc)/\∀i t,rts[i]?=Y t->∃g,ra=Y ⟨g,0,Z⟩/\w.cell? ⟨g,i*3,Z⟩=Y (U t.name)/\w.cell? ⟨g,i*3+1,Z⟩=Y (I V (t.base:Nat))/\w.cell? ⟨g,i*3+2,Z⟩=Y (I V (t.rate:Nat))
 c2:∃la lc,w.cell? ⟨q,2,Z⟩=Y (G la R.length lc)/\∀i r,R[i]?=Y r->∃g ma mc ca cc pa pc,la=Y ⟨g,0,Z⟩/\(∀j v,(qz r ma mc ca cc pa pc)[j]?=Y v->w.cell? ⟨g,i*13+j,Z⟩=Y v)/\Zv w ma r.mcc/\Zv w ca r.cur/\Zv w pa r.routes
def TV.fr {w w' q a R}(h:TV w q a R)(b:F0 w w'):TV w' q a R:=by
 have k:∀{X o:Nat}{v:k9},w.cell? ⟨X,o,Z⟩=Y v->w'.cell? ⟨X,o,Z⟩=Y v:=fun{X o v} c=>(b.cell (p:=⟨X,o,Z⟩) (bL w _ c)).trans c
 obtain⟨n,s,u,x⟩:=h.c1;obtain⟨y,z,A,B⟩:=h.c2;refine⟨⟨n,s,k u,fun i t d=>?_⟩,⟨y,z,k A,fun i r d=>?_⟩⟩
 ·obtain⟨g,e,f,l,m⟩:=x i t d;exact⟨g,e,k f,k l,k m⟩
 obtain⟨g,C,D,E,F,G,H,e,f,l,m,I⟩:=B i r d;exact⟨g,C,D,E,F,G,H,e,fun j v c=>k (f j v c),l.fr b,m.fr b,I.fr b⟩
def TU.at' {a:Nat}{w:j7}:∀{b:List Xh}{d:List k9}{j:Nat}{r:Xh},TU a w b d->b[j]?=Y r->∃c,tA a w r c/\∀o v,c[o]?=Y v->d[j*13+o]?=Y v
 |[],_,j,_,_,hj=>by simp at hj
 |r::b,d,0,r',⟨c,rest,e,h1,h2⟩,hj=>by
  simp at hj;subst hj;refine⟨c,h1,fun o v f=>?_⟩;have:=(iG.1 f).1;rw[e,a9,j6,b5 this];exact f
 |r::b,d,j+1,r',⟨c,rest,e,h1,h2⟩,hj=>by
  rw[List.getElem?_cons_succ]at hj;obtain⟨g,h,i⟩:=TU.at' h2 hj;refine⟨g,h,fun o v f=>?_⟩
  have l:c.length=13:=by obtain⟨m,n,p,k,_⟩:=h1;rw[k];rfl
  rw[e,aR z,show(j+1)*13+o-c.length=j*13+o from z];exact i o v f
def TV.of {w B q b a R}(h:Xu w B q b a R):TV w q a R:=by
 obtain⟨X,vr,vl,xs,_,p,s,f,k,u⟩:=h.row;obtain⟨x,y,z⟩:=oL f;subst z;obtain⟨A,C,D⟩:=oL k;subst D;refine⟨⟨x,y,p,fun i t d=>?_⟩,⟨A,C,s,fun i r d=>?_⟩⟩
 ·have E:=(iG.1 d).1;obtain⟨g,l,e,_,F⟩:=f.form az;injection e with e _ _;subst e;obtain⟨G,H,I⟩:=T2 a i t d
  have m:∀o v,(Ym a)[o]?=Y v->w.cell? ⟨g,o,Z⟩=Y v:=fun o v J=>by
   have:=f.cells (g:=g) rfl o v J;rw[Yf,j6]at this;exact this
  exact⟨g,rfl,m _ _ G,m _ _ H,m _ _ I⟩
 have E:=(iG.1 d).1;obtain⟨g,l,e,_,F⟩:=k.form az;injection e with e _ _;subst e;obtain⟨c,⟨vm,vc,vp,rfl,g1,g2,g3⟩,n⟩:=u.at' (j:=i) (r:=r.ref) (by rw[List.getElem?_map,d];rfl);obtain⟨K,L,M⟩:=oL g1;subst M;obtain⟨N,O,P⟩:=oL g2;subst P;obtain⟨Q,S,T⟩:=oL g3;subst T
 have U:UR r.ref.routes=Zg r.routes:=by unfold UR Zg Ze.ref;simp
 have V:r.ref.routes.length=r.routes.length:=by unfold Ze.ref;simp
 rw[U]at g3;rw[V]at g3 n;refine⟨g,K,L,N,O,Q,S,rfl,fun j v W=>?_,Zv.of g1,Zv.of g2,Zv.of g3⟩;have:=k.cells (g:=g) rfl (i*13+j) v (n j v W);rw[Yf,j6]at this;exact this
def TH (R p i r)(h:R[i]?=Y r):YN R p (Zw p.pan) i=Uc r p:=by
 unfold YN Uc;rw[h]
def P1 (w q t R p)(h:TV w q t R)(hb:Yh t R)(hp:X0 p.pan=true):
  j0 L 100 #[z9 (Y ⟨q,0,Z⟩),X4 p] w fun e w'=>e=z4 (I V (V2 (YC (Zu R) (YN R p (Zw p.pan)) R.length)))/\F0 w w':=by
 obtain⟨HF,HX⟩:=WM w (R7 p);have HH:O (TV (w.alloc (R7 p)) q t R):=h.fr HF.o;have a0:=o hb;have HP:O (X0 p.pan=true):=hp;obtain⟨n,hn⟩:=ad R.length;have HN:=o hn;have k0:n<=8:=aj hb.l8;unfold R7 at HF HX HH;unfold X4;rw[hn];go_enter func100,ntmps100;go_upto_region 1 with fail;generalize w.alloc _=W at*;generalize w.heap.size=X at*;go_wp2
 go_loopg [5,6,7] n (fun m bb i _ wr=>∃k b,k<=n/\m=n-k/\bb=I V (V2 b)/\i=I V (k:Nat)/\O (YC (Zu R) (YN R p (Zw p.pan)) k=b)/\O (F0 W wr))
 case atStart=>exact⟨0,Z,q8 _,rfl,rfl,rfl,rfl,Zo⟩
 obtain⟨k,b,hk,rfl,rfl,rfl,B,f⟩:=hrel;obtain⟨la,lc,N,h3⟩:=(HH.o.fr f.o).c2;rw[HN.o]at N;by_cases l0:k<n
 ·have b0:=af k n;obtain⟨r,P⟩:∃r,R[k]?=Y r:=⟨_,gE (aj HN.o)⟩;obtain⟨g,ma,mc,ca,cc,pa,pc,rfl,l,c0,d0,m0⟩:=h3 k r P
  have D:O (∀i r,R[i]?=Y r->wr.cell? ⟨g,i*13+1,Z⟩=Y (I V (Zu R i:Nat))):=fun i r' hi=>by
   obtain⟨g',n0,o0,p0,q0,r0,s0,e,e0,_⟩:=h3 i r' hi;injection e with e;injection e with e _ _;subst e
   have e2:Zu R i=r'.rank:=by unfold Zu;rw[hi];rfl
   rw[e2];exact e0 1 _ rfl
  have E:O (∀s,O (F0 wr s)->j0 L 87 #[z9 (Y ⟨g,k*13,Z⟩),m7 #[U p.pan,I V p.mcc,I V p.am,I V p.cur]] s fun e w'=>e=z4 (z8 (YN R p (Zw p.pan) k))/\O (F0 wr w')/\w'.cell? ⟨q,2,Z⟩=Y (G (Y ⟨g,0,Z⟩) n lc)/\w'.cell? ⟨X,0,Z⟩=Y (U p.pan)/\w'.cell? ⟨X,1,Z⟩=Y (I V p.mcc)/\w'.cell? ⟨X,2,Z⟩=Y (I V p.am)/\w'.cell? ⟨X,3,Z⟩=Y (I V p.cur)):=by
   intro s Q;rw[TH R p k r P];refine(QZ s g (k*13) r ma mc ca cc pa pc t.length p (fun j v hv=>((Q.o.cell (p:=⟨g,k*13+j,Z⟩) (bL wr _ (l j v hv))).trans (l j v hv))) (c0.fr Q.o) (d0.fr Q.o) (a0.o.rl r (mG P)) HP.o).mono ?_;rintro e w' ⟨he,h4⟩;have h5:=Q.o.trans h4;have u:=(f.o.trans h5).whole HX.o;exact⟨he,h5,(h5.cell (p:=⟨q,2,Z⟩) (bL wr _ N)).trans N,Zc u 0,Zc u 1,Zc u 2,Zc u 3⟩
  have u:=f.o.whole HX.o;have hS:wr.cell? ⟨q,2,Z⟩=Y (G (Y ⟨g,0,Z⟩) n lc)/\wr.cell? ⟨X,0,Z⟩=Y (U p.pan)/\wr.cell? ⟨X,1,Z⟩=Y (I V p.mcc)/\wr.cell? ⟨X,2,Z⟩=Y (I V p.am)/\wr.cell? ⟨X,3,Z⟩=Y (I V p.cur):=⟨N,Zc u 0,Zc u 1,Zc u 2,Zc u 3⟩;have t0:O (F0 wr wr.drew):=Zo.drew;have f0:O (R[k]?=Y r):=P;obtain⟨S,F⟩:=ad (V2 b);have z:=o F;rw[F];obtain⟨T,H⟩:=ad (YN R p (Zw p.pan) k);have d:O (YN R p (Zw p.pan) k=T):=H;rw[H]at E;go_upto_region 5 with fail
  go_region_held3 (fun s=>s.cell? ⟨q,2,Z⟩=Y (G (Y ⟨g,0,Z⟩) n lc)/\s.cell? ⟨X,0,Z⟩=Y (U p.pan)/\s.cell? ⟨X,1,Z⟩=Y (I V p.mcc)/\s.cell? ⟨X,2,Z⟩=Y (I V p.am)/\s.cell? ⟨X,3,Z⟩=Y (I V p.cur)) (first|assumption|go_keep) (first
   |(go_at_call 87;refine(E.o _ aG).mono ?_;rintro e C ⟨rfl,A,g0⟩))
  have l2:=g0.1
  have r1:C.cell? ⟨g,k*13+1,Z⟩=Y (I V (Zu R k:Nat)):=by
   have e:=D.o k r f0.o;exact(A.o.cell (p:=⟨g,k*13+1,Z⟩) (bL wr _ e)).trans e
  have x:=o (f.o.trans A.o)
  cases T with
  |false=>
   have a:O (YC (Zu R) (YN R p (Zw p.pan)) (k+1)=b):=by show _=_;unfold YC;rw[d.o,B.o];simp
   go_upto_region 6 with fail
   go_quiet (fail)
   have c:O (F0 W (C.drewN nq)):=x.o.trans ⟨rfl,rfl,rfl,z3 _,fun _ _ _=>rfl⟩;go_wp2;go_roundg (n-(k+1))
   case measure=>omega
   exact⟨k+1,b,az,rfl,by rw[z.o],aE,a,c⟩
  |true=>
   cases b with
   |none=>
    have a:O (YC (Zu R) (YN R p (Zw p.pan)) (k+1)=Y k):=by show _=_;unfold YC;rw[d.o,B.o];simp
    have e1:S= -1:=z.o.symm;subst e1;go_upto_region 6 with fail
    go_quiet (fail)
    have c:O (F0 W (C.drewN nq)):=x.o.trans ⟨rfl,rfl,rfl,z3 _,fun _ _ _=>rfl⟩;go_wp2;go_roundg (n-(k+1))
    case measure=>omega
    exact⟨k+1,(Y k),az,rfl,rfl,aE,a,c⟩
   |some y=>
    have e1:S=(y:Int):=z.o.symm;subst e1;have J:=Uy (Zu R) (YN R p (Zw p.pan)) k;rw[B.o]at J;have v0:(y:Int)<(n:Int):=aj J.1;have w0:¬(y:Int)<0:=az
    obtain⟨ry,h0⟩:∃ry,R[y]?=Y ry:=⟨_,gE (aj HN.o)⟩
    have r2:C.cell? ⟨g,y*13+1,Z⟩=Y (I V (Zu R y:Nat)):=by
     have e:=D.o y ry h0;exact(A.o.cell (p:=⟨g,y*13+1,Z⟩) (bL wr _ e)).trans e
    by_cases K:Zu R y<Zu R k
    ·have a:O (YC (Zu R) (YN R p (Zw p.pan)) (k+1)=Y k):=by show _=_;unfold YC;rw[d.o,B.o];simp[K]
     have M:((Zu R y:Nat):Int)<((Zu R k:Nat):Int):=az;generalize Zu R y=r8 at*;generalize Zu R k=r9 at*;go_upto_region 6 with fail
     go_quiet (fail)
     have c:O (F0 W (C.drewN nq)):=x.o.trans ⟨rfl,rfl,rfl,z3 _,fun _ _ _=>rfl⟩;go_wp2;go_roundg (n-(k+1))
     case measure=>omega
     exact⟨k+1,(Y k),az,rfl,rfl,aE,a,c⟩
    have a:O (YC (Zu R) (YN R p (Zw p.pan)) (k+1)=Y y):=by show _=_;unfold YC;rw[d.o,B.o];simp[K]
    have M:¬((Zu R y:Nat):Int)<((Zu R k:Nat):Int):=az;generalize Zu R y=r8 at*;generalize Zu R k=r9 at*;go_upto_region 6 with fail
    go_quiet (fail)
    have c:O (F0 W (C.drewN nq)):=x.o.trans ⟨rfl,rfl,rfl,z3 _,fun _ _ _=>rfl⟩;go_wp2;go_roundg (n-(k+1))
    case measure=>omega
    exact⟨k+1,(Y y),az,rfl,rfl,aE,a,c⟩
 have b0:=ai k n;have i0:k=n:=az;subst i0;go_wp2;go_ret;exact⟨ZQ (by rw[B.o]),HF.o.trans f.o⟩
def NV (a:List Zf)(b:Int):Option Nat->Int
 |none=>0
 |some y=>XZ a b y
def Nl (w q f R a c l p)(h:TV w q f R)(hb:Yh f R)(hs:p.pan.size<=maxLen)(b1:ZX w a l)(hl:l.length<=maxLen):
  j0 L 56 #[z9 (Y ⟨q,0,Z⟩),X4 p,G a l.length c] w fun e w'=>e=z4 (Rc (UF f R p (UX f l)))/\F0 w w':=by
 have HH:O (TV w q f R):=h;have E0:O (Yh f R):=hb;have E1:O (ZX w a l):=b1;have F1:O (l.length<=maxLen):=hl
 have G1:O (∀W,j0 L 86 #[m7 #[U p.pan,I V p.mcc,I V p.am,I V p.cur]] W fun e w'=>e=z4 (z8 (YD p))/\F0 W w'):=fun W=>SK W p hs
 obtain⟨d1,H,i0⟩:=TL w (R7 p) (z5 #[I V 0,U ⟨#[]⟩,U ⟨#[]⟩] 38);unfold X4;unfold R7 at d1 H i0;obtain⟨ln,G0⟩:=ad l.length;have H1:O (l.length=ln):=G0;rw[G0];clear h hs hb b1 hl G0;go_enter func56,ntmps56;go_upto_region 1 with fail;generalize(w.alloc _).alloc _=W0 at*;obtain⟨P,hP⟩:=ad w.heap.size;have I1:O (w.heap.size=P):=hP;rw[hP]at H i0;rw[hP];clear hP;obtain⟨x0,x1,x2,x3⟩:=au H.o;go_wp2_with fail;refine(G1.o _).mono ?_;rintro e w1 ⟨rfl,k0⟩;have H0:O (F0 w w1):=d1.o.trans k0;have a0:O (w1.heap[P]?=Y (z5 #[U p.pan,I V p.mcc,I V p.am,I V p.cur] 35)):=k0.whole H.o;have B:O (w1.heap[P+1]?=Y (z5 #[I V 0,U ⟨#[]⟩,U ⟨#[]⟩] 38)):=k0.whole i0.o;have s:w.heap.size<=P+1:=aj I1.o;clear k0 x0 x1 x2 x3 H i0
 cases I0:YD p with
 |false=>
  have HD:O (UF f R p (UX f l)=(1,z7,z7)):=by show _=_;unfold UF;rw[if_neg (by rw[I0];simp)]
  obtain⟨o0,o1,o2⟩:=aq B.o;have J0:=bF B.o;go_wp2_with fail;have D:=Lg (v0:=I V 1) (v1:=U ⟨#[]⟩) (v2:=U ⟨#[]⟩) B.o;obtain⟨s0,s1,s2⟩:=aq D;refine bodyPost_ret (v:=m7 #[I V 1,U ⟨#[]⟩,U ⟨#[]⟩]) (by simp[results,results56,go_sem,s0,s1,s2]) rfl ⟨by rw[HD.o];rfl,?_⟩;exact((H0.o.setCell (p:=⟨P+1,0,Z⟩) (C s) _).setCell (p:=⟨P+1,1,Z⟩) (C s) _).setCell (p:=⟨P+1,2,Z⟩) (C s) _
 |true=>
  have l0:O (YD p=true):=I0
  have C0:X0 p.pan=true:=by have e:=l0.o;rw[XH,j4]at e;exact e.1
  have M0:O (0<=p.am/\p.am<=1000000000):=by
   have e:=l0.o;rw[XH]at e;simp only[j4,V3,decide_eq_true_eq]at e;exact e.2.2.1
  obtain⟨J,N⟩:=ad (YC (Zu R) (YN R p (Zw p.pan)) R.length);have m0:O (YC (Zu R) (YN R p (Zw p.pan)) R.length=J):=N
  have f1:O (j0 L 100 #[z9 (Y ⟨q,0,Z⟩),m7 #[U p.pan,I V p.mcc,I V p.am,I V p.cur]] w1 fun e w'=>e=z4 (I V (V2 J))/\F0 w1 w'):=by
   rw[<-N];exact P1 w1 q f R p (HH.o.fr H0.o) E0.o C0
  obtain⟨x0,x1,x2,x3⟩:=au a0.o;clear I0 C0 N;go_wp2_with fail;refine f1.o.mono ?_;rintro e w2 ⟨rfl,n0⟩;have p0:O (F0 w w2):=H0.o.trans n0;have g1:O (w2.heap[P]?=Y (z5 #[U p.pan,I V p.mcc,I V p.am,I V p.cur] 35)):=n0.whole a0.o;have E:O (w2.heap[P+1]?=Y (z5 #[I V 0,U ⟨#[]⟩,U ⟨#[]⟩] 38)):=n0.whole B.o;clear n0 x0 x1 x2 x3 a0 B f1
  cases J with
  |none=>
   have HD:O (UF f R p (UX f l)=(2,z7,z7)):=by show _=_;unfold UF;rw[if_pos l0.o,m0.o]
   unfold V2;obtain⟨o0,o1,o2⟩:=aq E.o;have J0:=bF E.o;go_wp2_with fail;have D:=Lg (v0:=I V 2) (v1:=U ⟨#[]⟩) (v2:=U ⟨#[]⟩) E.o;obtain⟨s0,s1,s2⟩:=aq D;refine bodyPost_ret (v:=m7 #[I V 2,U ⟨#[]⟩,U ⟨#[]⟩]) (by simp[results,results56,go_sem,s0,s1,s2]) rfl ⟨by rw[HD.o];rfl,?_⟩;exact((p0.o.setCell (p:=⟨P+1,0,Z⟩) (C s) _).setCell (p:=⟨P+1,1,Z⟩) (C s) _).setCell (p:=⟨P+1,2,Z⟩) (C s) _
  |some k=>
   have q0:=Uy (Zu R) (YN R p (Zw p.pan)) R.length;rw[m0.o]at q0;obtain⟨r,hr⟩:∃r,R[k]?=Y r:=⟨_,gE q0.1⟩
   have i1:O (UF f R p (UX f l)=yS f r (UX f l) p.am):=by
    show _=_
    unfold UF;rw[if_pos l0.o,m0.o];simp only[hr]
   have j1:O (Ts f.length r):=E0.o.rl r (mG hr);obtain⟨la,lc,h2,h3⟩:=(HH.o.fr p0.o).c2;obtain⟨g,ma,mc,ca,cc,pa,pc,rfl,n,_,_,k1⟩:=h3 k r hr;have Z1:(k:Int)<(R.length:Int):=aj q0.1;have a2:¬(k:Int)<0:=az;have v0:=n 0 _ rfl;have v1:=n 1 _ rfl;have v2:=n 2 _ rfl;have v3:=n 3 _ rfl;have v4:=n 4 _ rfl;have v5:=n 5 _ rfl;have v6:=n 6 _ rfl;have v7:=n 7 _ rfl;have v8:=n 8 _ rfl;have v9:=n 9 _ rfl;have J1:=n 10 _ rfl;have K1:=n 11 _ rfl;have L1:=n 12 _ rfl;rw[Nat.add_zero]at v0;obtain⟨c0,d0⟩:=WM w2 (z5 #[U r.name,I V (r.rank:Nat),I V (r.digits:Nat),I V (r.lo:Nat),I V (r.hi:Nat),G ma r.mcc.length mc,G ca r.cur.length cc,z8 r.am.isSome,I V ((r.am.getD (0,0)).1:Nat),I V ((r.am.getD (0,0)).2:Nat),G pa r.routes.length pc,z8 r.decline,z8 r.cheapest] 170);have M1:O (Zv (w2.alloc (z5 #[U r.name,I V (r.rank:Nat),I V (r.digits:Nat),I V (r.lo:Nat),I V (r.hi:Nat),G ma r.mcc.length mc,G ca r.cur.length cc,z8 r.am.isSome,I V ((r.am.getD (0,0)).1:Nat),I V ((r.am.getD (0,0)).2:Nat),G pa r.routes.length pc,z8 r.decline,z8 r.cheapest] 170)) pa r.routes):=k1.fr c0.o;unfold V2;clear q0 h3 n k1 hr;go_upto_region 8 with fail;generalize w2.alloc _=W3 at*;obtain⟨X,hX⟩:=ad w2.heap.size;rw[hX]at d0;rw[hX];have K:O (W3.heap[P+1]?=Y (z5 #[I V 0,U ⟨#[]⟩,U ⟨#[]⟩] 38)):=c0.o.whole E.o;have N1:O (W3.heap[P]?=Y (z5 #[U p.pan,I V p.mcc,I V p.am,I V p.cur] 35)):=c0.o.whole g1.o;have m1:O (F0 w W3):=p0.o.trans c0.o;have y0:=Zc d0.o 0;have N0:=Zc d0.o 11;clear v0 v1 v2 v3 v4 v5 v6 v7 v8 v9 J1 K1 L1 hX h2 c0 p0 E g1 m0
   cases e0:r.decline with
   |true=>
    have HD:O (UF f R p (UX f l)=(3,r.name,z7)):=by show _=_;rw[i1.o];unfold yS;rw[if_pos e0]
    rw[e0]at N0;obtain⟨o0,o1,o2⟩:=aq K.o;have J0:=bF K.o;go_wp2_with fail;have D:=Lg (v0:=I V 3) (v1:=U r.name) (v2:=U ⟨#[]⟩) K.o;obtain⟨s0,s1,s2⟩:=aq D;refine bodyPost_ret (v:=m7 #[I V 3,U r.name,U ⟨#[]⟩]) (by simp[results,results56,go_sem,s0,s1,s2]) rfl ⟨by rw[HD.o];rfl,?_⟩;exact((m1.o.setCell (p:=⟨P+1,0,Z⟩) (C s) _).setCell (p:=⟨P+1,1,Z⟩) (C s) _).setCell (p:=⟨P+1,2,Z⟩) (C s) _
   |false=>
    obtain⟨u,f0⟩:=ad (YS r.cheapest (XZ f p.am) (UX f l) r.routes Z);have n1:O (YS r.cheapest (XZ f p.am) (UX f l) r.routes Z=u):=f0
    have D0:O (UF f R p (UX f l)=Lc f r.name u):=by
     show _=_
     rw[i1.o];unfold yS;rw[if_neg (by rw[e0];simp),f0]
     cases u<;>rfl
    rw[e0]at N0;obtain⟨Q,O0⟩:=ad r.routes.length;have p1:O (r.routes.length=Q):=O0;rw[O0]at d0;have b2:Q<=4000:=aj j1.o.pl.1;clear f0 O0 e0;go_wp2_with fail;clear y0 N0
    go_loopg [10,11,12,13,14,15] Q (fun m bb ff i _ _ _ wr=>∃j b,j<=Q/\m=Q-j/\bb=I V (V2 b)/\ff=I V (NV f p.am b)/\i=I V (j:Nat)/\O (YS r.cheapest (XZ f p.am) (UX f l) (r.routes.drop j) b=u)/\O (F0 W3 wr)/\O (∀y,b=Y y->y<f.length))
    case atStart=>exact⟨0,Z,q8 _,rfl,rfl,rfl,rfl,n1,Zo,fun y h=>by cases h⟩
    obtain⟨j,b,hj,rfl,rfl,rfl,rfl,HB,b0,r0⟩:=hrel;have P0:=b0.o.whole d0.o;have y0:=Zc P0 0;have Q0:=Zc P0 10;have R0:=Zc P0 12;have T:O (F0 w wr):=m1.o.trans b0.o;obtain⟨ra,rc,c1,w0⟩:=(HH.o.fr T.o).c1;by_cases d2:j<Q
    ·have O1:=af j Q;obtain⟨x,hx⟩:∃x,r.routes[j]?=Y x:=⟨_,gE (aj p1.o)⟩;have S0:=j1.o.pl.2 x (mG hx);obtain⟨t,ht⟩:∃t,f[x]?=Y t:=⟨_,gE S0⟩;obtain⟨rg,rfl,t0,t1,t2⟩:=w0 x t ht;obtain⟨ga,rfl,hc⟩:=(M1.o.fr b0.o) j x hx
     have hd:r.routes.drop j=x::r.routes.drop (j+1):=by
      obtain⟨h1,h2⟩:=iG.1 hx;rw[dC h1,h2]
     rw[hd]at HB;have Q1:=af x f.length;have q1:O (x<f.length):=S0
     have R1:O (UX f l x=Ny l t.name):=by show _=_;unfold UX;rw[ht]
     have A0:O (XZ f p.am x=(t.base:Int)+(t.rate:Int)*p.am):=by show _=_;unfold XZ;rw[ht]
     have T0:=E0.o.rt t (mG ht);have S1:(t.base:Int)<1000000000:=aj T0.2.1;have T1:(0:Int)<=(t.rate:Int)*p.am:=Int.mul_nonneg az M0.o.1
     have V1:(t.rate:Int)*p.am<=1000000000000000000:=by
      have:=Int.mul_le_mul (a:=(t.rate:Int)) (b:=p.am) (c:=1000000000) (d:=1000000000) (aj T0.2.2) M0.o.2 M0.o.1 az;omega
     obtain⟨r1,y1⟩:=WM wr (z5 #[U t.name,I V (t.base:Nat),I V (t.rate:Nat)] 189)
     have W1:O (∀W',F0 wr W'->j0 L 101 #[G a ln c,U t.name] W' fun e w'=>e=z4 (z8 (UX f l x))/\w'=W'):=fun W' hf=>by
      rw[R1.o,<-H1.o];exact Fj W' a c l t.name (E1.o.fr (T.o.trans hf)) F1.o
     clear w0 hx S0 ht hd T0;obtain⟨bi,V0⟩:=ad (V2 b);have g0:O (V2 b=bi):=V0;obtain⟨bf,Y0⟩:=ad (NV f p.am b);have B0:O (NV f p.am b=bf):=Y0;rw[V0,Y0];clear V0 Y0;have l1:q<wr.heap.size:=bL wr _ c1;have l2:X<wr.heap.size:=bL wr _ Q0;have l3:rg<wr.heap.size:=bL wr _ t0;have l4:ga<wr.heap.size:=bL wr _ hc;go_upto_region 15 with fail
     go_region
     go_upto_region 16 with fail;have Z0:O (F0 wr (wr.alloc (z5 #[U t.name,I V (t.base:Nat),I V (t.rate:Nat)] 189)).drew):=r1.o.drew;have a1:O ((wr.alloc (z5 #[U t.name,I V (t.base:Nat),I V (t.rate:Nat)] 189)).drew.heap[wr.heap.size]?=Y (z5 #[U t.name,I V (t.base:Nat),I V (t.rate:Nat)] 189)):=y1.o;clear r1 y1 l1 l2 l3 l4;generalize(wr.alloc _).drew=W5 at*;generalize wr.heap.size=Xo at*
     have k5:∀{A o:Nat}{v:k9},wr.cell? ⟨A,o,Z⟩=Y v->W5.cell? ⟨A,o,Z⟩=Y v:=fun{A o v} hv=>(Z0.o.cell (p:=⟨A,o,Z⟩) (bL wr _ hv)).trans hv
     have f2:=k5 Q0;have A1:=k5 R0;have zc:=k5 hc;have p2:wr.cell? ⟨P,2,Z⟩=Y (I V p.am):=bC (b0.o.whole N1.o) 2 _ rfl;have zp:=k5 p2;obtain⟨z0,z1,z2⟩:=aq a1.o;have h0:O (F0 W3 W5):=b0.o.trans Z0.o;clear y0 Q0 R0 hc c1 t0 t1 t2 p2 k5;go_wp2_with fail;refine(W1.o _ Z0.o).mono ?_;rintro e w6 ⟨rfl,hw⟩;replace hw:=hw.symm;subst hw
     cases hq:UX f l x with
     |true=>
      have S:O (YS r.cheapest (XZ f p.am) (UX f l) (r.routes.drop (j+1)) b=u):=by have e:=HB.o;unfold YS at e;rw[hq,if_pos rfl]at e;exact e
      go_wp2;go_roundg (Q-(j+1))
      case measure=>omega
      exact⟨j+1,b,az,rfl,by rw[g0.o],by rw[B0.o],aE,S,h0,r0⟩
     |false=>
      have HQ:O (UX f l x=false):=hq;clear hq;go_upto_region 19 with fail;obtain⟨fx,B1⟩:=ad ((t.base:Int)+(t.rate:Int)*p.am);rw[B1]at A0 ⊢;clear S1 T1 V1 z0 z1 z2 zp B1 Q1
      cases b with
      |none=>
       have e1:bi= -1:=g0.o.symm;subst e1
       have M:O (YS r.cheapest (XZ f p.am) (UX f l) (r.routes.drop (j+1)) (Y x)=u):=by have e:=HB.o;unfold YS at e;rw[HQ.o,if_neg aA]at e;exact e
       clear HB;go_wp2;go_roundg (Q-(j+1))
       case measure=>omega
       exact⟨j+1,Y x,az,rfl,rfl,by show n9 _ _=n9 _ (XZ f p.am x);rw[A0.o],aE,M,h0,fun y h=>by injection h with h;subst h;exact q1.o⟩
      |some y=>
       have M:O (YS r.cheapest (XZ f p.am) (UX f l) (r.routes.drop (j+1)) (if(r.cheapest&&decide (fx<bf))=true then Y x else Y y)=u):=by
        have e:=HB.o;unfold YS at e;rw[HQ.o,if_neg aA]at e;have e2:bf=XZ f p.am y:=B0.o.symm;rw[e2,<-A0.o];exact e
       have X1:¬bi<0:=by have:bi=(y:Int):=g0.o.symm;omega
       clear HB;rcases Bool.eq_false_or_eq_true r.cheapest with z|z
       rotate_left
       ·rw[z]at A1
        have S:O (YS r.cheapest (XZ f p.am) (UX f l) (r.routes.drop (j+1)) (Y y)=u):=by have e:=M.o;simp only[z,l9,s4,if_false]at e;rw[z];exact e
        clear z M;go_wp2;go_roundg (Q-(j+1))
        case measure=>omega
        exact⟨j+1,Y y,az,rfl,by rw[g0.o],by rw[B0.o],aE,S,h0,r0⟩
       rw[z]at A1;by_cases C1:fx<bf
       ·have S:O (YS r.cheapest (XZ f p.am) (UX f l) (r.routes.drop (j+1)) (Y x)=u):=by have e:=M.o;simp only[z,g9,C1,decide_true,if_true]at e;rw[z];exact e
        clear z M;go_wp2;go_roundg (Q-(j+1))
        case measure=>omega
        exact⟨j+1,Y x,az,rfl,rfl,by show n9 _ _=n9 _ (XZ f p.am x);rw[A0.o],aE,S,h0,fun y h=>by injection h with h;subst h;exact q1.o⟩
       have S:O (YS r.cheapest (XZ f p.am) (UX f l) (r.routes.drop (j+1)) (Y y)=u):=by have e:=M.o;simp only[z,g9,C1,decide_false,s4,if_false]at e;rw[z];exact e
       clear z M;go_wp2;go_roundg (Q-(j+1))
       case measure=>omega
       exact⟨j+1,Y y,az,rfl,by rw[g0.o],by rw[B0.o],aE,S,h0,r0⟩
    have O1:=ai j Q
    have Y1:b=u:=by
     have e:=HB.o;rw[dL (aj p1.o)]at e;exact e
    subst Y1;have F:=b0.o.whole K.o;have g2:P+1<wr.heap.size:=(iA.1 F).1;obtain⟨o0,o1,o2⟩:=aq F;have J0:=bF F;generalize NV f p.am b=bf at*
    cases b with
    |none=>
     have HD:O (UF f R p (UX f l)=(4,r.name,z7)):=D0.o;unfold V2;go_wp2_with fail;have D:=Lg (v0:=I V 4) (v1:=U r.name) (v2:=U ⟨#[]⟩) F;obtain⟨s0,s1,s2⟩:=aq D;refine bodyPost_ret (v:=m7 #[I V 4,U r.name,U ⟨#[]⟩]) (by simp[results,results56,go_sem,s0,s1,s2]) rfl ⟨by rw[HD.o];rfl,?_⟩;exact((T.o.setCell (p:=⟨P+1,0,Z⟩) (C s) _).setCell (p:=⟨P+1,1,Z⟩) (C s) _).setCell (p:=⟨P+1,2,Z⟩) (C s) _
    |some y=>
     have D1:=r0.o y rfl;obtain⟨t,ht⟩:∃t,f[y]?=Y t:=⟨_,gE D1⟩;obtain⟨rg,rfl,t0,_,_⟩:=w0 y t ht
     have HD:O (UF f R p (UX f l)=(0,r.name,t.name)):=by show _=_;rw[D0.o];simp only[Lc,M3,ht]
     have i2:=af y f.length;have X1:¬(y:Int)<0:=az;unfold V2;clear w0 ht D1 R0;go_upto_region 24 with fail
     go_region
     go_wp2_with fail;have D:=Lg (v0:=I V 0) (v1:=U r.name) (v2:=U t.name) F;obtain⟨s0,s1,s2⟩:=aq D;refine bodyPost_ret (v:=m7 #[I V 0,U r.name,U t.name]) (by simp[results,results56,go_sem,s0,s1,s2]) rfl ⟨by rw[HD.o];rfl,?_⟩;exact(((T.o.setCell (p:=⟨P+1,0,Z⟩) (C s) _).setCell (p:=⟨P+1,1,Z⟩) (C s) _).setCell (p:=⟨P+1,2,Z⟩) (C s) _).drew
def Fl (m:Nat)(h:m<16):i2.wrap (97+(m:Int))=(97+(m:Int)):=by
 have:m=0\/m=1\/m=2\/m=3\/m=4\/m=5\/m=6\/m=7\/m=8\/m=9\/m=10\/m=11\/m=12\/m=13\/m=14\/m=15:=z
 rcases this with rfl|rfl|rfl|rfl|rfl|rfl|rfl|rfl|rfl|rfl|rfl|rfl|rfl|rfl|rfl|rfl<;>decide
def TI {P w J B o a Q}(O:o.guard=Z)(s x t)(X:o.op=.call {callee:=.builtin .append,args:=#[s,x],argTypes:=#[t,t]})(f e i z l v)(V:P.underlying t=Y (.slice e))(W:P.info? e=Y i)(hz:i.zero=Y z)(E:i.size=l)(Bp:i.bytes=v)(R:z.cells.size=l)(g0 n b I)(hs:a.eval s=.slice (Y ⟨g0,0,Z⟩) n b)(p:w.ownsRow f e l (.slice (Y ⟨g0,0,Z⟩) n b) n I)(L m c d)(hx:a.eval x=.slice (Y L) m c)(N:d.length=m*l)(y:∀j u,d[j]?=Y u->w.cell? (L.add j)=Y u)(h1:∀u∈d,u.oneCell'=true)(M:n+m<=maxLen)(A:(n+m)*v<=140737488355328)(F:f<=w.heap.size)(H)(hH:w.heap.size=H)(h:∀g q r,r.ownsRow f e l (.slice (Y ⟨g,0,Z⟩) (n+m) q) (n+m) (I++d)->((g=g0/\w.grownBy r (Y g0))\/(g=H/\w.grownBy r Z))->wpList P J Q B (a.put o.dst (.slice (Y ⟨g,0,Z⟩) (n+m) q)) r):wpList P J Q (o::B) a w:=by
 subst E Bp hH
 have S:∃g q r,(Builtin.append_ #[t,t] o.type #[.slice (Y ⟨g0,0,Z⟩) n b,.slice (Y L) m c]).run P w=.ok (.slice (Y ⟨g,0,Z⟩) (n+m) q) r/\r.ownsRow f e i.size (.slice (Y ⟨g,0,Z⟩) (n+m) q) (n+m) (I++d)/\((g=g0/\w.grownBy r (Y g0))\/(g=w.heap.size/\w.grownBy r Z)):=by
  by_cases G:n+m<=b
  ·obtain⟨r,r1,r2,r3⟩:=run_append_fits w f t o.type e i i.size V W rfl g0 n b I p L m c d N y h1 G;exact⟨g0,b,r,r1,r2,z6 ⟨rfl,r3⟩⟩
  have D:(I++d).length=(n+m)*i.size:=by rw[lA,p.1,N,i0]
  have T:=run_append_grow (P:=P) w t o.type e i z V W hz ⟨g0,0,Z⟩ n b I p.1 (p.cells (g:=g0) rfl) L m c d N y az (by simp only[maxLen]at M;omega) (growslice_fits az A);have U:=grownCap_ge w (n+m) b e;refine⟨_,_,_,T,⟨D,.inr ⟨w.heap.size,_,_,rfl,F,aN w.drew _,U,grownCap_le_maxLen w (n+m) b e M,?_,?_⟩⟩,C ⟨rfl,⟨rfl,rfl,rfl,aA,fun k hk _=>heap_alloc_old w.drew _ hk⟩⟩⟩
  ·simp only[Array.size_append,s6,size_zeroCells,R,p.1,N,<-i0]
   congr 1
   omega
  simp only[Array.toList_append,k4];rw[<-k4,<-D];exact List.take_left
 obtain⟨g,q,r,T,h2,h3⟩:=S
 refine wpList_plain O fun K hK=>?_
 unfold Oper.wp execOp;simp only[X,resolve,invoke,builtin,Sem.run_bind,Sem.run_pure,Result.andThen_ok,List.map_toArray,List.map_cons,List.map_nil,hs,hx,T];exact hK _ _ (h g q r h2 h3)
structure I9 where
 a:Option Addr
 n:Nat
 c:Nat
 m:ByteArray
def I9.val (e:I9):k9:=G e.a e.n e.c

def CV {P f a w E Q}(h:j0 P f a w fun e b=>e=E/\b=w)(k:Q E w):j0 P f a w Q:=cf h fun _ e=>e▸k
def R4 (n d R w)(c:d<=6)(f:n*10^(6-d)=R)(h:R<=1000000):
  j0 L 137 #[I V (n:Nat),I V (d:Nat)] w fun e g=>e=z4 (I V (R:Nat))/\g=w:=by
 have i:=o f;have j:=o h;go_enter func137,ntmps137;go_wp2
 go_loopg [0,1] (6-d) (fun m l p wr=>∃x k:Nat,k<=6/\m=6-k/\l=I V (x:Nat)/\p=I V (k:Nat)/\wr=w/\O (x*10^(6-k)=R))
 case atStart=>exact⟨n,d,c,rfl,rfl,rfl,rfl,i⟩
 obtain⟨x,k,s,rfl,rfl,rfl,rfl,a⟩:=hrel;have t:x<=1000000:=j1 (Nat.le_mul_of_pos_right _ (i1 aB)) (a.o▸j.o);by_cases q:k<6
 ·have b:(k:Int)<6:=z
  have r:O ((10*x)*10^(6-(k+1))=R):=by
   show _=_;rw[<-a.o,show 6-k=(6-(k+1))+1 from z,e7]
   rw[e8 10 x,Nat.mul_assoc,e8 10]
  go_wp2;go_roundg (6-(k+1))
  case measure=>omega
  exact⟨10*x,k+1,z,rfl,aE,aE,rfl,r⟩
 have b:¬(k:Int)<6:=z
 have e:x=R:=by have:=a.o;rw[show 6-k=0 from z]at this;simpa using this
 subst e;go_wp2;go_ret;exact⟨rfl,rfl⟩
def Rs (w:j7)(b:Nat)(l:List (k9×List Nat)):Prop:=
 (∀p,p∈l->w.ownsRow b 3 1 p.1 p.2.length (Zg p.2))/\l.Pairwise fun p q=>∀k,p.1.ownBlock=Y k->q.1.ownBlock≠Y k
def Rs.turn {w d b v f l g r}(h:Rs w b ((v,l)::r))(n:Fr (fun k=>v.ownBlock=Y k) w d)(o:d.ownsRow b 3 1 f g.length (Zg g))(s:∀k,f.ownBlock=Y k->v.ownBlock=Y k\/w.heap.size<=k):Rs d b ((f,g)::r):=by
 obtain⟨j,a⟩:=h;rw[s5]at a;refine⟨fun p c=>?_,s5.2 ⟨fun q m k i e=>?_,a.2⟩⟩
 ·rcases b0.1 c with rfl|c
  ·exact o
  exact oA (j p (n0 _ c)) n (fun k i e=>a.1 p c k e i)
 rcases s k i with h|h
 ·exact a.1 q m k h e
 have:=((j q (n0 _ m)).lt k e).2;omega
def Rs.rot {w b p r}(h:Rs w b (p::r)):Rs w b (r++[p]):=
 have e:=List.perm_append_singleton p r
 ⟨fun q a=>h.1 q (e.mem_iff.1 a),(e.symm.pairwise_iff (fun h k c e=>h k e c)).1 h.2⟩
def Rs.fr {w w' b l S}(h:Rs w b l)(a:Fr S w w')(c:∀k,S k->k<b:=by simp):Rs w' b l:=⟨fun p d=>oF (h.1 p d) a c,h.2⟩
def Rs.grow {w i a b g n c v l l' r}(h:Rs w b ((v,l)::r))(j:Fr (fun k=>v.ownBlock=Y k) w i)(m:i.grownBy a v.ownBlock)(o:a.ownsRow b 3 1 (G (Y ⟨g,0,Z⟩) n c) l'.length (Zg l'))(d:v.ownBlock=Y g\/w.heap.size<=g):
  Rs a b ((G (Y ⟨g,0,Z⟩) n c,l')::r)/\Fr (fun k=>v.ownBlock=Y k) w a:=by
 have f:=j.grown m (fun k e=>z6 e);refine⟨h.turn f o (fun k e=>?_),f⟩
 obtain rfl:k=g:=by simpa[a0]using e.symm
 exact d
def Ud (l)(n:Nat):Us l (n:Int)=true↔n∈l:=by
 induction l with
 |nil=>simp[Us]
 |cons x r a=>rw[Fi,l0,a,beq_iff_eq,b0];exact or_congr_left ⟨fun h=>z,fun h=>z⟩
def zg (w b v l r n m)(M:Int)(H:M=(m:Nat))(h:Rs w b ((v,l)::r))(z:l.length<=4000)(S:n<=10000000000)(T:b<=w.heap.size):
  j0 L 182 #[v,I V (n:Nat),I V M] w fun e A=>∃B l',e=z4 B/\Rs A b ((B,l')::r)/\(l'=l/\(n<=m->n∈l)\/l'=l++[n]/\n<=m)/\Fr (fun k=>v.ownBlock=Y k) w A:=by
 have d:=o (h.1 _ (j5 ..));obtain⟨D,c,e⟩:=oL d.o
 dsimp only at e d
 subst e H;have E:=o (RZ w D c l n (Zv.of d.o) z);have q:=o h;obtain⟨N,F⟩:=ad l.length;have O:=o F;rw[F]at z E d q ⊢;go_enter func182,ntmps182;go_wp2_with fail;refine CV E.o ?_;have P:¬(n:Int)<0:=az
 cases x:Us l (n:Int)with
 |true=>
  have Q:=o ((Ud l n).1 x);go_wp2;go_ret;exact⟨_,l,rfl,q.o,z6 ⟨rfl,fun _=>Q.o⟩,Zo⟩
 |false=>
  by_cases f:n<=m
  ·have i:=ai m n
   go_wp2_with (at_builtin;refine ao b Y9 underlying25 (G D N c) N (Zg l) ?a1 ⟨w.heap.size,0,Z⟩ [I V (n:Nat)] ?a2 ?_)
   case a1=>exact d.o.alloc _
   case a2=>exact k6 (aN w (z5 #[I V (n:Nat)] 3))
   intro g R U j a y _;have p:=o (q.o.grow (Zo.alloc _) a (l':=l++[n]) (by rw[X6,lA,O.o];exact j) (y.imp id az));go_wp2;go_ret;exact⟨_,_,rfl,p.o.1,C ⟨rfl,f⟩,p.o.2⟩
  have i:=af m n;go_wp2;go_ret;exact⟨_,l,rfl,q.o,z6 ⟨rfl,fun h=>absurd h f⟩,Zo⟩
def Q0 (a b:List Nat):Bool:=a.any (fun x=>Us b (x:Int))||(a.isEmpty||b.isEmpty)
def CW (a b):Q0 a b=true↔a=[]\/b=[]\/∃x,x∈a/\x∈b:=by
 simp only[Q0,l0,List.any_eq_true,Ud,List.isEmpty_iff]
 constructor
 ·rintro(h|h|h)
  ·exact C (C h)
  ·exact z6 h
  exact C (z6 h)
 rintro(h|h|h)
 ·exact C (z6 h)
 ·exact C (C h)
 exact z6 h
def Nm (w a n c v l b)(h:Zv w a l)(p:Zv w n b)(F:l.length<=4000)(d:b.length<=4000):
  j0 L 138 #[G a l.length c,G n b.length v] w fun e H=>e=z4 (z8 (Q0 l b))/\H=w:=by
 have J:=o h;have y:=o (fun x:Nat=>RZ w n v b x p d);obtain⟨m,z⟩:=ad l.length;have r:=o z;obtain⟨s,f⟩:=ad b.length;have t:=o f;rw[z]at F ⊢;rw[f]at d y ⊢;go_enter func138,ntmps138;go_wp2
 go_loopg [5] m (fun q i wr=>∃k:Nat,k<=m/\q=m-k/\i=I V k/\wr=w/\O (l.any (fun x=>Us b (x:Int))=(l.drop k).any fun x=>Us b (x:Int)))
 case atStart=>exact⟨0,q8 _,rfl,rfl,rfl,rfl⟩
 obtain⟨k,P,rfl,rfl,rfl,A⟩:=hrel;by_cases K:k<m
 ·have u:=af k m;obtain⟨x,B⟩:∃x,l[k]?=Y x:=⟨_,gE (aj r.o)⟩;obtain⟨g,rfl,Q⟩:=J.o k x B
  have j:O (l.any (fun x=>Us b (x:Int))=(Us b (x:Int)||(l.drop (k+1)).any fun x=>Us b (x:Int))):=by
   obtain⟨M,p⟩:=iG.1 B
   show _=_;rw[A.o,dC M,p,n6]
  go_wp2_with fail;refine CV (y.o x) ?_
  cases C:Us b (x:Int)with
  |true=>
   rw[C,b6]at j;go_wp2;go_ret;exact⟨by rw[Q0,j.o,b6];rfl,rfl⟩
  |false=>
   rw[C,g8]at j;go_wp2;go_roundg (m-(k+1))
   case measure=>omega
   exact⟨k+1,az,rfl,aE,rfl,j⟩
 have u:=ai k m
 have D:O (Q0 l b=(decide (m=0)||decide (s=0))):=by
  show _=_;rw[Q0,A.o,dL (aj r.o),<-r.o,<-t.o]
  cases l<;>cases b<;>rfl
 by_cases E:m=0
 ·subst E;have N:=D.o;go_wp2;go_ret;exact⟨rfl,rfl⟩
 have N:((m:Int)==0)=false:=aF
 have R:Q0 l b=((s:Int)==0):=by
  rw[D.o,decide_eq_false E,g8];by_cases h:s=0
  ·subst h;rfl
  rw[decide_eq_false h];symm;simp;omega
 go_wp2;go_ret;exact⟨rfl,rfl⟩
def DG {S w W o}(h:w.alloc o=W):Fr S w W:=h▸Zo.alloc _
def zM {w W:j7}{o}(h:w.alloc o=W):W.heap[w.heap.size]?=Y o:=h▸aN w _
def sW {w:j7}{g o r a b c d e f}(h:∀j v,(qz r a d b e c f)[j]?=Y v->w.cell? ⟨g,o+j,Z⟩=Y v):
  w.cell? ⟨g,o,Z⟩=Y (U r.name)/\w.cell? ⟨g,o+1,Z⟩=Y (I V (r.rank:Nat))/\w.cell? ⟨g,o+2,Z⟩=Y (I V (r.digits:Nat))/\w.cell? ⟨g,o+3,Z⟩=Y (I V (r.lo:Nat))/\w.cell? ⟨g,o+4,Z⟩=Y (I V (r.hi:Nat))/\w.cell? ⟨g,o+5,Z⟩=Y (G a r.mcc.length d)/\w.cell? ⟨g,o+6,Z⟩=Y (G b r.cur.length e)/\w.cell? ⟨g,o+7,Z⟩=Y (z8 r.am.isSome)/\w.cell? ⟨g,o+8,Z⟩=Y (I V ((r.am.getD (0,0)).1:Nat))/\w.cell? ⟨g,o+9,Z⟩=Y (I V ((r.am.getD (0,0)).2:Nat))/\w.cell? ⟨g,o+10,Z⟩=Y (G c r.routes.length f)/\w.cell? ⟨g,o+11,Z⟩=Y (z8 r.decline)/\w.cell? ⟨g,o+12,Z⟩=Y (z8 r.cheapest):=
 ⟨h 0 _ rfl,h 1 _ rfl,h 2 _ rfl,h 3 _ rfl,h 4 _ rfl,h 5 _ rfl,h 6 _ rfl,h 7 _ rfl,h 8 _ rfl,h 9 _ rfl,h 10 _ rfl,h 11 _ rfl,h 12 _ rfl⟩
def sL (r:Ze):Nat:=r.lo*10^(6-r.digits)
def sH (r:Ze):Nat:=(r.hi+1)*10^(6-r.digits)
def aL (r:Ze):Nat:=(r.am.getD (0,1000000000)).1
def aH (r:Ze):Nat:=(r.am.getD (0,1000000000)).2
def LT {n r}(h:Ts n r):sL r<=1000000/\sH r<=1000000:=by
 obtain⟨a,b,c⟩:=h.bn
 have e:10^r.digits*10^(6-r.digits)=1000000:=by rw[<-Nat.pow_add,show r.digits+(6-r.digits)=6 from z]
 exact⟨e▸n5 _ z,e▸n5 _ z⟩
def sX (r s:Ze):Bool:=decide (max (sL r) (sL s)<min (sH r) (sH s))&&(Q0 r.mcc s.mcc&&(Q0 r.cur s.cur&&decide (max (aL r) (aL s)<=min (aH r) (aH s))))
def IZ (w q H R i k r s)(h:TV w q H R)(J:Yh H R)(hi:R[i]?=Y r)(hk:R[k]?=Y s):
  j0 L 85 #[z9 (Y ⟨q,0,Z⟩),I V (i:Nat),I V (k:Nat)] w fun e w'=>e=z4 (z8 (sX r s))/\F0 w w':=by
 obtain⟨la,lc,K,h3⟩:=h.c2;obtain⟨g,ma,mc,ca,cc,pa,pc,rfl,hc,hm,hu,_⟩:=h3 i r hi;obtain⟨g',M,a0,N,b0,l0,m0,e,c0,d0,e0,_⟩:=h3 k s hk;injection e with e;injection e with e _ _;subst e;have n0:(i:Int)<(R.length:Int):=aj (iG.1 hi).1;have o0:(k:Int)<(R.length:Int):=aj (iG.1 hk).1;have f:=Za (J.rl r (mG hi));have y:=Za (J.rl s (mG hk));obtain⟨v0,v1,v2,v3,v4,v5,v6,v7,v8,v9,f0,g0,h0⟩:=sW hc;have HC:=Za c0;have HM:=Za (And.intro hm (And.intro hu (And.intro d0 e0)));have H2:=Za K;go_enter func85,ntmps85;go_upto_region 2 with fail;generalize P:w.alloc _=W1 at*;have Q:O (F0 w W1):=DG P;have i0:=Za (zM P)
 have kk:∀{X o:Nat}{v:k9},w.cell? ⟨X,o,Z⟩=Y v->W1.cell? ⟨X,o,Z⟩=Y v:=fun{X o v} hv=>(Q.o.cell (p:=⟨X,o,Z⟩) (bL w _ hv)).trans hv
 have p0:=kk H2.o
 obtain⟨v0,v1,v2,v3,v4,v5,v6,v7,v8,v9,f0,g0,h0⟩:=sW fun j v e=>kk (HC.o j v e)
 go_upto_region 3 with fail;generalize P:W1.alloc _=x at*;have S:O (F0 W1 x):=DG P;have l:=Za (zM P);have m:=Za (S.o.whole i0.o);have C:=Za (Q.o.trans S.o);have z:O (Zv x ma r.mcc/\Zv x ca r.cur/\Zv x M s.mcc/\Zv x N s.cur):=⟨HM.o.1.fr C.o,HM.o.2.1.fr C.o,HM.o.2.2.1.fr C.o,HM.o.2.2.2.fr C.o⟩;have x2:=Zc m.o 2;have x3:=Zc m.o 3;have x4:=Zc m.o 4;have x5:=Zc m.o 5;have x6:=Zc m.o 6;have x7:=Zc m.o 7;have x8:=Zc m.o 8;have x9:=Zc m.o 9;have y2:=Zc l.o 2;have y3:=Zc l.o 3;have y4:=Zc l.o 4;have y5:=Zc l.o 5;have y6:=Zc l.o 6;have y7:=Zc l.o 7;have y8:=Zc l.o 8;have y9:=Zc l.o 9;have dr:=f.o.bn.1;have ds:=y.o.bn.1;have br:r.lo<=1000000000/\r.hi<=1000000000:=⟨aj f.o.lo.1,aj f.o.hi.1⟩;have bs:s.lo<=1000000000/\s.hi<=1000000000:=⟨aj y.o.lo.1,aj y.o.hi.1⟩;obtain⟨q0,r0⟩:=br;obtain⟨s0,t0⟩:=bs;have S1:=Za (R4 r.lo r.digits _ x dr rfl (LT f.o).1);have S2:=Za (R4 (r.hi+1) r.digits _ x dr rfl (LT f.o).2);have S3:=Za (R4 s.lo s.digits _ x ds rfl (LT y.o).1);have S4:=Za (R4 (s.hi+1) s.digits _ x ds rfl (LT y.o).2);have S5:=Za (Nm x ma M mc a0 _ _ z.o.1 z.o.2.2.1 f.o.mc.1 y.o.mc.1);have S6:=Za (Nm x ca N cc b0 _ _ z.o.2.1 z.o.2.2.2 f.o.cu.1 y.o.cu.1);obtain⟨a,ha⟩:=ad (r.lo*10^(6-r.digits));obtain⟨b,J⟩:=ad ((r.hi+1)*10^(6-r.digits));obtain⟨c,hc⟩:=ad (s.lo*10^(6-s.digits));obtain⟨d,hd⟩:=ad ((s.hi+1)*10^(6-s.digits));rw[ha]at S1;rw[J]at S2;rw[hc]at S3;rw[hd]at S4
 have t:O (sX r s=(decide (max a c<min b d)&&(Q0 r.mcc s.mcc&&(Q0 r.cur s.cur&&decide (max (aL r) (aL s)<=min (aH r) (aH s)))))):=by show _=_;rw[sX,sL,sL,sH,sH,ha,J,hc,hd]
 have HA:O (r.am.isSome=true->aL r=(r.am.getD (0,0)).1/\aH r=(r.am.getD (0,0)).2):=by show _->_;unfold aL aH;cases r.am<;>simp
 have U:O (r.am.isSome=false->aL r=0/\aH r=1000000000):=by show _->_;unfold aL aH;cases r.am<;>simp
 have HB:O (s.am.isSome=true->aL s=(s.am.getD (0,0)).1/\aH s=(s.am.getD (0,0)).2):=by show _->_;unfold aL aH;cases s.am<;>simp
 have W:O (s.am.isSome=false->aL s=0/\aH s=1000000000):=by show _->_;unfold aL aH;cases s.am<;>simp
 have HH:O (aH r<=1000000000):=by
  show _<=_
  unfold aH
  cases e:r.am with
  |none=>simp
  |some ab=>have:=f.o.am ab e;simp;omega
 generalize(s.am.getD (0,0)).1=sl at*;generalize(s.am.getD (0,0)).2=sh at*;generalize(r.am.getD (0,0)).1=rl at*;generalize(r.am.getD (0,0)).2=rh at*;generalize r.am.isSome=ra at*;generalize s.am.isSome=sa at*
 have e1:∀n:Nat,((n+1:Nat):Int)=(n:Int)+1:=fun n=>az
 rw[e1]at S2 S4;go_wp2_with fail;refine CV S1.o ?_;go_wp2_with fail;refine CV S2.o ?_;go_wp2_with fail;refine CV S3.o ?_
 go_upto_if 46 with fail
 go_cut [9] (fun u A=>u=I V ((max a c:Nat):Int)/\x=A)
 case first=>
  by_cases D:a<c
  ·have E:=af a c;go_wp2_with fail;refine CV S3.o ?_;go_wp2;go_meet;exact⟨by rw[s7 az],rfl⟩
  have E:=ai a c;go_wp2;go_meet;exact⟨by rw[m6 az],rfl⟩
 obtain⟨rfl,rfl⟩:=hcut;generalize max a c=F at*;go_wp2_with fail;refine CV S4.o ?_
 go_upto_if 59 with fail
 go_cut [10] (fun u A=>u=I V ((min b d:Nat):Int)/\x=A)
 case first=>
  by_cases D:d<b
  ·have E:=af d b;go_wp2_with fail;refine CV S4.o ?_;go_wp2;go_meet;exact⟨by rw[s8 az],rfl⟩
  have E:=ai d b;go_wp2;go_meet;exact⟨by rw[j8 az],rfl⟩
 obtain⟨rfl,rfl⟩:=hcut;generalize min b d=T at*;go_wp2_with fail;refine CV S5.o ?_;go_wp2_with fail;refine CV S6.o ?_
 go_upto_if 77 with fail
 go_cut [13,14] (fun u v A=>u=I V ((aL r:Nat):Int)/\v=I V ((aH r:Nat):Int)/\x=A)
 case first=>
  cases ra with
  |true=>
   go_wp2;go_meet;exact⟨by rw[(HA.o aA).1],by rw[(HA.o aA).2],rfl⟩
  |false=>
   go_wp2;go_meet;exact⟨by rw[(U.o aA).1];rfl,by rw[(U.o aA).2];rfl,rfl⟩
 obtain⟨rfl,rfl,rfl⟩:=hcut;generalize aL r=G at*;generalize aH r=B at*
 cases sa
 case' false=>
  rw[(W.o rfl).1,(W.o rfl).2,m6 (q8 _),j8 HH.o]at t;go_upto_region 20 with fail;obtain⟨l2,rfl⟩:=ae G;obtain⟨K,rfl⟩:=ae B
 case' true=>
  rw[(HB.o rfl).1,(HB.o rfl).2]at t
  go_upto_if 89 with fail
  go_cut [13] (fun u A=>u=I V ((max G sl:Nat):Int)/\x=A)
  case first=>
   by_cases D:G<sl
   ·have E:=af G sl;go_wp2;go_meet;exact⟨by rw[s7 az],rfl⟩
   have E:=ai G sl;go_wp2;go_meet;exact⟨by rw[m6 az],rfl⟩
  case' rest=>
   obtain⟨rfl,rfl⟩:=hcut;generalize max G sl=l2 at*
   go_upto_if 99 with fail
   go_cut [14] (fun u A=>u=I V ((min B sh:Nat):Int)/\x=A)
   case first=>
    by_cases D:sh<B
    ·have E:=af sh B;go_wp2;go_meet;exact⟨by rw[s8 az],rfl⟩
    have E:=ai sh B;go_wp2;go_meet;exact⟨by rw[j8 az],rfl⟩
   case' rest=>
    obtain⟨rfl,rfl⟩:=hcut;generalize min B sh=K at*
 all_goals
  by_cases B:F<T
  ·have k0:=af F T;rw[decide_eq_true B,g9]at t;generalize Q0 r.mcc s.mcc=c1 at*;generalize Q0 r.cur s.cur=c2 at*
   cases c1 with
   |false=>
    go_wp2;go_ret;exact⟨by rw[t.o];rfl,C.o⟩
   |true=>
    cases c2 with
    |false=>
     go_wp2;go_ret;exact⟨by rw[t.o];rfl,C.o⟩
    |true=>
     go_wp2;go_ret;exact⟨by rw[t.o];rfl,C.o⟩
  have k0:=ai F T;rw[decide_eq_false B,l9]at t;go_wp2;go_ret;exact⟨by rw[t.o];rfl,C.o⟩
def DH {l:List Nat}(a:0∈l):∀c,∃b,b∈l/\b<=c/\∀x,x∈l->x<=c->x<=b
 |0=>⟨0,a,z3 _,fun _ _ h=>h⟩
 |c+1=>by
  by_cases h:c+1∈l
  ·exact⟨c+1,h,z3 _,fun _ _ h=>h⟩
  obtain⟨b,f,i,g⟩:=DH a c;exact⟨b,f,z,fun x d j=>g x d (by have:x≠c+1:=fun e=>h (e▸d);omega)⟩
def Nd (l:List Nat)(m n:Nat)(Q:Nat->Prop):Prop:=(∀x,x∈l->x<=m)/\l.length<=n/\∀x,Q x->x<=m->x∈l
def Nd.more {l l' m n x Q}(h:Nd l m n Q)(g:l'=l/\(x<=m->x∈l)\/l'=l++[x]/\x<=m):Nd l' m (n+1) fun y=>Q y\/y=x:=by
 obtain⟨c,i,d⟩:=h;rcases g with⟨rfl,f⟩|⟨rfl,f⟩
 ·exact⟨c,z,fun y a b=>a.elim (fun h=>d y h b) fun e=>e▸f (e▸b)⟩
 refine⟨fun y a=>?_,aF,fun y a b=>?_⟩
 ·rcases h7.1 a with h|h
  ·exact c y h
  simp at h;omega
 rcases a with h|h
 ·exact List.mem_append_left _ (d y h b)
 simp[h]
def Nd.weak {l m n a Q Q'}(h:Nd l m n Q)(b:n<=a)(c:∀x,Q' x->Q x):Nd l m a Q':=⟨h.1,j1 h.2.1 b,fun x d=>h.2.2 x (c x d)⟩
def ur {r c}:(decide (r.lo<=c/10^(6-r.digits))&&decide (c/10^(6-r.digits)<=r.hi))=(decide (sL r<=c)&&decide (c<sH r)):=by
 have a:0<10^(6-r.digits):=i1 aB;rw[sL,sH,decide_eq_decide.2 (Nat.le_div_iff_mul_le a),decide_eq_decide.2 (show c/10^(6-r.digits)<=r.hi↔_ from Nat.lt_succ_iff.symm.trans (Nat.div_lt_iff_lt_mul a))]
def UA (r p):Uc r p=((decide (sL r<=Zw p.pan)&&decide (Zw p.pan<sH r))&&Uf r p):=by rw[Uc,<-Bool.and_assoc,ur]
structure xV (R:List Ze)(bs ms am cs:List Nat):Prop where
 b:∃n,Nd bs 999999 n fun x=>x=0\/∃r,r∈R/\(x=sL r\/x=sH r)
 a:∃n,Nd am 1000000000 n fun x=>x=0\/∃r,r∈R/\∃ab,r.am=Y ab/\(x=ab.1\/x=ab.2+1)
 m:(∃o,o∈ms/\∀r,r∈R->o∉r.mcc)/\∃n,Nd ms 9999 n fun x=>∃r,r∈R/\x∈r.mcc
 c:(∃o,o∈cs/\∀r,r∈R->o∉r.cur)/\∃n,Nd cs 999 n fun x=>∃r,r∈R/\x∈r.cur
def tD {R:List Ze}{f:Ze->List Nat}{l M}(h:(∃o,o∈l/\∀r,r∈R->o∉f r)/\∃n,Nd l M n fun x=>∃r,r∈R/\x∈f r){n:Int}(c:0<=n)(i:n<=M):∃x,x∈l/\∀r,r∈R->Us (f r) (x:Int)=Us (f r) n:=by
 obtain⟨⟨o,d,e⟩,k,j,m,g⟩:=h;obtain⟨y,rfl⟩:=m0 c;by_cases a:∃r,r∈R/\y∈f r
 ·exact⟨y,g y a z,fun _ _=>rfl⟩
 refine⟨o,d,fun r b=>?_⟩;rw[k8,Ud,Ud];exact⟨fun h=>absurd h (e r b),fun h=>absurd ⟨r,b,h⟩ a⟩
def xV.cover {R bs w y z}(h:xV R bs w y z){p}(n:YD p=true):
  ∃b m a c,b∈bs/\m∈w/\a∈y/\c∈z/\∀d:XQ,Zw d.pan=b->d.mcc=(m:Int)->d.am=(a:Int)->d.cur=(c:Int)->∀r,r∈R->Uc r d=Uc r p:=by
 rw[XH]at n;simp only[j4,V3,decide_eq_true_eq]at n;obtain⟨A,⟨B,D⟩,⟨E,V⟩,F,G⟩:=n;obtain⟨_,W,_,o⟩:=h.b;obtain⟨_,X,_,q⟩:=h.a;obtain⟨x,s⟩:=m0 E;have Y:=Iw A;obtain⟨b,H,I,k⟩:=DH (o 0 (z6 rfl) aB) (Zw p.pan);obtain⟨a,J,K,l⟩:=DH (q 0 (z6 rfl) aB) x;obtain⟨m,L,t⟩:=tD (f:=Ze.mcc) h.m B D;obtain⟨c,u,v⟩:=tD (f:=Ze.cur) h.c F G;refine⟨b,m,a,c,H,L,J,u,fun d M N O P r i=>?_⟩;rw[UA,UA,Uf,Uf,M,N,P,t r i,v r i]
 have Q:(decide (sL r<=b)&&decide (b<sH r))=(decide (sL r<=Zw p.pan)&&decide (Zw p.pan<sH r)):=by
  have S:sL r<=Zw p.pan->sL r<=b:=fun g=>k _ (o _ (C ⟨r,i,z6 rfl⟩) az) g
  have T:sH r<=Zw p.pan->sH r<=b:=fun g=>k _ (o _ (C ⟨r,i,C rfl⟩) az) g
  rw[k8];simp only[j4,decide_eq_true_eq];omega
 have U:MW r d=MW r p:=by
  unfold MW
  cases e:r.am with
  |none=>rfl
  |some j=>
   have S:j.1<=x->j.1<=a:=fun g=>l _ (q _ (C ⟨r,i,j,e,z6 rfl⟩) az) g
   have T:j.2+1<=x->j.2+1<=a:=fun g=>l _ (q _ (C ⟨r,i,j,e,C rfl⟩) az) g
   dsimp only
   rw[O,s,k8];simp only[j4,decide_eq_true_eq];omega
 rw[Q,U]
def ut (R:List Ze)(S:List XQ):Prop:=S.length<=400000/\(∀p,p∈S->YD p=true)/\∀p,YD p=true->∃a,a∈S/\∀r,r∈R->Uc r a=Uc r p
def X3 (S:List XQ):List k9:=S.flatMap fun p=>[U p.pan,I V p.mcc,I V p.am,I V p.cur]
def Q4 (R:List Ze)(p:XQ):Option Nat:=YC (Zu R) (YN R p (Zw p.pan)) R.length
def Nn {a:Nat->Nat}{f g:Nat->Bool}:∀n,(∀i,i<n->f i=g i)->YC a f n=YC a g n
 |0,_=>rfl
 |n+1,h=>by
  unfold YC;rw[Nn n fun i b=>h i z,h n z]
def ut.best {R S}(h:ut R S)(k):(∃p,p∈S/\Q4 R p=Y k)↔∃p,YD p=true/\Q4 R p=Y k:=by
 refine⟨fun⟨p,a,e⟩=>⟨p,h.2.1 p a,e⟩,fun⟨p,a,e⟩=>?_⟩;obtain⟨c,d,f⟩:=h.2.2 p a;refine⟨c,d,?_⟩;rw[<-e];unfold Q4
 refine Nn _ fun i b=>?_
 rw[TH R c i _ (gE b),TH R p i _ (gE b)];exact f _ (b7 b)
def xW {w:j7}{b g x}(a:b<=g)(h:w.heap[g]?=Y (z5 #[I V (x:Nat)] 3)):w.ownsRow b 3 1 (G (Y ⟨g,0,Z⟩) 1 1) 1 (Zg [x]):=
 ⟨rfl,.inr ⟨g,1,_,rfl,a,h,z3 _,by unfold maxLen;simp,y,by simp[Zg]⟩⟩
def xX {w:j7}{b g}(a:b<=g)(h:w.heap[g]?=Y (z5 #[] 3)):w.ownsRow b 3 1 (G (Y ⟨g,0,Z⟩) 0 0) 0 (Zg []):=
 ⟨rfl,.inr ⟨g,0,_,rfl,a,h,z3 _,by unfold maxLen;simp,y,by simp[Zg]⟩⟩
def P2 {α}{R:List α}{i r x}(h:R[i]?=Y r)(a:x∈R.take (i+1)):x∈R.take i\/x=r:=by
 rw[j9,h]at a
 simpa using a
def DI {w W:j7}{o a}{g:Nat}(h:w.alloc o=W)(b:w.heap[g]?=Y a):W.heap[g]?=Y a:=(DG (S:=fun _=>False) h).whole b
def qA {w W:j7}{o}(h:w.alloc o=W):W.heap.size=w.heap.size+1:=by rw[<-h];simp
def pL (R:List Ze)(b c d e:List Nat)(n:Nat):Prop:=
 Nd b 999999 (1+2*n) (fun x=>x=0\/∃r,r∈R/\(x=sL r\/x=sH r))/\Nd c 9999 (4*n) (fun x=>∃r,r∈R/\x∈r.mcc)/\Nd d 999 (4*n) (fun x=>∃r,r∈R/\x∈r.cur)/\Nd e 1000000000 (1+2*n) fun x=>x=0\/∃r,r∈R/\∃a,r.am=Y a/\(x=a.1\/x=a.2+1)
structure xY (w:j7)(X:Nat)(r:Ze)(ma:Option Addr)(mc:Nat)(ca:Option Addr)(cc:Nat)(pa:Option Addr)(pc:Nat)(W:j7)(ps:List (k9×List Nat)):Prop where
 rs:Rs W w.heap.size ps
 bx:W.heap[X]?=Y (z5 (qz r ma mc ca cc pa pc).toArray 170)
 fr:F0 w W
def xY.rot {w W X r a b c d e f p g}(h:xY w X r a b c d e f W (p::g)):xY w X r a b c d e f W (g++[p]):=⟨h.rs.rot,h.bx,h.fr⟩
def xY.with {w W X r c d f g i j v l b}(h:xY w X r c d f g i j W ((v,l)::b)){n m N Q}(o:Nd l m N Q)(s:N<=4000)(t:n<=10000000000)(M:Int)(u:M=(m:Nat)):
  j0 L 182 #[v,I V (n:Nat),I V M] W fun e w'=>∃a l',e=z4 a/\xY w X r c d f g i j w' ((a,l')::b)/\Nd l' m (N+1) fun y=>Q y\/y=n:=by
 refine(zg W _ v l b n m M u h.rs (j1 o.2.1 s) t h.fr.size).mono ?_;rintro _ w' ⟨a,l',rfl,x,z,p⟩;have q:=h.rs.1 _ (j5 ..);exact⟨a,l',rfl,⟨x,p.whole h.bx (oN q h.bx aB),h.fr.monoNew p fun k A=>C (q.lt k A).1⟩,o.more z⟩
def xY.cells {w W X r a b c d e f g}(h:xY w X r a b c d e f W g):W.cell? ⟨X,2,Z⟩=Y (I V (r.digits:Nat))/\W.cell? ⟨X,3,Z⟩=Y (I V (r.lo:Nat))/\W.cell? ⟨X,4,Z⟩=Y (I V (r.hi:Nat))/\W.cell? ⟨X,5,Z⟩=Y (G a r.mcc.length b)/\W.cell? ⟨X,6,Z⟩=Y (G c r.cur.length d)/\W.cell? ⟨X,7,Z⟩=Y (z8 r.am.isSome)/\W.cell? ⟨X,8,Z⟩=Y (I V ((r.am.getD (0,0)).1:Nat))/\W.cell? ⟨X,9,Z⟩=Y (I V ((r.am.getD (0,0)).2:Nat)):=
 ⟨Zc h.bx 2,Zc h.bx 3,Zc h.bx 4,Zc h.bx 5,Zc h.bx 6,Zc h.bx 7,Zc h.bx 8,Zc h.bx 9⟩
def qe (x k:Nat):UInt8:=UInt8.ofNat (48+x/10^k % 10)
def zh (x:Nat):Nat->List UInt8
 |0=>[]
 |k+1=>qe x k::zh x k
def NW (x:Nat):∀j,(zh x j).length=j
 |0=>rfl
 |j+1=>by rw[zh,List.length_cons,NW x j]
def KJ (x:Nat):ByteArray:=⟨(zh x 6).toArray⟩
def I0 (x k):(qe x k).toNat=48+x/10^k % 10:=by
 have:x/10^k % 10<10:=Nat.mod_lt _ aB;rw[qe,UInt8.toNat_ofNat'];omega
def LU {x}(h:x<=999999):X0 (KJ x)=true/\Zw (KJ x)=x:=by
 refine⟨?_,?_⟩
 ·simp only[X0,KJ,zh,List.all_cons,List.all_nil,I0,ByteArray.size,j4,decide_eq_true_eq];simp;omega
 simp only[Zw,KJ,zh,ZA,List.take_succ_cons,List.take_nil,List.foldl_cons,List.foldl_nil,I0];simp;omega
def Rf (x y z u:Nat):XQ:=⟨KJ x,(y:Nat),(z:Nat),(u:Nat)⟩
structure JJ (w:j7)(ps:List (k9×List Nat))(v:k9)(S:List XQ)(n:Nat)(W:j7):Prop where
 rs:Rs W w.heap.size ps
 ou:W.ownsRow w.heap.size 35 4 v S.length (X3 S)
 fr:F0 w W
 le:S.length<=n
def JJ.keep {w W b c v S n}(h:JJ w c v S n W)(a:F0 W b):JJ w c v S n b:=⟨h.rs.fr a,oF h.ou a,h.fr.trans a,h.le⟩
def JJ.re {w W a v S S' n b}(h:JJ w a v S n W)(e:S=S')(c:n<=b):JJ w a v S' b W:=by subst e;exact⟨h.rs,h.ou,h.fr,j1 h.le c⟩
def JJ.at {w W b v S n}(h:JJ w b v S n W){a c l}(d:(j3 a l.length c,l)∈b){k x}(e:l[k]?=Y x):∃g,a=Y ⟨g,0,Z⟩/\W.cell? ⟨g,k,Z⟩=Y (I V (x:Nat)):=Zv.of (h.rs.1 _ d) k x e
def JJ.get {w W a v S n}(h:JJ w a v S n W){g c l}(b:(j3 (Y ⟨g,0,Z⟩) l.length c,l)∈a){k x}(d:l[k]?=Y x):W.cell? ⟨g,k,Z⟩=Y (I V (x:Nat)):=by
 obtain⟨f,e,h⟩:=h.at b d;injection e with e;injection e with e;subst e;exact h
def JJ.more {w W b i v S n g m c p o}(h:JJ w i v S n W)(l:(W.alloc o).grownBy b v.ownBlock)(r:b.ownsRow w.heap.size 35 4 (G (Y ⟨g,0,Z⟩) m c) (S.length+1) (X3 S++[U p.pan,I V p.mcc,I V p.am,I V p.cur])):JJ w i (G (Y ⟨g,0,Z⟩) m c) (S++[p]) (n+1) b:=by
 have f:=((Fr.refl (fun k=>v.ownBlock=Y k) W).alloc o).grown l (fun k a=>z6 a);refine⟨⟨fun q j=>oA (h.rs.1 q j) f (fun k a e=>?_),h.rs.2⟩,?_,h.fr.monoNew f fun k a=>C (h.ou.lt k a).1,by have:=h.le;simp;omega⟩
 ·rcases WP (h.rs.1 q j) h.ou aB with d|d
  ·rw[d]at a;cases a
  exact d (a.trans e.symm)
 rw[lA,X3,n8]
 simpa[X3]using r
def OO {α β}{l:List α}{k x}(h:l[k]?=Y x)(f:α->List β):(l.take (k+1)).flatMap f=(l.take k).flatMap f++f x:=by
 rw[j9,h,n8];simp
def xV.st {R f g i j}(h:xV R f g i j)(n:(f.flatMap fun x=>g.flatMap fun y=>i.flatMap fun z=>j.map (Rf x y z)).length<=400000):ut R (f.flatMap fun x=>g.flatMap fun y=>i.flatMap fun z=>j.map (Rf x y z)):=by
 obtain⟨_,k,_⟩:=h.b;obtain⟨_,o,_⟩:=h.a;obtain⟨_,_,q,_⟩:=h.m;obtain⟨_,_,r,_⟩:=h.c;refine⟨n,fun p e=>?_,fun p e=>?_⟩
 ·simp only[s9,e9]at e;obtain⟨x,s,y,t,z,v,u,w,rfl⟩:=e;have:=q y t;have:=o z v;have:=r u w;rw[XH,Rf,(LU (k x s)).1];simp[V3];omega
 obtain⟨b,m,a,c,l,A,B,C,d⟩:=h.cover e;exact⟨Rf b m a c,by simp only[s9,e9];exact⟨b,l,m,A,a,B,c,C,rfl⟩,d _ (LU (k b l)).2 rfl rfl rfl⟩
def zi (m:Nat)(h:m<10):i2.wrap (48+(m:Int))=(48+(m:Int)):=by
 have:m=0\/m=1\/m=2\/m=3\/m=4\/m=5\/m=6\/m=7\/m=8\/m=9:=z
 rcases this with rfl|rfl|rfl|rfl|rfl|rfl|rfl|rfl|rfl|rfl<;>decide
def QA:(L.info? 35).map (fun i=>(i.zero,i.size,i.bytes))=Y (Y (m7 #[U z7,I V 0,I V 0,I V 0]),4,40):=n
def Fm (l:List Nat)(o:Nat):Nat:=(l.filter fun x=>decide (o<=x)).length
def Fo (x r o):Fm (x::r) o=(if o<=x then 1 else 0)+Fm r o:=by
 unfold Fm;rw[List.filter_cons]
 split<;>simp_all<;>omega
def xZ (l o):Fm l (o+1)<=Fm l o/\(o∈l->Fm l (o+1)<Fm l o):=by
 induction l with
 |nil=>exact⟨z3 _,fun h=>by cases h⟩
 |cons x r a=>
  obtain⟨c,b⟩:=a;rw[Fo,Fo];refine⟨by split<;>split<;>omega,fun h=>?_⟩;rcases b0.1 h with rfl|h
  ·rw[if_pos (z3 _),if_neg z];omega
  have:=b h;split<;>split<;>omega
def Fp (w q J0 R)(h:TV w q J0 R)(hb:Yh J0 R)(ha:∀r,r∈R->r.mcc.length<=4/\r.cur.length<=4):
  j0 L 141 #[z9 (Y ⟨q,0,Z⟩)] w fun e w'=>(∃v S,e=z4 v/\w'.ownsRow w.heap.size 35 4 v S.length (X3 S)/\ut R S)/\F0 w w':=by
 have D1:=l hb;have HA:=l ha;have E1:=hb.l8;obtain⟨ij,F1,G1,H1,I1⟩:=info_parts QA;obtain⟨la,lc,O0,h3⟩:=h.c2;have H3:=l h3;obtain⟨N,hN⟩:=ad R.length;have HN:=l hN;rw[hN]at E1 O0;have H2:=l O0;go_enter func141,ntmps141;go_wp2_with fail;generalize hA:w.alloc _=A1;generalize hB:A1.alloc _=A2;generalize hC:A2.alloc _=A3;generalize hD:A3.alloc _=A4;have s1:=qA hA;have s2:=qA hB;have s3:=qA hC
 have J1:O (Rs A4 w.heap.size [(G (Y ⟨w.heap.size,0,Z⟩) 1 1,[0]),(G (Y ⟨w.heap.size+1,0,Z⟩) 0 0,[]),(G (Y ⟨w.heap.size+1+1,0,Z⟩) 0 0,[]),(G (Y ⟨w.heap.size+1+1+1,0,Z⟩) 1 1,[0])]):=by
  have e2:=zM hB;have e3:=zM hC;have e4:=zM hD;rw[s1]at e2;rw[s2,s1]at e3;rw[s3,s2,s1]at e4;refine⟨fun p hp=>?_,by simp[a0];omega⟩;simp only[b0,List.not_mem_nil,or_false]at hp;rcases hp with rfl|rfl|rfl|rfl
  ·exact xW (z3 _) (DI hD (DI hC (DI hB (zM hA))))
  ·exact xX az (DI hD (DI hC e2))
  ·exact xX az (DI hD e3)
  exact xW az e4
 have K1:O (F0 w A4):=(((DG hA).trans (DG hB)).trans (DG hC)).trans (DG hD)
 go_loopg [3,4,5,6,7] N (fun m b1 m1 c1 a1 iv wr=>∃i H M J s,i<=N/\m=N-i/\iv=I V (i:Nat)/\O (Rs wr w.heap.size [(b1,H),(m1,M),(c1,J),(a1,s)])/\O (pL (R.take i) H M J s i)/\O (F0 w wr))
 case atStart=>exact⟨0,[0],[],[],[0],az,rfl,rfl,J1,by simp[pL,Nd,l],K1⟩
 obtain⟨i,H,M,J,s,hi,rfl,rfl,HR,HS,B⟩:=hrel;have D:=B.o.get H2.o;by_cases r3:i<N
 ·have L1:=af i N;obtain⟨r,hr⟩:∃r,R[i]?=Y r:=⟨_,gE (aj HN.o)⟩;obtain⟨g,ma,mc,ca,cc,pa,pc,rfl,hc,hm,hu,_⟩:=H3.o i r hr;have c0:=l (D1.o.rl r (mG hr));have P0:=l (HA.o r (mG hr));have n0:=l (fun x=>@P2 _ R i r x hr);have dr:=c0.o.bn.1;have t3:r.lo<=1000000000:=aj c0.o.lo.1;have x3:r.hi<=1000000000:=aj c0.o.hi.1
  obtain⟨v0,v1,v2,v3,v4,v5,v6,v7,v8,v9,B3,C3,D3⟩:=sW fun j v e=>B.o.get (hc j v e)
  have Q0:=l (And.intro hm hu);go_upto_region 9 with fail;generalize hW:wr.alloc _=W1 at*;obtain⟨X,hX⟩:=ad wr.heap.size;have R0:O (xY w X r ma mc ca cc pa pc W1 [(u3,H),(u4,M),(u5,J),(u6,s)]):=⟨HR.o.fr (DG (S:=fun _=>False) hW),hX▸zM hW,B.o.trans (DG hW)⟩;rw[hX];obtain⟨y2,y3,y4,y5,y6,y7,y8,y9⟩:=R0.o.cells;obtain⟨n1,n2,n3,n4⟩:=HS.o;have S0:=LT c0.o;go_wp2_with fail;refine CV (R4 r.lo r.digits (sL r) W1 dr rfl S0.1) ?_;go_wp2_with fail;refine(R0.o.with n1 az (n:=sL r) az _ rfl).mono ?_;rintro _ w2 ⟨b2,E3,rfl,M1,O1⟩;have T0:=l M1;obtain⟨y2,y3,y4,y5,y6,y7,y8,y9⟩:=T0.o.cells;go_wp2_with fail;refine CV (R4 (r.hi+1) r.digits (sH r) w2 dr rfl S0.2) ?_;go_wp2_with fail;refine(T0.o.with O1 az (n:=sH r) az _ rfl).mono ?_;rintro _ w3 ⟨b3,l5,rfl,P1,Q1⟩;have V0:=l P1.rot
  have HB:=l (Q1.weak (show 1+2*i+1+1<=1+2*(i+1) by omega) (Q':=fun x=>x=0\/∃r,r∈R.take (i+1)/\(x=sL r\/x=sH r)) fun x hx=>by
   rcases hx with h|⟨r',Q,D⟩
   ·exact z6 (z6 (z6 h))
   rcases n0.o r' Q with h|rfl
   ·exact z6 (z6 (C ⟨r',h,D⟩))
   exact D.elim (fun h=>z6 (C h)) C)
  have N4:=l n2;have N5:=l n3;have N6:=l n4;obtain⟨y2,y3,y4,y5,y6,y7,y8,y9⟩:=V0.o.cells;obtain⟨K,hK⟩:=ad r.mcc.length;have d0:=l hK;have R1:K<=4:=aj P0.o;rw[hK]at y5;go_wp2
  go_loopg [4,9] K (fun m mv kv T=>∃k l',k<=K/\m=K-k/\kv=I V (k:Nat)/\O (xY w X r ma mc ca cc pa pc T ((mv,l')::[(u5,J),(u6,s),(b3,l5)]))/\O (Nd l' 9999 (4*i+k) fun x=>(∃r,r∈R.take i/\x∈r.mcc)\/x∈r.mcc.take k))
  case atStart=>exact⟨0,_,az,rfl,rfl,V0,N4.o.weak az aA⟩
  obtain⟨k,l',hk,rfl,rfl,HK,HD⟩:=hrel;generalize wr=W at*;obtain⟨y2,y3,y4,y5,y6,y7,y8,y9⟩:=HK.o.cells;rw[d0.o]at y5;by_cases W0:k<K
  ·have o0:=af k K;obtain⟨x,hx⟩:∃x,r.mcc[k]?=Y x:=⟨_,gE (aj d0.o)⟩;obtain⟨gm,em,S1⟩:=(Q0.o.1.fr HK.o.fr) k x hx;subst em;have T1:=c0.o.mc.2 x (mG hx);go_wp2_with fail;refine(HK.o.with HD.o az (n:=x) az _ rfl).mono ?_;rintro _ w3 ⟨v',V1,rfl,Q,D⟩;have y0:=l Q
   have z0:=l (D.weak (z3 _) (Q':=fun y=>(∃r,r∈R.take i/\y∈r.mcc)\/y∈r.mcc.take (k+1)) fun y hy=>by
    rcases hy with h|h
    ·exact z6 (z6 h)
    rcases P2 hx h with h|h
    ·exact z6 (C h)
    exact C h)
   go_wp2;go_roundg (K-(k+1))
   case measure=>omega
   exact⟨k+1,_,az,rfl,aE,y0,z0⟩
  have o0:=ai k K;obtain rfl:k=K:=az
  have HM:=l (HD.o.weak (show 4*i+k<=4*(i+1) by omega) (Q':=fun x=>∃r,r∈R.take (i+1)/\x∈r.mcc) fun x ⟨r',Q,D⟩=>by
   rcases n0.o r' Q with h|rfl
   ·exact z6 ⟨r',h,D⟩
   exact C (by rw[<-d0.o,r6];exact D))
  have X1:=l HK.o.rot;obtain⟨lm,rfl⟩:=ae l';obtain⟨K,hK⟩:=ad r.cur.length;have d0:=l hK;have R1:K<=4:=aj P0.o;rw[hK]at y6;go_wp2
  go_loopg [5,10] K (fun m mv kv T=>∃k l',k<=K/\m=K-k/\kv=I V (k:Nat)/\O (xY w X r ma mc ca cc pa pc T ((mv,l')::[(u6,s),(b3,l5),(u4,lm)]))/\O (Nd l' 999 (4*i+k) fun x=>(∃r,r∈R.take i/\x∈r.cur)\/x∈r.cur.take k))
  case atStart=>exact⟨0,_,az,rfl,rfl,X1,N5.o.weak az aA⟩
  obtain⟨k,l',hk,rfl,rfl,HK,HD⟩:=hrel;generalize wr=W at*;obtain⟨y2,y3,y4,y5,y6,y7,y8,y9⟩:=HK.o.cells;rw[d0.o]at y6;by_cases W0:k<K
  ·have o0:=af k K;obtain⟨x,hx⟩:∃x,r.cur[k]?=Y x:=⟨_,gE (aj d0.o)⟩;obtain⟨gm,em,S1⟩:=(Q0.o.2.fr HK.o.fr) k x hx;subst em;have T1:=c0.o.cu.2 x (mG hx);go_wp2_with fail;refine(HK.o.with HD.o az (n:=x) az _ rfl).mono ?_;rintro _ w3 ⟨v',V1,rfl,Q,D⟩;have y0:=l Q
   have z0:=l (D.weak (z3 _) (Q':=fun y=>(∃r,r∈R.take i/\y∈r.cur)\/y∈r.cur.take (k+1)) fun y hy=>by
    rcases hy with h|h
    ·exact z6 (z6 h)
    rcases P2 hx h with h|h
    ·exact z6 (C h)
    exact C h)
   go_wp2;go_roundg (K-(k+1))
   case measure=>omega
   exact⟨k+1,_,az,rfl,aE,y0,z0⟩
  have o0:=ai k K;obtain rfl:k=K:=az
  have HC:=l (HD.o.weak (show 4*i+k<=4*(i+1) by omega) (Q':=fun x=>∃r,r∈R.take (i+1)/\x∈r.cur) fun x ⟨r',Q,D⟩=>by
   rcases n0.o r' Q with h|rfl
   ·exact z6 ⟨r',h,D⟩
   exact C (by rw[<-d0.o,r6];exact D))
  have X0:=l HK.o.rot
  cases ha:r.am with
  |none=>
   rw[ha]at y7
   have A0:=l (N6.o.weak (show 1+2*i<=1+2*(i+1) by omega) (Q':=fun x=>x=0\/∃r,r∈R.take (i+1)/\∃ab,r.am=Y ab/\(x=ab.1\/x=ab.2+1)) fun x hx=>by
    rcases hx with h|⟨r',Q,ab,D,h3⟩
    ·exact z6 h
    rcases n0.o r' Q with h|rfl
    ·exact C ⟨r',h,ab,D,h3⟩
    rw[ha]at D;cases D)
   have e0:=l X0.o.rot;go_wp2;go_roundg (N-(i+1))
   case measure=>omega
   exact⟨i+1,_,_,_,_,az,rfl,aE,e0.o.rs,⟨HB.o,HM.o,HC.o,A0.o⟩,e0.o.fr⟩
  |some ab=>
   rw[ha]at y7 y8 y9;have F3:=c0.o.am ab ha;simp only[Option.getD_some]at y8 y9;go_wp2_with fail;refine(X0.o.with N6.o az (n:=ab.1) az _ rfl).mono ?_;rintro _ w5 ⟨a5,l6,rfl,Y1,Z1⟩;have e0:=l Y1;obtain⟨y2,y3,y4,y5,y6,y7,y8,y9⟩:=e0.o.cells;rw[ha]at y9;simp only[Option.getD_some]at y9;go_wp2_with fail;refine(e0.o.with Z1 az (n:=ab.2+1) az _ rfl).mono ?_;rintro _ w6 ⟨a6,l7,rfl,a2,d2⟩;have Y0:=l a2.rot
   have A0:=l (d2.weak (show 1+2*i+1+1<=1+2*(i+1) by omega) (Q':=fun x=>x=0\/∃r,r∈R.take (i+1)/\∃ab,r.am=Y ab/\(x=ab.1\/x=ab.2+1)) fun x hx=>by
    rcases hx with h|⟨r',Q,f2,D,h3⟩
    ·exact z6 (z6 (z6 h))
    rcases n0.o r' Q with h|rfl
    ·exact z6 (z6 (C ⟨r',h,f2,D,h3⟩))
    rw[ha]at D;injection D with D;subst D
    exact h3.elim (fun h=>z6 (C h)) C)
   go_wp2;go_roundg (N-(i+1))
   case measure=>omega
   exact⟨i+1,_,_,_,_,az,rfl,aE,Y0.o.rs,⟨HB.o,HM.o,HC.o,A0.o⟩,Y0.o.fr⟩
 have L1:=ai i N;obtain rfl:i=N:=az;obtain⟨n1,n2,n3,n4⟩:=HS.o;rw[j2 (a8 HN.o)]at n1 n2 n3 n4;have N1:=l n1;have N2:=l n2;have N3:=l n3;have N4:=l n4;have G3:=n2.2.1;have I3:=n3.2.1;have p0:=l HR.o.rot;obtain⟨va,vc,ev⟩:=oL (p0.o.1 _ (j5 ..))
 dsimp only at ev
 subst ev;have HO:=l (p0.o.1 _ (j5 ..))
 dsimp only at HO
 have f0:=l (fun o:Nat=>RZ _ va vc M o (Zv.of HO.o) az);obtain⟨n,hn⟩:=ad M.length;have g0:=l hn;rw[hn]at f0 HO p0 ⊢;have q0:n<=32:=az;go_wp2
 go_loopg [11] (Fm M 0) (fun m ov T=>∃o:Nat,ov=I V (o:Nat)/\m=Fm M o/\wr=T/\O (o+Fm M o<=n))
 case atStart=>exact⟨0,rfl,rfl,rfl,by show _<=_;rw[<-g0.o];unfold Fm;rw[j6];exact m9 ..⟩
 obtain⟨o,rfl,rfl,rfl,HG⟩:=hrel;have ho:=HG.o;have r0:o<=32:=az;go_wp2_with fail;refine CV (f0.o o) ?_
 cases h0:Us M (o:Int)with
 |true=>
  have Q:=(xZ M o).2 ((Ud _ _).1 h0);go_wp2;go_roundg (Fm M (o+1))
  case measure=>exact Q
  exact⟨o+1,aE,rfl,rfl,by have:=HG.o;show _<=_;omega⟩
 |false=>
  have s0:O (o∉M):=fun h=>by rw[(Ud _ _).2 h]at h0;cases h0
  go_wp2_with (at_builtin;refine ao w.heap.size Y9 underlying25 (G va n vc) n (Zg M) ?p1 ⟨wr.heap.size,0,Z⟩ [I V (o:Nat)] ?p2 ?_ (k4:=?p6))
  case p1=>exact HO.o.alloc _
  case p2=>exact k6 (aN wr (z5 #[I V (o:Nat)] 3))
  case p6=>have:=B.o.size;simp;omega
  intro gp Z0 wp E A k0 _;have i0:=l (p0.o.grow (Zo.alloc _) A (l':=M++[o]) (by rw[X6,lA,g0.o];exact E) (k0.imp id az));have B0:=l (B.o.monoNew i0.o.2 fun k hk=>C (HO.o.lt k hk).1);have l0:=l i0.o.1.rot;have d1:O (∃m,m∈M++[o]/\m∉M):=⟨o,aA,s0.o⟩;have w0:=l (N2.o.more (C ⟨rfl,j1 r0 aB⟩));obtain⟨F,e1⟩:=ad (M++[o]);rw[e1]at l0 d1 w0;generalize j3 (Y ⟨gp,0,Z⟩) (n+1) Z0=vp at*;clear E A k0 HO i0 s0 p0 f0 HG e1 B g0 q0;have B:=B0;obtain⟨va,vc,ev⟩:=oL (l0.o.1 _ (j5 ..))
  dsimp only at ev
  subst ev;have HO:=l (l0.o.1 _ (j5 ..))
  dsimp only at HO
  have f0:=l (fun o:Nat=>RZ _ va vc J o (Zv.of HO.o) az);obtain⟨n,hn⟩:=ad J.length;have g0:=l hn;rw[hn]at f0 HO l0 ⊢;have q0:n<=32:=az;go_wp2
  go_loopg [11] (Fm J 0) (fun m ov T=>∃o:Nat,ov=I V (o:Nat)/\m=Fm J o/\wp=T/\O (o+Fm J o<=n))
  case atStart=>exact⟨0,rfl,rfl,rfl,by show _<=_;rw[<-g0.o];unfold Fm;rw[j6];exact m9 ..⟩
  obtain⟨o,rfl,rfl,rfl,HG⟩:=hrel;have ho:=HG.o;have r0:o<=32:=az;go_wp2_with fail;refine CV (f0.o o) ?_
  cases h0:Us J (o:Int)with
  |true=>
   have Q:=(xZ J o).2 ((Ud _ _).1 h0);go_wp2;go_roundg (Fm J (o+1))
   case measure=>exact Q
   exact⟨o+1,aE,rfl,rfl,by have:=HG.o;show _<=_;omega⟩
  |false=>
   have s0:O (o∉J):=fun h=>by rw[(Ud _ _).2 h]at h0;cases h0
   go_wp2_with (at_builtin;refine ao w.heap.size Y9 underlying25 (G va n vc) n (Zg J) ?q1 ⟨wp.heap.size,0,Z⟩ [I V (o:Nat)] ?q2 ?_ (k4:=?q6))
   case q1=>exact HO.o.alloc _
   case q2=>exact k6 (aN wp (z5 #[I V (o:Nat)] 3))
   case q6=>have:=B.o.size;simp;omega
   intro gq f1 wq E A k0 _;have i0:=l (l0.o.grow (Zo.alloc _) A (l':=J++[o]) (by rw[X6,lA,g0.o];exact E) (k0.imp id az));have B0:=l (B.o.monoNew i0.o.2 fun k hk=>C (HO.o.lt k hk).1);have m0:=l i0.o.1.rot;have g1:O (∃m,m∈J++[o]/\m∉J):=⟨o,aA,s0.o⟩;have x0:=l (N3.o.more (C ⟨rfl,j1 r0 aB⟩));obtain⟨t,i1⟩:=ad (J++[o]);rw[i1]at m0 g1 x0;generalize j3 (Y ⟨gq,0,Z⟩) (n+1) f1=vq at*;clear E A k0 HO i0 s0 l0 f0 HG i1 B g0 q0;have B:=B0;have J3:=N1.o.2.1;have K3:=N4.o.2.1;have L3:=w0.o.2.1;have M3:=x0.o.2.1;obtain⟨a3,c3,e3⟩:=oL (m0.o.1 (u3,H) aA);obtain⟨a4,c4,e4⟩:=oL (m0.o.1 (vp,F) aA);obtain⟨a5,c5,e5⟩:=oL (m0.o.1 (vq,t) aA);obtain⟨a6,c6,e6⟩:=oL (m0.o.1 (u6,s) aA)
   dsimp only at e3 e4 e5 e6
   subst e3 e4 e5 e6;obtain⟨ps,t0⟩:=ad ([(j3 a6 s.length c6,s),(j3 a3 H.length c3,H),(j3 a4 F.length c4,F),(j3 a5 t.length c5,t)]);have i2:O (JJ w ps (G Z 0 0) [] 0 wq):=⟨t0▸m0.o,oZ _ _ _ _,B.o,z3 _⟩;have k2:=l N1.o.1
   have m1:O ((j3 a3 H.length c3,H)∈ps):=by show _∈_;rw[<-t0];simp
   have m2:O ((j3 a4 F.length c4,F)∈ps):=by show _∈_;rw[<-t0];simp
   have m3:O ((j3 a6 s.length c6,s)∈ps):=by show _∈_;rw[<-t0];simp
   have m4:O ((j3 a5 t.length c5,t)∈ps):=by show _∈_;rw[<-t0];simp
   have r2:O (xV R H F s t):=by
    obtain⟨x,x1,x2⟩:=d1.o;obtain⟨y,y1,y2⟩:=g1.o;exact⟨⟨_,N1.o⟩,⟨_,N4.o⟩,⟨⟨x,x1,fun r hr h=>x2 (N2.o.2.2 x ⟨r,hr,h⟩ (w0.o.1 x x1))⟩,_,w0.o.weak (z3 _) fun _ h=>z6 h⟩,⟨y,y1,fun r hr h=>y2 (N3.o.2.2 y ⟨r,hr,h⟩ (x0.o.1 y y1))⟩,_,x0.o.weak (z3 _) fun _ h=>z6 h⟩
   go_wp2
   go_loopg [12,13] H.length (fun m ov av T=>∃a,a<=H.length/\m=H.length-a/\av=I V (a:Nat)/\O (JJ w ps ov ((H.take a).flatMap fun x=>F.flatMap fun y=>s.flatMap fun z=>t.map (Rf x y z)) (((a*33+0)*17+0)*33+0) T))
   case atStart=>exact⟨0,az,rfl,rfl,i2⟩
   obtain⟨a,ha,rfl,rfl,HU⟩:=hrel;generalize wr=W at*;by_cases k1:a<H.length
   ·have t2:=af a H.length;have hx:=gE k1;have z2:=l (fun f=>@OO _ XQ _ _ _ hx f);obtain⟨g,eg,hc⟩:=HU.o.at m1.o hx;subst eg;have B2:=k2.o _ (b7 k1);generalize H[a]=x at*;generalize C2:(H.take a).flatMap (fun x=>F.flatMap fun y=>s.flatMap fun z=>t.map (Rf x y z))=S6 at*;have e0:=l C2;go_wp2
    go_loopg [14,15,16] 6 (fun m pv nv kv T=>∃k,k<=6/\m=6-k/\pv=U ⟨(zh x k).toArray⟩/\nv=I V ((x/10^k:Nat):Int)/\kv=I V (k:Nat)/\O (JJ w ps u12 S6 (((a*33+0)*17+0)*33+0) T))
    case atStart=>exact⟨0,az,rfl,rfl,aA,rfl,HU⟩
    obtain⟨k,hk,rfl,rfl,rfl,rfl,HK⟩:=hrel;by_cases W0:k<6
    ·have o0:(k:Int)<6:=az;have O3:x/10^k<=999999:=j1 (Nat.div_le_self _ _) B2
     have D2:x/10^k/10=x/10^(k+1):=by rw[Nat.div_div_eq_div_mul,e7]
     have P3:=I0 x k;have E2:O ((⟨#[qe x k]⟩:ByteArray)++⟨(zh x k).toArray⟩=⟨(zh x (k+1)).toArray⟩):=ByteArray.ext (by simp[zh])
     have Q3:(⟨(zh x k).toArray⟩:ByteArray).size<=6:=by
      show(zh x k).toArray.size<=6
      rw[s6,NW];omega
     have C0:=l D2;generalize(⟨(zh x k).toArray⟩:ByteArray)=P at*;generalize qe x k=b8 at*;generalize x/10^k=c at*;obtain⟨m,hm⟩:=ad (c % 10);have r1:m<10:=az
     have R3:(c:Int).tmod 10=(m:Int):=by rw[p9 az];omega
     have F2:(b8.toNat:Int)=48+(m:Int):=az;have S3:=zi m r1;have G2:=l (HK.o.keep (Zo.alloc (z5 #[I .u8 (48+(m:Int))] 5)))
     have T3:(convert 50 9 (G (Y ⟨wr.heap.size,0,Z⟩) 1 1)).run L (wr.alloc (z5 #[I .u8 (48+(m:Int))] 5))=.ok (U ⟨#[b8]⟩) (wr.alloc (z5 #[I .u8 (48+(m:Int))] 5)):=by
      have e:=run_convert_bytes_back (P:=L) (wr.alloc (z5 #[I .u8 (48+(m:Int))] 5)) 50 9 5 ⟨wr.heap.size,0,Z⟩ 1 [b8] underlying50 underlying5 underlying9 (by
       intro j hj
       have:j=0:=by simpa using hj
       subst this;rw[Yf]
       exact bC (heap_alloc_new wr _) 0 _ (by simp[F2]))
      simpa using e
     go_wp2;go_roundg (6-(k+1))
     case measure=>omega
     exact⟨k+1,az,rfl,by rw[<-E2.o],by rw[<-C0.o];congr 1,aE,G2⟩
    have o0:¬(k:Int)<6:=az;obtain rfl:k=6:=az;have I2:=l (HK.o.re (S':=S6++(F.take 0).flatMap fun y=>s.flatMap fun z=>t.map (Rf x y z)) aA (z3 _));go_wp2
    go_loopg [12,17] F.length (fun m ov av T=>∃b,b<=F.length/\m=F.length-b/\av=I V (b:Nat)/\O (JJ w ps ov (S6++(F.take b).flatMap fun y=>s.flatMap fun z=>t.map (Rf x y z)) (((a*33+b)*17+0)*33+0) T))
    case atStart=>exact⟨0,az,rfl,rfl,I2⟩
    obtain⟨b,hb,rfl,rfl,HB⟩:=hrel;by_cases J2:b<F.length
    ·have K2:=af b F.length;have hy:=gE J2;have L2:=l (fun f=>@OO _ XQ _ _ _ hy f);generalize F[b]=y at*;have HY:=l hy;have M2:=l (HB.o.re (S':=S6++(F.take b).flatMap (fun y=>s.flatMap fun z=>t.map (Rf x y z))++(s.take 0).flatMap fun z=>t.map (Rf x y z)) aA (z3 _));generalize O2:S6++(F.take b).flatMap (fun y=>s.flatMap fun z=>t.map (Rf x y z))=S8 at*;have Q2:=l O2;go_wp2
     go_loopg [12,18] s.length (fun m ov av T=>∃c,c<=s.length/\m=s.length-c/\av=I V (c:Nat)/\O (JJ w ps ov (S8++(s.take c).flatMap fun z=>t.map (Rf x y z)) (((a*33+b)*17+c)*33+0) T))
     case atStart=>exact⟨0,az,rfl,rfl,M2⟩
     obtain⟨c,hc,rfl,rfl,HC⟩:=hrel;by_cases R2:c<s.length
     ·have S2:=af c s.length;have hz:=gE R2;have T2:=l (fun f=>@OO _ XQ _ _ _ hz f);generalize s[c]=z at*;have HZ:=l hz;have V2:=l (HC.o.re (S':=S8++(s.take c).flatMap (fun z=>t.map (Rf x y z))++(t.take 0).map (Rf x y z)) aA (z3 _));generalize W2:S8++(s.take c).flatMap (fun z=>t.map (Rf x y z))=S9 at*;have X2:=l W2;go_wp2
      go_loopg [12,19] t.length (fun m ov av T=>∃d,d<=t.length/\m=t.length-d/\av=I V (d:Nat)/\O (JJ w ps ov (S9++(t.take d).map (Rf x y z)) (((a*33+b)*17+c)*33+d) T))
      case atStart=>exact⟨0,az,rfl,rfl,V2⟩
      obtain⟨d,hd,rfl,rfl,HD⟩:=hrel;by_cases Y2:d<t.length
      ·have Z2:=af d t.length
       obtain⟨u,hu⟩:∃u,t[d]?=Y u:=⟨_,gE Y2⟩
       have d3:O ((t.take (d+1)).map (Rf x y z)=(t.take d).map (Rf x y z)++[Rf x y z u]):=by show _=_;rw[j9,hu];simp
       obtain⟨g4,e4,_⟩:=HD.o.at m2.o HY.o;obtain⟨g6,e6,_⟩:=HD.o.at m3.o HZ.o;obtain⟨g5,e5,_⟩:=HD.o.at m4.o hu;obtain⟨oa,oc,eo⟩:=oL HD.o.ou;subst e4 e5 e6 eo
       have D0:O (∀W v S n,JJ w ps v S n W->W.cell? ⟨g4,b,Z⟩=Y (I V (y:Nat))/\W.cell? ⟨g6,c,Z⟩=Y (I V (z:Nat))/\W.cell? ⟨g5,d,Z⟩=Y (I V (u:Nat))):=fun W v S n h=>⟨h.get m2.o HY.o,h.get m3.o HZ.o,h.get m4.o hu⟩
       have V3:=HD.o.le;have E0:=l (HD.o.keep Zo.drew);generalize t1:S9++(t.take d).map (Rf x y z)=w1 at*;have z1:=l t1;generalize f3:w1.length=nn at*;have B1:=l f3;go_upto_region 50 with fail;refine wp_region_held_drew (S:=fun W=>W.cell? ⟨g4,b,Z⟩=Y (I V (y:Nat))/\W.cell? ⟨g6,c,Z⟩=Y (I V (z:Nat))/\W.cell? ⟨g5,d,Z⟩=Y (I V (u:Nat))) aC (D0.o _ _ _ _ E0.o) (fun hH=>?_)
       iterate 15 (refine Yy 0 hH ?_;try go_frame)
       have G0:=l (E0.o.keep (Zo.alloc (z5 #[U (KJ x),I V (y:Nat),I V (z:Nat),I V (u:Nat)] 35)));refine WI 15 (fun K hK=>?_);go_simp;refine hK.out _ _ (D0.o _ _ _ _ G0.o) (fun hH=>?_)
       try go_frame
       refine WI 16 (fun K hK=>?_);refine wp_append_lies _ (.tmp 154) (.tmp 169) 94 rfl w.heap.size 35 ij _ 4 40 underlying94 F1 G1 H1 I1 rfl aB (G oa nn oc) nn (X3 w1) rfl ?o1 ⟨wr.drew.heap.size,0,Z⟩ 1 1 [U (KJ x),I V (y:Nat),I V (z:Nat),I V (u:Nat)] rfl rfl ?o2 ?o3 aB ?o4 ?o5 ?o6 _ rfl ?_
       case o1=>have e:=G0.o.ou;rw[B1.o]at e;exact e
       case o2=>exact k6 (aN wr.drew (z5 #[U (KJ x),I V (y:Nat),I V (z:Nat),I V (u:Nat)] 35))
       case o3=>simp[g7]
       case o4=>unfold maxLen;omega
       case o5=>omega
       case o6=>exact G0.o.fr.size
       intro g2 k3 w8 E A k0 _;have C1:=l (E0.o.more A (p:=Rf x y z u) (by rw[B1.o];exact E));refine hK.out _ _ (D0.o _ _ _ _ C1.o) (fun hH=>?_)
       try go_frame
       refine ZJ 17 hH ?_
       try go_frame
       refine wpAnyH_done aC ?_ _;go_wp2;go_roundg (t.length-(d+1))
       case measure=>omega
       exact⟨d+1,az,rfl,aE,by rw[d3.o,<-k4,z1.o];exact C1⟩
      have Z2:=ai d t.length;have g3:=l (HD.o.re (S':=S9++t.map (Rf x y z)) (by rw[j2 az]) (show((a*33+b)*17+c)*33+d<=((a*33+b)*17+(c+1))*33+0 by omega));go_wp2;go_roundg (s.length-(c+1))
      case measure=>omega
      exact⟨c+1,az,rfl,aE,by rw[T2.o,<-k4,X2.o];exact g3⟩
     have S2:=ai c s.length;have C0:=l (HC.o.re (S':=S8++s.flatMap fun z=>t.map (Rf x y z)) (by rw[j2 az]) (show((a*33+b)*17+c)*33+0<=((a*33+(b+1))*17+0)*33+0 by omega));go_wp2;go_roundg (F.length-(b+1))
     case measure=>omega
     exact⟨b+1,az,rfl,aE,by rw[L2.o,<-k4,Q2.o];exact C0⟩
    have K2:=ai b F.length;have i3:=l (HB.o.re (S':=S6++F.flatMap fun y=>s.flatMap fun z=>t.map (Rf x y z)) (by rw[j2 az]) (show((a*33+b)*17+0)*33+0<=(((a+1)*33+0)*17+0)*33+0 by omega));go_wp2;go_roundg (H.length-(a+1))
    case measure=>omega
    exact⟨a+1,az,rfl,aE,by rw[z2.o,e0.o];exact i3⟩
   have t2:=ai a H.length;have H0:=l (HU.o.re (S':=H.flatMap fun x=>F.flatMap fun y=>s.flatMap fun z=>t.map (Rf x y z)) (by rw[j2 az]) (show(((a*33+0)*17+0)*33+0)<=400000 by omega));go_wp2;go_ret;exact⟨⟨_,rfl,_,H0.o.ou,r2.o.st H0.o.le⟩,H0.o.fr⟩
def F5 (w W:j7)(D N:Nat)(Q:Nat->Bool->Prop):Prop:=∃a,W.ownsRow w.heap.size 4 1 (G (Y ⟨D,0,Z⟩) N N) N a/\(∀k,k<N->∃b,a[k]?=Y (z8 b)/\Q k b)/\F0 w W
def F5.fr {w W a D N Q}(h:F5 w W D N Q)(b:F0 W a):F5 w a D N Q:=by
 obtain⟨c,d,e,f⟩:=h;exact⟨c,oF d b,e,f.trans b⟩
def F5.weak {w W D N Q Q'}(h:F5 w W D N Q)(c:∀k b,k<N->Q k b->Q' k b):F5 w W D N Q':=by
 obtain⟨d,f,g,i⟩:=h;exact⟨d,f,fun k a=>let⟨b,e,j⟩:=g k a;⟨b,e,c k b a j⟩,i⟩
def F5.step {w W D N i Q Q'}(h:F5 w W D N Q)(o:i<N)(v)(d:∀k b,k<N->k≠i->Q k b->Q' k b)(f:Q' i v):F5 w (W.setCell ⟨D,i,Z⟩ (z8 v)) D N Q'/\(∃u,W.cell? ⟨D,i,Z⟩=Y u)/\W.frozen? ⟨D,i,Z⟩=false:=by
 obtain⟨q,a,g,j⟩:=h;have r:=a.1;obtain⟨l,_⟩:=a.stored i (z8 v);refine⟨⟨_,l,fun k c=>?_,j.setCell (p:=⟨D,i,Z⟩) (C (a.lt D rfl).1) _⟩,?_,a.frozenAt i⟩
 ·by_cases e:k=i
  ·subst e;exact⟨v,by rw[List.getElem?_set_self z],f⟩
  obtain⟨b,m,n⟩:=g k c;exact⟨b,by rw[List.getElem?_set_ne z];exact m,d k b c e n⟩
 rw[a.cellAt i z,gE z];exact⟨_,rfl⟩
def zj {S i p}(h:S[i]?=Y p):∀j v,[b9 p.pan,I V p.mcc,I V p.am,I V p.cur][j]?=Y v->(X3 S)[i*4+j]?=Y v:=by
 induction S generalizing i with
 |nil=>simp at h
 |cons q r c=>
  intro j v a;have b:=(iG.1 a).1;simp at b
  cases i with
  |zero=>
   simp at h;subst h
   show([b9 q.pan,I V q.mcc,I V q.am,I V q.cur]++X3 r)[0*4+j]?=_
   rw[a9,j6,b5 aF];exact a
  |succ i=>
   show([b9 q.pan,I V q.mcc,I V q.am,I V q.cur]++X3 r)[(i+1)*4+j]?=_
   rw[aR aF];have:=c (by simpa using h) j v a;rw[<-this]
   congr 1
   simp;omega
def I1 {W:j7}{b n c j a S p}(h:W.ownsRow b 35 4 (G a n c) n (X3 S))(l:S.length=n)(d:S[j]?=Y p):
  ∃g,a=Y ⟨g,0,Z⟩/\W.cell? ⟨g,j*4,Z⟩=Y (U p.pan)/\W.cell? ⟨g,j*4+1,Z⟩=Y (I V p.mcc)/\W.cell? ⟨g,j*4+2,Z⟩=Y (I V p.am)/\W.cell? ⟨g,j*4+3,Z⟩=Y (I V p.cur):=by
 have m:=(iG.1 d).1;obtain⟨g,q,e,_⟩:=h.form z;injection e with e _ i;subst e i
 have k:∀o v,[b9 p.pan,I V p.mcc,I V p.am,I V p.cur][o]?=Y v->W.cell? ⟨g,j*4+o,Z⟩=Y v:=fun o v f=>(h.cellAt _ (by have:=(iG.1 f).1;simp at this;omega)).trans (zj d o v f)
 exact⟨g,rfl,k 0 _ rfl,k 1 _ rfl,k 2 _ rfl,k 3 _ rfl⟩
def LV:(L.info? 4).map (fun i=>(i.zero,i.size,i.bytes))=Y (Y (z8 false),1,1):=n
def DJ (w q f R)(h:TV w q f R)(hb:Yh f R)(ha:∀r,r∈R->r.mcc.length<=4/\r.cur.length<=4):
  j0 L 90 #[z9 (Y ⟨q,0,Z⟩)] w fun e w'=>∃D,e=z4 (G (Y ⟨D,0,Z⟩) R.length R.length)/\F5 w w' D R.length fun k b=>b=false↔∃p,YD p=true/\Q4 R p=Y k:=by
 obtain⟨ij,a0,b0,c0,d0⟩:=info_parts LV
 have e0:=o fun W B=>Fp W q f R (h.fr B) hb ha
 have f0:=o fun W B p C=>P1 W q f R p (h.fr (w':=W) B) hb C
 obtain⟨la,lc,a,_⟩:=h.c2;have g0:=hb.l8;obtain⟨N,hN⟩:=ad R.length;have HN:=o hN;rw[hN]at g0 a ⊢;have h0:=run_make (P:=L) w 95 4 ij _ underlying95 a0 b0 V V (N:Int) (N:Int) az az (by rw[d0];omega) az;rw[show(N:Int).toNat=N from az,c0,m8]at h0;have H2:=o a
 have E:O (F5 w (w.alloc (z5 (madeCells #[z8 false] N) 4)) w.heap.size N fun _ _=>True):=by
  have e:=toList_madeCells_one (z8 false) N;refine⟨(madeCells #[z8 false] N).toList,⟨by rw[Array.length_toList,size_madeCells,m8],.inr ⟨_,N,_,rfl,z3 _,aN w _,z3 _,aM,by rw[size_madeCells,m8],?_⟩⟩,fun k s=>⟨false,?_,trivial⟩,Zo.alloc _⟩
  ·rw[j2 (by rw[Array.length_toList,size_madeCells,m8];exact z3 _)]
  show(madeCells #[z8 false] N).toList[k]?=_
  rw[e,List.getElem?_replicate,if_pos s]
 go_enter func90,ntmps90;go_wp2_with fail;generalize w.alloc _=W0 at*;obtain⟨D,hD⟩:=ad w.heap.size;rw[hD]at E ⊢
 go_loopg [4] N (fun m iv wr=>∃i,i<=N/\m=N-i/\iv=I V (i:Nat)/\O (F5 w wr D N fun k b=>k<i->b=true))
 case atStart=>exact⟨0,az,rfl,rfl,E.o.weak fun k b _ _ h=>az⟩
 obtain⟨i,hi,rfl,rfl,X⟩:=hrel;obtain⟨F,rfl⟩:=ae wr;obtain⟨_,_,_,B⟩:=X.o;have a:=B.get H2.o;by_cases i0:i<N
 ·have l0:=af i N
  obtain⟨hs,⟨uu,hu⟩,hz⟩:=X.o.step i0 true (Q':=fun k b=>k<i+1->b=true) (fun k b _ s h hl=>h az) fun _=>rfl
  have t:=o hs;go_wp2_with fail;generalize F.setCell _ _=W1 at*;go_wp2;go_roundg (N-(i+1))
  case measure=>omega
  exact⟨i+1,az,rfl,aE,t⟩
 have l0:=ai i N;go_wp2_with fail;refine(e0.o F B).mono ?_;rintro _ w1 ⟨⟨v,S,rfl,ho,hS⟩,m0⟩;obtain⟨sa,sc,e⟩:=oL ho;subst e;have u:=o ho;have H:=o hS;have n0:=hS.1
 have o0:O (F5 w w1 D N fun k b=>b=false↔∃p,p∈S.take 0/\Q4 R p=Y k):=(X.o.fr m0).weak fun k b s h=>by simp[h az]
 obtain⟨n,hn⟩:=ad S.length;have y:=o hn;rw[hn]at u n0 ⊢
 have p0:O (D<F.heap.size):=by
  obtain⟨_,l,_⟩:=X.o;exact(l.lt D rfl).2
 go_wp2
 go_loopg [6] n (fun m iv wx=>∃j,j<=n/\m=n-j/\iv=I V (j:Nat)/\O (F5 w wx D N fun k b=>b=false↔∃p,p∈S.take j/\Q4 R p=Y k)/\O (Fr (fun k=>k=D) w1 wx))
 case atStart=>exact⟨0,az,rfl,rfl,o0,Zo⟩
 obtain⟨j,hj,rfl,rfl,HJ,J⟩:=hrel;generalize wr=W at*;by_cases x0:j<n
 ·have q0:=af j n;obtain⟨p,C⟩:∃p,S[j]?=Y p:=⟨_,gE (aj y.o)⟩;obtain⟨g,e,k0,k1,k2,k3⟩:=I1 (oA u.o J.o fun k s e=>ak (u.o.lt k s).1 p0.o) y.o C;subst e;obtain⟨_,_,_,r0⟩:=HJ.o;have K:=H.o.2.1 p (mG C);rw[XH,j4]at K;have HC:=o (f0.o W r0 p K.1)
  have HT:=o fun x=>@P2 _ S j p x C
  have z:O (p∈S.take (j+1)/\∀x,x∈S.take j->x∈S.take (j+1)):=by
   show _/\_
   rw[j9,C];simp
   exact fun x h=>z6 h
  obtain⟨d,c⟩:=ad (Q4 R p);have A:=o c;have M:=o (Uy (Zu R) (YN R p (Zw p.pan)) R.length);unfold Q4 at c;rw[c]at HC M;unfold X4 at HC;go_wp2_with fail
  refine cf HC.o fun w2 Q=>?_
  have T:=o (HJ.o.fr Q);have U:=o (J.o.trans (Q.mono))
  cases d with
  |none=>
   have s0:=o (T.o.weak (Q':=fun k b=>b=false↔∃p,p∈S.take (j+1)/\Q4 R p=Y k) fun k b _ h=>h.trans ⟨fun⟨x,l,a⟩=>⟨x,z.o.2 x l,a⟩,fun⟨x,l,a⟩=>by
    rcases HT.o x l with h|rfl
    ·exact⟨x,h,a⟩
    rw[A.o]at a;cases a⟩)
   unfold V2;go_wp2;go_roundg (n-(j+1))
   case measure=>omega
   exact⟨j+1,az,rfl,aE,s0,U⟩
  |some k=>
   have t0:=HN.o▸M.o.1;have y0:=af k N;have z0:(0:Int)<=(k:Int):=az
   obtain⟨hs,⟨uu,hu⟩,hz⟩:=T.o.step t0 false (Q':=fun k b=>b=false↔∃p,p∈S.take (j+1)/\Q4 R p=Y k) (fun k' b _ s h=>h.trans ⟨fun⟨x,l,a⟩=>⟨x,z.o.2 x l,a⟩,fun⟨x,l,a⟩=>by
    rcases HT.o x l with h|rfl
    ·exact⟨x,h,a⟩
    rw[A.o]at a;injection a with a;exact absurd a.symm s⟩) ⟨fun _=>⟨p,z.o.1,A.o⟩,fun _=>rfl⟩
   have t:=o hs;have v0:O (Fr (fun k=>k=D) w1 (w2.setCell ⟨D,k,Z⟩ (z8 false))):=U.o.setCell (p:=⟨D,k,Z⟩) (z6 rfl) _;unfold V2;go_wp2;go_roundg (n-(j+1))
   case measure=>omega
   exact⟨j+1,az,rfl,aE,t,v0⟩
 have q0:=ai j n;have w0:=o (HJ.o.weak (Q':=fun k b=>b=false↔∃p,YD p=true/\Q4 R p=Y k) fun k b _ h=>by rw[<-H.o.best];rw[j2 (aj y.o)]at h;exact h);go_wp2;go_ret;exact⟨D,rfl,w0.o⟩
def Ut:(L.info? 9).map (fun i=>(i.zero,i.size,i.bytes))=Y (Y (U z7),1,16):=n
def LW:(L.info? 28).map (fun i=>(i.zero,i.size,i.bytes))=Y (Y (G Z 0 0),1,24):=n
