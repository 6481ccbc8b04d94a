import Derived.Test.YtccikgogjfbpeaaGreatDoorQz
import Derived.Test.YtccikgogjfbpeaaGreatDoorQm
open Or renaming inr->I,inl->J
open List renaming mem_cons_of_mem->S,mem_cons_self->V,getElem?_cons_succ->Z,mem_append->E,mem_cons->H,mem_map->B
open Nat renaming mul_div_cancel_left->Y,le_refl->U,zero_le->K,pow_pos->O,mul_comm->D,sub_self->G,pow_one->M
namespace Go.Proofs.YtccikgogjfbpeaaGreatDoor
set_option maxRecDepth 30000
set_option maxHeartbeats 8000000
def Nz (t:Zd):Prop:=t.name.size<=3000/\t.base<1000000000/\t.rate<1000000000
structure UL (n:Nat)(r:Zc):Prop where
 nm:r.name.size<=3000
 rk:r.rank<1000000000
 dg:r.digits<=9
 lo:r.lo<1000000000/\(Z6 r.lo).length<=r.digits
 hi:r.hi<1000000000/\(Z6 r.hi).length<=r.digits
 mc:r.mcc.length<=4000/\∀x,x∈r.mcc->x<1000000000
 cu:r.cur.length<=4000/\∀x,x∈r.cur->x<1000000000
 am:∀ab,r.am=some ab->ab.1<1000000000/\ab.2<1000000000
 pl:r.routes.length<=4000/\∀x,x∈r.routes->x<n
 ah:r.ahead<=n
 bn:r.digits<=6/\r.hi<10^r.digits/\r.lo<=r.hi
def GV:Nat->List Zc->Prop
 |_,[]=>True
 |told,r::rs=>told<=r.ahead/\GV r.ahead rs
structure YE (rts:List Zd)(rls:List Zc):Prop where
 rt:∀t,t∈rts->Nz t
 rl:∀r,r∈rls->UL rts.length r
 ah:GV 0 rls
 r6:rts.length<=6
 l8:rls.length<=8
theorem N8 {r:Zc}{n:Nat}(c:r.ahead=n):∀(b:List Zc)(a:Nat),a<=n->(∀x,x∈b->x.ahead<=n)->GV a b->GV a (b++[r])
 |[],a,h,_,_=>⟨by omega,trivial⟩
 |x::xs,a,_,ha,h=>⟨h.1,N8 c xs x.ahead (ha x (by simp)) (fun y d=>ha y (by simp[d])) h.2⟩
theorem UL.more {n:Nat}{r:Zc}(h:UL n r){m:Nat}(a:n<=m):UL m r:=
 ⟨h.nm,h.rk,h.dg,h.lo,h.hi,h.mc,h.cu,h.am,⟨h.pl.1,fun x b=>nL (h.pl.2 x b) a⟩,Nat.le_trans h.ah a,h.bn⟩
theorem GW (t:Tk)(d:Dg t.text):Ze t<10^t.text.size:=by
 have h:=Px t.text.data.toList 0 (fun c f=>by
  obtain⟨k,b,e⟩:=List.getElem_of_mem f;have a:=(d.2 k (by simpa using b)).2;unfold Zv at a;rw[gD,gE b,e]at a;simp at a
  omega)
 have e:t.text.data.toList.length=t.text.size:=by simp
 rw[e]at h;unfold Ze Yt;omega
theorem JX {b:List Zd}{k:List Zc}{e:XX}{r:Zc}(h:Ym b k e=.ok r)(y:WL (.rule e))(i:GT (.rule e)):UL b.length r/\r.ahead=b.length:=by
 obtain⟨z,A,l,m,C,D,u,E,F,G⟩:=y;have i:1<=e.bin.1.text.size/\1<=e.bin.2.text.size:=i;unfold Ym at h
 split at h
 ·cases h
 split at h
 ·cases h
 split at h
 ·cases h
 split at h
 ·cases h
 split at h
 ·cases h
 rename_i N H
 split at h
 ·cases h
 rename_i I
 cases n:Zr 9999 0 e.mcc with
 |error f=>rw[n]at h;cases h
 |ok d=>
  rw[n]at h
  dsimp only at h
  split at h
  ·cases h
  cases o:Zr 999 0 e.cur with
  |error f=>rw[o]at h;cases h
  |ok g=>
   rw[o]at h
   dsimp only at h
   cases p:ZC b 0 e.act.routes with
   |error f=>rw[p]at h;cases h
   |ok v=>
    rw[p]at h;injection h with h;subst h;have J:=(Wo 9999 e.mcc 0 (by omega)).2 d n;have K:=(Wo 999 e.cur 0 (by omega)).2 g o;obtain⟨L,M⟩:=Qr b e.act.routes 0 v p
    have c:e.bin.2.text.size=e.bin.1.text.size:=by omega
    have O:v.length=e.act.routes.length:=by have:=congrArg List.length L;simpa using this
    refine⟨⟨z,XY _ A,l.1,⟨XY _ l,(RK _ l i.1).2⟩,⟨XY _ m,by dsimp only;rw[<-c];exact(RK _ m i.2).2⟩,?_,?_,?_,⟨by dsimp only;omega,M⟩,U _,by dsimp only;omega,by dsimp only;rw[<-c];exact GW _ m,by dsimp only;omega⟩,rfl⟩
    ·dsimp only
     rw[J];refine⟨by simpa using E,fun x q=>?_⟩;obtain⟨t,s,rfl⟩:=B.1 q;exact XY _ (C t s)
    ·dsimp only
     rw[K];refine⟨by simpa using F,fun x q=>?_⟩;obtain⟨t,s,rfl⟩:=B.1 q;exact XY _ (D t s)
    ·intro P a
     dsimp only at a
     cases j:e.amount with
     |none=>rw[j]at a;cases a
     |some w=>
      rw[j]at a;simp only[Option.map_some,Option.some.injEq]at a;subst a;exact⟨XY _ (u w j).1,XY _ (u w j).2⟩
theorem On:∀(g:List Yk)(a:List Zd)(b:List Zc)(p:List Zd×List Zc),YE a b->Xz (a.map Zd.name)->(∀x,x∈g->WL x/\GT x)->ZZ a b g=.ok p->YE p.1 p.2
 |[],a,b,p,hB,_,_,h=>by
  simp only[ZZ]at h;injection h with h;subst h;exact hB
 | .route e::g,a,b,p,hB,hd,ho,h=>by
  have i:WL (.route e):=(ho (.route e) (by simp)).1
  cases c:ZJ a e with
  |error f=>rw[Xr (f:=f) (by simp only[VT,c])]at h;cases h
  |ok t=>
   rw[X4 (p:=(a++[t],b)) (by simp only[VT,c])]at h;have k:=Vy hB.r6 hd c;have m:=(UQ a e hB.r6).2 t c;refine On g (a++[t]) b p ⟨fun u j=>?_,fun r d=>(hB.rl r d).more (by simp),hB.ah,k.2,hB.l8⟩ k.1 (fun x l=>ho x (by simp[l])) h;rcases E.1 j with j|j
   ·exact hB.rt u j
   ·simp at j
    subst j;rw[m];exact⟨i.1,XY _ i.2.1,XY _ i.2.2⟩
 | .rule e::g,a,b,p,hB,hd,ho,h=>by
  have i:=ho (.rule e) (by simp)
  cases c:Ym a b e with
  |error f=>rw[Xr (f:=f) (by simp only[VT,c])]at h;cases h
  |ok t=>
   rw[X4 (p:=(a,b++[t])) (by simp only[VT,c])]at h;obtain⟨n,o⟩:=JX c i.1 i.2;refine On g a (b++[t]) p ⟨hB.rt,fun r d=>?_,N8 o b 0 (K _) (fun x l=>(hB.rl x l).ah) hB.ah,hB.r6,QS hB.l8 c⟩ hd (fun x l=>ho x (by simp[l])) h;rcases E.1 d with d|d
   ·exact hB.rl r d
   ·simp at d
    subst d;exact n
theorem Oo {s:ByteArray}{p:List Zd×List Zc}(h:XP s=.ok p):YE p.1 p.2:=by
 unfold XP at h
 split at h
 ·cases h
 rename_i o
 cases a:ZL s 0 1 []with
 |error l=>rw[a]at h;cases h
 |ok ts=>
  rw[a]at h
  dsimp only at h
  cases b:Zu ts 0 []with
  |error l=>rw[b]at h;cases h
  |ok r=>
   obtain⟨e,k⟩:=r;rw[b]at h
   dsimp only at h
   obtain⟨body,f,i,g⟩:=Kb a;have c:=QV _ 0 1 [] ts rfl (K _) a;simp only[List.length_nil]at c;have j:=P0 (ts:=ts) (n:=s.size) (T2 _ 0 1 [] ts rfl (by simp) a).1 (by omega) (by omega) _ 0 [] e k rfl (by simp) b;rw[f]at b;have m:=I8 rfl i _ 0 [] e k rfl (fun x d=>by simp at d) b;exact On e [] [] p ⟨by simp,by simp,trivial,by simp,by simp⟩ trivial (fun x d=>⟨j x d,(m x d).2⟩) h
structure ZK where
 d:Nat
 x:Nat
def ZK.longer (p:ZK)(k:Nat):ZK:=⟨p.d+1,p.x*10+k⟩
def ZK.holds (p q:ZK):Bool:=decide (p.d<=q.d)&&(q.x/10^(q.d-p.d)==p.x)
def Oq (a b:Nat):Nat->Nat->Nat
 |0,k=>k
 |n+1,k=>if a/10^k % 10=0/\a+10^(k+1)<=b+1 then Oq a b n (k+1)else k
def Su (a b:Nat):Nat:=Oq a b 9 0
def YF (d a:Nat):Nat->Nat->List ZK
 |0,_=>[]
 |n+1,low=>if low<=a then⟨d-Su low a,low/10^Su low a⟩::YF d a n (low+10^Su low a)else[]
def YQ (d lo a:Nat):List ZK:=YF d a (a+1-lo) lo
def ZO (q:ZK):List ZK->Nat
 |[]=>0
 |p::r=>if p.holds q then 2 else if q.holds p then 1 else ZO q r
def Xd (q:ZK)(c:Nat):Prop:=c/10^(6-q.d)=q.x
def Ot (d lo a c:Nat):Prop:=lo<=c/10^(6-d)/\c/10^(6-d)<=a
theorem Wp (c a b:Nat):c/10^(a+b)=c/10^a/10^b:=by rw[Nat.pow_add,Nat.div_div_eq_div_mul]
theorem Sm {p q:ZK}:p.holds q=true↔p.d<=q.d/\q.x/10^(q.d-p.d)=p.x:=by
 unfold ZK.holds;simp
theorem EM {p q:ZK}{c:Nat}(h:p.holds q=true)(e:q.d<=6)(a:Xd q c):Xd p c:=by
 obtain⟨f,b⟩:=Sm.1 h;unfold Xd at*;rw[show 6-p.d=(6-q.d)+(q.d-p.d)from by omega,Wp,a,b]
theorem BS {p q:ZK}{c:Nat}(b:Xd p c)(e:Xd q c)(a:p.d<=q.d)(f:q.d<=6):p.holds q=true:=by
 refine Sm.2 ⟨a,?_⟩;unfold Xd at*;rw[<-e,<-Wp,show(6-q.d)+(q.d-p.d)=6-p.d from by omega];exact b
def BL (a b k:Nat):Prop:=10^k∣a/\a+10^k<=b+1
theorem Kc {a c k:Nat}(h:BL a c k)(d:a/10^k % 10=0)(f:a+10^(k+1)<=c+1):BL a c (k+1):=by
 refine⟨?_,f⟩;obtain⟨m,e⟩:=h.1;have b:0<10^k:=O (by omega)
 have g:a/10^k=m:=by rw[e,Y _ b]
 rw[g]at d;obtain⟨j,i⟩:10∣m:=Nat.dvd_of_mod_eq_zero d;exact⟨j,by rw[e,i,Nat.pow_succ,Nat.mul_assoc]⟩
theorem N9 {a b:Nat}:∀(n k:Nat),BL a b k->BL a b (Oq a b n k)
 |0,_,h=>h
 |n+1,k,h=>by
  unfold Oq
  split
  ·rename_i c
   exact N9 n (k+1) (Kc h c.1 c.2)
  ·exact h
theorem M8 {a b:Nat}(h:a<=b):BL a b (Su a b):=N9 9 0 ⟨by simp,by simp;omega⟩
theorem Tq {a b:Nat}(h:10^a<=10^b):a<=b:=(Nat.pow_le_pow_iff_right (by omega)).1 h
theorem C9 {a b d:Nat}(h:a<=b)(c:b<10^d):Su a b<=d:=by
 have e:=(M8 h).2;exact Tq (by omega)
theorem Kd {d a f c:Nat}(h:a<=f)(j:f<10^d)(p:d<=6):Xd ⟨d-Su a f,a/10^Su a f⟩ c↔a<=c/10^(6-d)/\c/10^(6-d)<a+10^Su a f:=by
 have q:=C9 h j;obtain⟨m,l⟩:=(M8 h).1;generalize Su a f=k at*;unfold Xd;have b:0<10^k:=O (by omega)
 show c/10^(6-(d-k))=a/10^k↔_
 rw[show 6-(d-k)=(6-d)+k from by omega,Wp,l,Y _ b];generalize c/10^(6-d)=y
 constructor
 ·intro e
  have g:=Nat.div_add_mod y (10^k);have i:=Nat.mod_lt y b;rw[e]at g;omega
 ·rintro⟨g,i⟩
  have n:10^k*m<=y:=g
  have o:y<10^k*(m+1):=by rw[Nat.mul_add,Nat.mul_one];exact i
  apply Nat.le_antisymm
  ·exact Nat.le_of_lt_succ ((Nat.div_lt_iff_lt_mul b).2 (by rw[D];exact o))
  ·exact(Nat.le_div_iff_mul_le b).2 (by rw[D];exact n)
theorem US {d b c:Nat}(i:b<10^d)(j:d<=6){p:ZK}:∀(n a:Nat),p∈YF d b n a->p.d<=d/\(Xd p c->a<=c/10^(6-d)/\c/10^(6-d)<=b)
 |0,_,h=>by simp[YF]at h
 |n+1,a,h=>by
  unfold YF at h
  split at h
  ·rename_i k
   rcases H.1 h with e|h
   ·subst e
    refine⟨Nat.sub_le _ _,fun f=>?_⟩;have g:=(Kd k i j).1 f;have m:=(M8 k).2;omega
   ·have g:=US i j n _ h (c:=c)
    have l:0<10^Su a b:=O (by omega);exact⟨g.1,fun f=>by have:=g.2 f;omega⟩
  ·cases h
theorem QW {d b c:Nat}(f:b<10^d)(g:d<=6):∀(n a:Nat),b+1-a<=n->a<=c/10^(6-d)->c/10^(6-d)<=b->∃p,p∈YF d b n a/\Xd p c
 |0,a,hn,h1,h2=>by omega
 |n+1,a,hn,h1,h2=>by
  have h:a<=b:=by omega
  unfold YF;rw[if_pos h];have i:0<10^Su a b:=O (by omega);by_cases j:c/10^(6-d)<a+10^Su a b
  ·exact⟨_,V,(Kd h f g).2 ⟨h1,j⟩⟩
  ·obtain⟨p,k,e⟩:=QW f g n (a+10^Su a b) (by omega) (by omega) h2
   exact⟨p,S _ k,e⟩
theorem Ma {q:ZK}:∀{a:List ZK},ZO q a=2->∃p,p∈a/\p.holds q=true
 |[],h=>by simp[ZO]at h
 |p::r,h=>by
  unfold ZO at h
  split at h
  ·rename_i b;exact⟨p,V,b⟩
  ·split at h
   ·omega
   ·obtain⟨c,d,e⟩:=Ma h
    exact⟨c,S _ d,e⟩
theorem Mb {q:ZK}:∀{c:List ZK},ZO q c=1->∃p,p∈c/\q.d<p.d
 |[],h=>by simp[ZO]at h
 |p::r,h=>by
  unfold ZO at h
  split at h
  ·omega
  ·rename_i g
   split at h
   ·rename_i i
    refine⟨p,V,?_⟩;obtain⟨f,a⟩:=Sm.1 i;rcases Nat.lt_or_ge q.d p.d with b|j
    ·exact b
    ·exfalso
     have e:q.d=p.d:=by omega
     apply g;refine Sm.2 ⟨by omega,?_⟩;rw[e,G,Nat.pow_zero,Nat.div_one]at a ⊢;exact a.symm
   ·obtain⟨k,f,a⟩:=Mb h
    exact⟨k,S _ f,a⟩
theorem Ou {q:ZK}:∀{c:List ZK},ZO q c=0->∀p,p∈c->p.holds q=false/\q.holds p=false
 |[],_,_,b=>by cases b
 |p::r,h,p',a=>by
  unfold ZO at h
  split at h
  ·omega
  ·rename_i b
   split at h
   ·omega
   ·rename_i d
    rcases H.1 a with e|a
    ·subst e;exact⟨by simpa using b,by simpa using d⟩
    ·exact Ou h p' a
theorem Mc (q:ZK):∀a:List ZK,ZO q a<=2
 |[]=>by simp[ZO]
 |p::r=>by
  unfold ZO
  split
  ·omega
  ·split
   ·omega
   ·exact Mc q r
theorem GX {d lo a:Nat}{q:ZK}(b:a<10^d)(e:d<=6)(f:q.d<=6)(h:ZO q (YQ d lo a)=2){c:Nat}(g:Xd q c):Ot d lo a c:=by
 obtain⟨p,i,j⟩:=Ma h;exact(US b e _ _ i).2 (EM j f g)
theorem JY {d lo e:Nat}{q:ZK}(g:e<10^d)(i:d<=6)(l:q.d<=6)(h:ZO q (YQ d lo e)=0){c:Nat}(j:Xd q c):¬Ot d lo e c:=by
 rintro⟨m,n⟩;obtain⟨p,k,b⟩:=QW g i (e+1-lo) lo (U _) m n;have f:=Ou h p k;have o:=(US (c:=c) g i _ _ k).1;rcases Nat.le_total p.d q.d with a|a
 ·rw[BS b j a l]at f;exact absurd f.1 (by simp)
 ·rw[BS j b a (by omega)]at f;exact absurd f.2 (by simp)
theorem JZ {d lo a:Nat}{q:ZK}(b:a<10^d)(e:d<=6)(h:ZO q (YQ d lo a)=1):q.d<d:=by
 obtain⟨p,f,g⟩:=Mb h;have:=(US (c:=0) b e _ _ f).1;omega
inductive Tr where
 |leaf (p:Nat)
 |node (kids:Nat->Tr)
def Xb (q:ZK)(op:Nat):Nat->List Zc->Nat×Nat->Nat×Nat
 |_,[],a=>a
 |i,r::rs,a=>Xb q op (i+1) rs (if op.testBit i then(if ZO q (YQ r.digits r.lo r.hi)=2 then(a.1|||1<<<i,a.2)else if ZO q (YQ r.digits r.lo r.hi)=1 then(a.1,a.2|||1<<<i)else a)else a)
def WG (a:List Nat)(m:Nat):Nat:=a.idxOf m
def V4 (a:List Nat)(m:Nat):List Nat:=if m∈a then a else a++[m]
def Xu (f:Nat->List Nat->Tr×List Nat):Nat->List Nat->(Nat->Tr)×List Nat
 |0,ps=>(fun _=>.leaf 0,ps)
 |k+1,ps=>(fun d=>if d=k then(f k (Xu f k ps).2).1 else(Xu f k ps).1 d,(f k (Xu f k ps).2).2)
def ZR (R:List Zc):Nat->ZK->Nat->Nat->List Nat->Tr×List Nat
 |0,_,_,_,ps=>(.leaf 0,ps)
 |n+1,q,met,op,ps=>
  if(Xb q op 0 R (met,0)).2=0 then(.leaf (WG ps (Xb q op 0 R (met,0)).1),V4 ps (Xb q op 0 R (met,0)).1)
  else(.node (Xu (fun d a=>ZR R n (q.longer d) (Xb q op 0 R (met,0)).1 (Xb q op 0 R (met,0)).2 a) 10 ps).1,(Xu (fun d a=>ZR R n (q.longer d) (Xb q op 0 R (met,0)).1 (Xb q op 0 R (met,0)).2 a) 10 ps).2)
def Tr.find:Tr->(Nat->Nat)->Nat->Nat
 | .leaf p,_,_=>p
 | .node k,dg,n=>(k (dg n)).find dg (n+1)
def Tr.deep:Tr->Nat->Prop
 | .leaf _,_=>True
 | .node k,n=>n<6/\∀d,d<10->(k d).deep (n+1)
def J0 (c n:Nat):Nat:=c/10^(5-n)% 10
theorem EN (a i j:Nat):(a|||1<<<i).testBit j=(a.testBit j||decide (i=j)):=by
 rw[Nat.testBit_or,Nat.shiftLeft_eq,Nat.one_mul,Nat.testBit_two_pow]
theorem M9 {q:ZK}{op:Nat}:∀(R:List Zc)(i:Nat)(a:Nat×Nat)(j:Nat),
    ((Xb q op i R a).1.testBit j=true↔a.1.testBit j=true\/∃r,i<=j/\R[j-i]?=some r/\op.testBit j=true/\ZO q (YQ r.digits r.lo r.hi)=2)/\
    ((Xb q op i R a).2.testBit j=true↔a.2.testBit j=true\/∃r,i<=j/\R[j-i]?=some r/\op.testBit j=true/\ZO q (YQ r.digits r.lo r.hi)=1)
  |[],i,a,j=>by simp[Xb]
  | r::rs,i,a,j=>by
    have n:=fun a=>M9 (q:=q) (op:=op) rs (i+1) a j
    simp only[Xb]
    have g:∀(P:Zc->Prop),(∃d,i<=j/\(r::rs)[j-i]?=some d/\P d)↔((i=j/\P r)\/∃d,i+1<=j/\rs[j-(i+1)]?=some d/\P d):=by
      intro P
      constructor
      · rintro⟨d,f,b,l⟩
        rcases Nat.eq_or_lt_of_le f with e|m
        · subst e
          rw[G]at b;simp at b;subst b;exact J ⟨rfl,l⟩
        · rw[show j-i=(j-(i+1))+1 from by omega,Z]at b
          exact I ⟨d,m,b,l⟩
      · rintro(⟨e,h⟩|⟨d,f,b,l⟩)
        · subst e
          exact⟨r,U _,by simp,h⟩
        · refine⟨d,by omega,?_,l⟩
          rw[show j-i=(j-(i+1))+1 from by omega,Z];exact b
    rw[(n _).1,(n _).2,g,g]
    split
    · rename_i k
      split
      · rename_i b
        simp only[EN]
        constructor
        · simp only[Bool.or_eq_true,decide_eq_true_eq]
          constructor
          · rintro((h|h)|h)
            · exact J h
            · exact I (J ⟨h,by rw[<-h];exact k,b⟩)
            · exact I (I h)
          · rintro(h|⟨h,_⟩|h)
            · exact J (J h)
            · exact J (I h)
            · exact I h
        · constructor
          · rintro(h|h)
            · exact J h
            · exact I (I h)
          · rintro(h|⟨h,_,c⟩|h)
            · exact J h
            · omega
            · exact I h
      · rename_i b
        split
        · rename_i f
          simp only[EN]
          constructor
          · constructor
            · rintro(h|h)
              · exact J h
              · exact I (I h)
            · rintro(h|⟨h,_,c⟩|h)
              · exact J h
              · exact absurd c b
              · exact I h
          · simp only[Bool.or_eq_true,decide_eq_true_eq]
            constructor
            · rintro((h|h)|h)
              · exact J h
              · exact I (J ⟨h,by rw[<-h];exact k,f⟩)
              · exact I (I h)
            · rintro(h|⟨h,_⟩|h)
              · exact J (J h)
              · exact J (I h)
              · exact I h
        · rename_i f
          constructor
          · constructor
            · rintro(h|h)
              · exact J h
              · exact I (I h)
            · rintro(h|⟨h,_,c⟩|h)
              · exact J h
              · exact absurd c b
              · exact I h
          · constructor
            · rintro(h|h)
              · exact J h
              · exact I (I h)
            · rintro(h|⟨h,_,c⟩|h)
              · exact J h
              · exact absurd c f
              · exact I h
    · rename_i k
      constructor
      · constructor
        · rintro(h|h)
          · exact J h
          · exact I (I h)
        · rintro(h|⟨h,c,_⟩|h)
          · exact J h
          · subst h;exact absurd c k
          · exact I h
      · constructor
        · rintro(h|h)
          · exact J h
          · exact I (I h)
        · rintro(h|⟨h,c,_⟩|h)
          · exact J h
          · subst h;exact absurd c k
          · exact I h
def Ov (r:Zc):Prop:=r.digits<=6/\r.hi<10^r.digits
def Sn (R:List Zc)(q:ZK)(met op:Nat):Prop:=
 ∀i r,R[i]?=some r->(met.testBit i=true->∀c,Xd q c->Ot r.digits r.lo r.hi c)/\(met.testBit i=false->op.testBit i=false->∀c,Xd q c->¬Ot r.digits r.lo r.hi c)
theorem J1 {R:List Zc}(n:∀r,r∈R->Ov r){q:ZK}(m:q.d<=6){met op:Nat}(h:Sn R q met op):Sn R q (Xb q op 0 R (met,0)).1 (Xb q op 0 R (met,0)).2:=by
 intro i r b;have j:=n r (mG b);have f:=M9 (q:=q) (op:=op) R 0 (met,0) i;rw[Nat.sub_zero]at f
 constructor
 ·intro k c g
  rcases f.1.1 k with o|⟨v,_,l,_,p⟩
  ·exact(h i r b).1 o c g
  ·rw[b]at l
   injection l with l;subst l;exact GX j.2 j.1 m p g
 ·intro k s c g
  have t:¬(met.testBit i=true):=fun e=>by have:=f.1.2 (J e);rw[k]at this;cases this
  by_cases a:op.testBit i=true
  ·refine JY j.2 j.1 m ?_ g
   have u:=Mc q (YQ r.digits r.lo r.hi)
   have n2:ZO q (YQ r.digits r.lo r.hi)≠2:=fun e=>by have:=f.1.2 (I ⟨r,K _,b,a,e⟩);rw[k]at this;cases this
   have w:ZO q (YQ r.digits r.lo r.hi)≠1:=fun e=>by have:=f.2.2 (I ⟨r,K _,b,a,e⟩);rw[s]at this;cases this
   omega
  ·exact(h i r b).2 (by simpa using t) (by simpa using a) c g
theorem GY {q:ZK}{c:Nat}(a:q.d<6):Xd (q.longer (J0 c q.d)) c↔Xd q c:=by
 unfold Xd J0 ZK.longer;simp only;rw[show 6-q.d=(5-q.d)+1 from by omega,show 6-(q.d+1)=5-q.d from by omega,Wp];simp only[M];generalize c/10^(5-q.d)=y;omega
theorem La {R:List Zc}{q:ZK}{met op d:Nat}(j:q.d<6)(k:d<10)(h:Sn R q met op):Sn R (q.longer d) met op:=by
 intro i r f
 have b:∀c,Xd (q.longer d) c->Xd q c:=by
  intro c a;unfold Xd ZK.longer at*;simp only at a;rw[show 6-q.d=(5-q.d)+1 from by omega,Wp];rw[show 6-(q.d+1)=5-q.d from by omega]at a;rw[a,M];omega
 exact⟨fun e c a=>(h i r f).1 e c (b c a),fun e g c a=>(h i r f).2 e g c (b c a)⟩
theorem J3 (a:List Nat)(m:Nat):∃s,V4 a m=a++s:=by
 unfold V4
 split
 ·exact⟨[],by simp⟩
 ·exact⟨[m],rfl⟩
theorem GZ (a:List Nat)(m:Nat):(V4 a m)[WG a m]?=some m:=by
 unfold V4 WG
 split
 ·rename_i h
  have:=List.idxOf_lt_length_of_mem h;rw[gE this,List.getElem_idxOf this]
 ·rename_i h
  rw[List.idxOf_eq_length h];simp
theorem Ow {R:List Zc}(b:∀r,r∈R->Ov r){q:ZK}{met op:Nat}(h:(Xb q op 0 R (met,0)).2≠0):q.d<6:=by
 obtain⟨j,c⟩:=Nat.exists_testBit_of_ne_zero h;rcases(M9 R 0 (met,0) j).2.1 c with e|⟨r,_,f,_,g⟩
 ·simp at e
 ·have a:=b r (mG f)
  have:=JZ a.2 a.1 g;have:=a.1;omega
def Re (R:List Zc)(q:ZK)(t:Tr)(a:List Nat):Prop:=
 t.deep q.d/\∀c,Xd q c->∃m,a[t.find (J0 c) q.d]?=some m/\∀i r,R[i]?=some r->(m.testBit i=true↔Ot r.digits r.lo r.hi c)
theorem Re.ext {R:List Zc}{q:ZK}{t:Tr}{a s:List Nat}(h:Re R q t a):Re R q t (a++s):=
 ⟨h.1,fun c d=>by
  obtain⟨m,b,e⟩:=h.2 c d
  exact⟨m,by rw[List.getElem?_append_left (iG.1 b).1];exact b,e⟩⟩
theorem Ke {f:Nat->List Nat->Tr×List Nat}(b:∀d a,∃s,(f d a).2=a++s):∀(k:Nat)(a:List Nat),∃s,(Xu f k a).2=a++s
 |0,a=>⟨[],by simp[Xu]⟩
 |k+1,a=>by
  obtain⟨c,e⟩:=Ke b k a;obtain⟨g,h⟩:=b k (Xu f k a).2;exact⟨c++g,by show(f k (Xu f k a).2).2=_;rw[h,e,List.append_assoc]⟩
theorem I9 {R:List Zc}{q:ZK}{f:Nat->List Nat->Tr×List Nat}(b:∀d a,∃s,(f d a).2=a++s)(c:∀d a,d<10->Re R (q.longer d) (f d a).1 (f d a).2):∀(k:Nat)(a:List Nat),k<=10->∀d,d<k->Re R (q.longer d) ((Xu f k a).1 d) (Xu f k a).2
 |0,_,_,_,hd=>by omega
 |k+1,a,hk,d,hd=>by
  by_cases e:d=k
  ·subst e
   simp only[Xu,if_true];exact c d _ (by omega)
  ·simp only[Xu,if_neg e]
   obtain⟨s,g⟩:=b k (Xu f k a).2;rw[g];exact(I9 b c k a (by omega) d (by omega)).ext
theorem Kf (R:List Zc):∀(n:Nat)(q:ZK)(met op:Nat)(b:List Nat),∃s,(ZR R n q met op b).2=b++s
 |0,_,_,_,b=>⟨[],by simp[ZR]⟩
 |n+1,q,met,op,b=>by
  simp only[ZR]
  split
  ·exact J3 _ _
  ·exact Ke (f:=fun d a=>ZR R n (q.longer d) (Xb q op 0 R (met,0)).1 (Xb q op 0 R (met,0)).2 a) (fun d a=>Kf R n _ _ _ a) 10 b
theorem Lc {R:List Zc}(j:∀r,r∈R->Ov r):∀(n:Nat)(q:ZK)(met op:Nat)(g:List Nat),7<=n+q.d->q.d<=6->Sn R q met op->Re R q (ZR R n q met op g).1 (ZR R n q met op g).2
 |0,q,_,_,_,hn,hq,_=>by omega
 |n+1,q,met,op,g,hn,hq,hk=>by
  have k:=J1 j hq hk;simp only[ZR]
  split
  ·rename_i l
   refine⟨trivial,fun c h=>⟨_,GZ _ _,fun i r o=>?_⟩⟩
   constructor
   ·intro m;exact(k i r o).1 m c h
   ·intro p
    cases m:(Xb q op 0 R (met,0)).1.testBit i with
    |true=>rfl
    |false=>exact absurd p ((k i r o).2 m (by rw[l];simp) c h)
  ·rename_i l
   have b:=Ow j l
   have s:∀d a,d<10->Re R (q.longer d) (ZR R n (q.longer d) (Xb q op 0 R (met,0)).1 (Xb q op 0 R (met,0)).2 a).1 (ZR R n (q.longer d) (Xb q op 0 R (met,0)).1 (Xb q op 0 R (met,0)).2 a).2:=fun d a e=>
    Lc j n (q.longer d) _ _ a (by show 7<=n+(q.d+1);omega) (by show q.d+1<=6;omega) (La b e k)
   have f:=I9 (fun d a=>Kf R n _ _ _ a) s 10 g (U _);refine⟨⟨b,fun d e=>(f d e).1⟩,fun c h=>?_⟩
   have e:J0 c q.d<10:=by unfold J0;omega
   exact(f _ e).2 c ((GY b).2 h)
