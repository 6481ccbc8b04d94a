import Derived.Test.YtccikgogjfbpeaaGreatDoorAe
open Or renaming inr->I,inl->J
open List renaming getElem?_cons_succ->S
namespace Go.Proofs.YtccikgogjfbpeaaGreatDoor
set_option maxRecDepth 30000
set_option maxHeartbeats 8000000
inductive Tr where
 |leaf (p:Nat)
 |node (kids:Nat->Tr)
def Yz (q:Z3)(op:Nat):Nat->List Ze->Nat×Nat->Nat×Nat
 |_,[],a=>a
 |i,r::rs,a=>Yz q op (i+1) rs (if op.testBit i then(if ZH q (YP r.digits r.lo r.hi)=2 then(a.1|||1<<<i,a.2)else if ZH q (YP r.digits r.lo r.hi)=1 then(a.1,a.2|||1<<<i)else a)else a)
def Vc (a:List Nat)(m:Nat):Nat:=a.idxOf m
def Wv (a:List Nat)(m:Nat):List Nat:=if m∈a then a else a++[m]
def YA (f:Nat->List Nat->Tr×List Nat):Nat->List Nat->(Nat->Tr)×List Nat
 |0,ps=>(fun _=>.leaf 0,ps)
 |k+1,ps=>(fun d=>if d=k then(f k (YA f k ps).2).1 else(YA f k ps).1 d,(f k (YA f k ps).2).2)
def ZG (R:List Ze):Nat->Z3->Nat->Nat->List Nat->Tr×List Nat
 |0,_,_,_,ps=>(.leaf 0,ps)
 |n+1,q,met,op,ps=>
  if(Yz q op 0 R (met,0)).2=0 then(.leaf (Vc ps (Yz q op 0 R (met,0)).1),Wv ps (Yz q op 0 R (met,0)).1)
  else(.node (YA (fun d a=>ZG R n (q.longer d) (Yz q op 0 R (met,0)).1 (Yz q op 0 R (met,0)).2 a) 10 ps).1,(YA (fun d a=>ZG R n (q.longer d) (Yz q op 0 R (met,0)).1 (Yz q op 0 R (met,0)).2 a) 10 ps).2)
def Tr.find:Tr->(Nat->Nat)->Nat->Nat
 | .leaf p,_,_=>p
 | .node k,dg,n=>(k (dg n)).find dg (n+1)
def Tr.deep:Tr->Nat->Prop
 | .leaf _,_=>True
 | .node k,n=>n<6/\∀d,d<10->(k d).deep (n+1)
def Iu (c n:Nat):Nat:=c/10^(5-n)% 10
theorem Ao (a i j):(a|||1<<<i).testBit j=(a.testBit j||decide (i=j)):=by
 rw[Nat.testBit_or,Nat.shiftLeft_eq,Nat.one_mul,Nat.testBit_two_pow]
theorem QN {q:Z3}{op:Nat}:∀(R:List Ze)(i:Nat)(a:Nat×Nat)(j:Nat),
    ((Yz q op i R a).1.testBit j=true↔a.1.testBit j=true\/∃r,i<=j/\R[j-i]?=some r/\op.testBit j=true/\ZH q (YP r.digits r.lo r.hi)=2)/\
    ((Yz q op i R a).2.testBit j=true↔a.2.testBit j=true\/∃r,i<=j/\R[j-i]?=some r/\op.testBit j=true/\ZH q (YP r.digits r.lo r.hi)=1)
  |[],i,a,j=>by simp[Yz]
  | r::rs,i,a,j=>by
    have n:=fun a=>QN (q:=q) (op:=op) rs (i+1) a j
    simp only[Yz]
    have g:∀(P:Ze->Prop),(∃d,i<=j/\(r::rs)[j-i]?=some d/\P d)↔((i=j/\P r)\/∃d,i+1<=j/\rs[j-(i+1)]?=some d/\P d):=by
      intro P
      constructor
      · rintro⟨d,f,b,l⟩
        rcases Nat.eq_or_lt_of_le f with e|m
        · subst e
          rw[Nat.sub_self]at b;simp at b;subst b;exact J ⟨rfl,l⟩
        rw[show j-i=(j-(i+1))+1 from by omega,S]at b
        exact I ⟨d,m,b,l⟩
      rintro(⟨e,h⟩|⟨d,f,b,l⟩)
      · subst e
        exact⟨r,Nat.le_refl _,by simp,h⟩
      refine⟨d,by omega,?_,l⟩
      rw[show j-i=(j-(i+1))+1 from by omega,S];exact b
    rw[(n _).1,(n _).2,g,g]
    split
    · rename_i k
      split
      · rename_i b
        simp only[Ao]
        constructor
        · simp only[Bool.or_eq_true,decide_eq_true_eq]
          constructor
          · rintro((h|h)|h)
            · exact J h
            · exact I (J ⟨h,by rw[<-h];exact k,b⟩)
            exact I (I h)
          rintro(h|⟨h,_⟩|h)
          · exact J (J h)
          · exact J (I h)
          exact I h
        constructor
        · rintro(h|h)
          · exact J h
          exact I (I h)
        rintro(h|⟨h,_,c⟩|h)
        · exact J h
        · omega
        exact I h
      rename_i b
      split
      · rename_i f
        simp only[Ao]
        constructor
        · constructor
          · rintro(h|h)
            · exact J h
            exact I (I h)
          rintro(h|⟨h,_,c⟩|h)
          · exact J h
          · exact absurd c b
          exact I h
        simp only[Bool.or_eq_true,decide_eq_true_eq]
        constructor
        · rintro((h|h)|h)
          · exact J h
          · exact I (J ⟨h,by rw[<-h];exact k,f⟩)
          exact I (I h)
        rintro(h|⟨h,_⟩|h)
        · exact J (J h)
        · exact J (I h)
        exact I h
      rename_i f
      constructor
      · constructor
        · rintro(h|h)
          · exact J h
          exact I (I h)
        rintro(h|⟨h,_,c⟩|h)
        · exact J h
        · exact absurd c b
        exact I h
      constructor
      · rintro(h|h)
        · exact J h
        exact I (I h)
      rintro(h|⟨h,_,c⟩|h)
      · exact J h
      · exact absurd c f
      exact I h
    rename_i k
    constructor
    · constructor
      · rintro(h|h)
        · exact J h
        exact I (I h)
      rintro(h|⟨h,c,_⟩|h)
      · exact J h
      · subst h;exact absurd c k
      exact I h
    constructor
    · rintro(h|h)
      · exact J h
      exact I (I h)
    rintro(h|⟨h,c,_⟩|h)
    · exact J h
    · subst h;exact absurd c k
    exact I h
def QO (r:Ze):Prop:=r.digits<=6/\r.hi<10^r.digits
def T9 (R:List Ze)(q:Z3)(met op:Nat):Prop:=
 ∀i r,R[i]?=some r->(met.testBit i=true->∀c,YQ q c->RF r.digits r.lo r.hi c)/\(met.testBit i=false->op.testBit i=false->∀c,YQ q c->¬RF r.digits r.lo r.hi c)
theorem NF {R}(n:∀r,r∈R->QO r){q}(m:q.d<=6){met op}(h:T9 R q met op):T9 R q (Yz q op 0 R (met,0)).1 (Yz q op 0 R (met,0)).2:=by
 intro i r b;have j:=n r (mG b);have f:=QN (q:=q) (op:=op) R 0 (met,0) i;rw[Nat.sub_zero]at f
 constructor
 ·intro k c g
  rcases f.1.1 k with o|⟨v,_,l,_,p⟩
  ·exact(h i r b).1 o c g
  rw[b]at l
  injection l with l;subst l;exact D4 j.2 j.1 m p g
 intro k s c g
 have t:¬(met.testBit i=true):=fun e=>by have:=f.1.2 (J e);rw[k]at this;cases this
 by_cases a:op.testBit i=true
 ·refine G6 j.2 j.1 m ?_ g
  have u:=L5 q (YP r.digits r.lo r.hi)
  have n2:ZH q (YP r.digits r.lo r.hi)≠2:=fun e=>by have:=f.1.2 (I ⟨r,Nat.zero_le _,b,a,e⟩);rw[k]at this;cases this
  have w:ZH q (YP r.digits r.lo r.hi)≠1:=fun e=>by have:=f.2.2 (I ⟨r,Nat.zero_le _,b,a,e⟩);rw[s]at this;cases this
  omega
 exact(h i r b).2 (by simpa using t) (by simpa using a) c g
theorem Cd {q c}(a:q.d<6):YQ (q.longer (Iu c q.d)) c↔YQ q c:=by
 unfold YQ Iu Z3.longer;simp only;rw[show 6-q.d=(5-q.d)+1 from by omega,show 6-(q.d+1)=5-q.d from by omega,Y4];simp only[Nat.pow_one];generalize c/10^(5-q.d)=y;omega
theorem QP {R q met op d}(j:q.d<6)(k:d<10)(h:T9 R q met op):T9 R (q.longer d) met op:=by
 intro i r f
 have b:∀c,YQ (q.longer d) c->YQ q c:=by
  intro c a;unfold YQ Z3.longer at*;simp only at a;rw[show 6-q.d=(5-q.d)+1 from by omega,Y4];rw[show 6-(q.d+1)=5-q.d from by omega]at a;rw[a,Nat.pow_one];omega
 exact⟨fun e c a=>(h i r f).1 e c (b c a),fun e g c a=>(h i r f).2 e g c (b c a)⟩
theorem Fk (a m):∃s,Wv a m=a++s:=by
 unfold Wv
 split
 ·exact⟨[],by simp⟩
 exact⟨[m],rfl⟩
theorem L9 (a m):(Wv a m)[Vc a m]?=some m:=by
 unfold Wv Vc
 split
 ·rename_i h
  have:=List.idxOf_lt_length_of_mem h;rw[gE this,List.getElem_idxOf this]
 rename_i h
 rw[List.idxOf_eq_length h];simp
theorem Jq {c m}(h:c.Nodup):(Wv c m).Nodup:=by
 unfold Wv
 split
 ·exact h
 rename_i f
 rw[List.nodup_append];exact⟨h,by simp,fun a g b d=>by simp at d;subst d;exact fun e=>f (e▸g)⟩
theorem Sa {R}(b:∀r,r∈R->QO r){q met op}(h:(Yz q op 0 R (met,0)).2≠0):q.d<6:=by
 obtain⟨j,c⟩:=Nat.exists_testBit_of_ne_zero h;rcases(QN R 0 (met,0) j).2.1 c with e|⟨r,_,f,_,g⟩
 ·simp at e
 have a:=b r (mG f)
 have:=Nn a.2 a.1 g;have:=a.1;omega
def Qc (R:List Ze)(q:Z3)(t:Tr)(a:List Nat):Prop:=
 t.deep q.d/\∀c,YQ q c->∃m,a[t.find (Iu c) q.d]?=some m/\∀i r,R[i]?=some r->(m.testBit i=true↔RF r.digits r.lo r.hi c)
theorem Qc.ext {R q t a s}(h:Qc R q t a):Qc R q t (a++s):=
 ⟨h.1,fun c d=>by
  obtain⟨m,b,e⟩:=h.2 c d
  exact⟨m,by rw[List.getElem?_append_left (iG.1 b).1];exact b,e⟩⟩
theorem Iv {f:Nat->List Nat->Tr×List Nat}(b:∀d a,∃s,(f d a).2=a++s):∀(k:Nat)(a:List Nat),∃s,(YA f k a).2=a++s
 |0,a=>⟨[],by simp[YA]⟩
 |k+1,a=>by
  obtain⟨c,e⟩:=Iv b k a;obtain⟨g,h⟩:=b k (YA f k a).2;exact⟨c++g,by show(f k (YA f k a).2).2=_;rw[h,e,List.append_assoc]⟩
theorem EV {R:List Ze}{q:Z3}{f:Nat->List Nat->Tr×List Nat}(b:∀d a,∃s,(f d a).2=a++s)(c:∀d a,d<10->Qc R (q.longer d) (f d a).1 (f d a).2):∀(k:Nat)(a:List Nat),k<=10->∀d,d<k->Qc R (q.longer d) ((YA f k a).1 d) (YA f k a).2
 |0,_,_,_,hd=>by omega
 |k+1,a,hk,d,hd=>by
  by_cases e:d=k
  ·subst e
   simp only[YA,if_true];exact c d _ (by omega)
  simp only[YA,if_neg e]
  obtain⟨s,g⟩:=b k (YA f k a).2;rw[g];exact(EV b c k a (by omega) d (by omega)).ext
theorem NG (R:List Ze):∀(n:Nat)(q:Z3)(met op:Nat)(b:List Nat),∃s,(ZG R n q met op b).2=b++s
 |0,_,_,_,b=>⟨[],by simp[ZG]⟩
 |n+1,q,met,op,b=>by
  simp only[ZG]
  split
  ·exact Fk _ _
  exact Iv (f:=fun d a=>ZG R n (q.longer d) (Yz q op 0 R (met,0)).1 (Yz q op 0 R (met,0)).2 a) (fun d a=>NG R n _ _ _ a) 10 b
theorem Jr {R:List Ze}(j:∀r,r∈R->QO r):∀(n:Nat)(q:Z3)(met op:Nat)(g:List Nat),7<=n+q.d->q.d<=6->T9 R q met op->Qc R q (ZG R n q met op g).1 (ZG R n q met op g).2
 |0,q,_,_,_,hn,hq,_=>by omega
 |n+1,q,met,op,g,hn,hq,hk=>by
  have k:=NF j hq hk;simp only[ZG]
  split
  ·rename_i l
   refine⟨trivial,fun c h=>⟨_,L9 _ _,fun i r o=>?_⟩⟩
   constructor
   ·intro m;exact(k i r o).1 m c h
   intro hi
   cases m:(Yz q op 0 R (met,0)).1.testBit i with
   |true=>rfl
   |false=>exact absurd hi ((k i r o).2 m (by rw[l];simp) c h)
  rename_i l
  have b:=Sa j l
  have p:∀d a,d<10->Qc R (q.longer d) (ZG R n (q.longer d) (Yz q op 0 R (met,0)).1 (Yz q op 0 R (met,0)).2 a).1 (ZG R n (q.longer d) (Yz q op 0 R (met,0)).1 (Yz q op 0 R (met,0)).2 a).2:=fun d a e=>
   Jr j n (q.longer d) _ _ a (by show 7<=n+(q.d+1);omega) (by show q.d+1<=6;omega) (QP b e k)
  have f:=EV (fun d a=>NG R n _ _ _ a) p 10 g (Nat.le_refl _);refine⟨⟨b,fun d e=>(f d e).1⟩,fun c h=>?_⟩
  have e:Iu c q.d<10:=by unfold Iu;omega
  exact(f _ e).2 c ((Cd b).2 h)
