import Derived.Test.YtccikgogjfbpeaaGreatDoorAb
import Derived.Laws.Bits64b
import Derived.RangeFuncNested
import Derived.RangeFuncBound
import Derived.RangeFuncCalls
import Derived.RangeFuncLeaves
import Derived.Shelf.Abstract
import Derived.Shelf.RegionOpen
import Derived.OwnWalkIn
import Derived.TacticsInMore
import Derived.LoopNIn
import Derived.LoopIn
import Derived.Laws.AppendOwnNone
import Derived.Maps.OwnSet
import Derived.Maps.Views
open Go.Value renaming int->I,slice->U,pointer->O,bool->y8,slice->j4,string->j5,agg->j9,string->k6,oneCell'->k7,ownBlock->b6
open Go.IntKind renaming i64->V,u8->g7,u64->c5
open Option renaming none->Y,some->Z
open Or renaming inr->E,inl->z8
open Go.Proofs.Tryz renaming prog->C
open Go.Obj renaming cells->Q
open Go.Ending renaming returned->z9
open Go.RowKit renaming Hid->y9
open Nat renaming le_trans->q8,le_refl->j2,pow_le_pow_right->g6,le_of_eq->g9,zero_le->b3,pow_succ->b5,zero_add->b7,div_le_self->c7,add_zero->c8,shiftLeft_eq->m2,pow_one->m6,pow_lt_pow_right->n4,sub_self->s5,add_sub_cancel->s6,eq_zero_or_pos->s8,one_mul->r4,lt_or_ge->l4,zero_mul->l5,pow_pos->l6
open Go renaming World->j0,Calls->j1,Value->j7
open List renaming getElem?_append_left->j3,length_take->j8,getElem?_cons_succ->k9,mem_append->g5,mem_cons->p9,map_append->b2,take_add_one->b4,range->b8,length_eq_zero_iff->b9,append_assoc->c4,pairwise_cons->c9,length_drop->m3,append_nil->m5,take_append_drop->m7,getElem?_eq_none->m8,idxOf_eq_length->m9,mem_cons_of_mem->n5,mem_of_mem_take->n6,pairwise_append->n7,getElem_of_mem->s4,mem_cons_self->s7,nodup_append->s9,idxOf_append->r0,length_cons->r5,getElem_mem->r6,length_map->r8,all_append->r9,find?_cons->h8,drop_zero->h9,map_cons->l0,all_cons->l3
open Go.World renaming news_of_block->j6,cell?_setCell_other->k4,cell?_alloc_some->c6,cell?_setCell_same->m4
open _root_.ByteArray renaming empty->k5
open Go.AllReadyH renaming nil->k8
open Bool renaming false_eq_true->m0,true_and->m1,or_eq_true->r7
open Go.Proofs.Tryz
namespace Go.Proofs.YtccikgogjfbpeaaGreatDoor
set_option linter.defProp false
set_option maxRecDepth 30000
set_option maxHeartbeats 8000000
inductive Tr where
 |leaf (p:Nat)
 |node (kids:Nat->Tr)
def YH (q:Z6)(op:Nat):Nat->List Ze->Nat×Nat->Nat×Nat
 |_,[],a=>a
 |i,r::rs,a=>YH q op (i+1) rs (if op.testBit i then(if ZK q (YX r.digits r.lo r.hi)=2 then(a.1|||1<<<i,a.2)else if ZK q (YX r.digits r.lo r.hi)=1 then(a.1,a.2|||1<<<i)else a)else a)
def Vo (a:List Nat)(m:Nat):Nat:=a.idxOf m
def WE (a:List Nat)(m:Nat):List Nat:=if m∈a then a else a++[m]
def YI (f:Nat->List Nat->Tr×List Nat):Nat->List Nat->(Nat->Tr)×List Nat
 |0,ps=>(fun _=>.leaf 0,ps)
 |k+1,ps=>(fun d=>if d=k then(f k (YI f k ps).2).1 else(YI f k ps).1 d,(f k (YI f k ps).2).2)
def ZI (R:List Ze):Nat->Z6->Nat->Nat->List Nat->Tr×List Nat
 |0,_,_,_,ps=>(.leaf 0,ps)
 |n+1,q,met,op,ps=>
  if(YH q op 0 R (met,0)).2=0 then(.leaf (Vo ps (YH q op 0 R (met,0)).1),WE ps (YH q op 0 R (met,0)).1)
  else(.node (YI (fun d a=>ZI R n (q.longer d) (YH q op 0 R (met,0)).1 (YH q op 0 R (met,0)).2 a) 10 ps).1,(YI (fun d a=>ZI R n (q.longer d) (YH q op 0 R (met,0)).1 (YH q op 0 R (met,0)).2 a) 10 ps).2)
def Tr.find:Tr->(Nat->Nat)->Nat->Nat
 | .leaf p,_,_=>p
 | .node k,dg,n=>(k (dg n)).find dg (n+1)
def Tr.deep:Tr->Nat->Prop
 | .leaf _,_=>True
 | .node k,n=>n<6/\∀d,d<10->(k d).deep (n+1)
def In (c n:Nat):Nat:=c/10^(5-n)% 10
def yH (a i j):(a|||1<<<i).testBit j=(a.testBit j||decide (i=j)):=by
 rw[Nat.testBit_or,m2,r4,Nat.testBit_two_pow]
def PE {q:Z6}{op:Nat}:∀(R:List Ze)(i:Nat)(a:Nat×Nat)(j:Nat),
    ((YH q op i R a).1.testBit j=true↔a.1.testBit j=true\/∃r,i<=j/\R[j-i]?=Z r/\op.testBit j=true/\ZK q (YX r.digits r.lo r.hi)=2)/\
    ((YH q op i R a).2.testBit j=true↔a.2.testBit j=true\/∃r,i<=j/\R[j-i]?=Z r/\op.testBit j=true/\ZK q (YX r.digits r.lo r.hi)=1)
  |[],i,a,j=>by simp[YH]
  | r::rs,i,a,j=>by
    have n:=fun a=>PE (q:=q) (op:=op) rs (i+1) a j
    simp only[YH]
    have g:∀(P:Ze->Prop),(∃d,i<=j/\(r::rs)[j-i]?=Z d/\P d)↔((i=j/\P r)\/∃d,i+1<=j/\rs[j-(i+1)]?=Z d/\P d):=by
      intro P
      constructor
      · rintro⟨d,f,b,l⟩
        rcases Nat.eq_or_lt_of_le f with e|m
        · subst e
          rw[s5]at b;simp at b;subst b;exact z8 ⟨rfl,l⟩
        rw[show j-i=(j-(i+1))+1 from z,k9]at b;exact E ⟨d,m,b,l⟩
      rintro(⟨e,h⟩|⟨d,f,b,l⟩)
      · subst e
        exact⟨r,j2 _,y,h⟩
      refine⟨d,z,?_,l⟩;rw[show j-i=(j-(i+1))+1 from z,k9];exact b
    rw[(n _).1,(n _).2,g,g]
    split
    · rename_i k
      split
      · rename_i b
        simp only[yH]
        constructor
        · simp only[r7,decide_eq_true_eq]
          constructor
          · rintro((h|h)|h)
            · exact z8 h
            · exact E (z8 ⟨h,by rw[<-h];exact k,b⟩)
            exact E (E h)
          rintro(h|⟨h,_⟩|h)
          · exact z8 (z8 h)
          · exact z8 (E h)
          exact E h
        constructor
        · rintro(h|h)
          · exact z8 h
          exact E (E h)
        rintro(h|⟨h,_,c⟩|h)
        · exact z8 h
        · omega
        exact E h
      rename_i b
      split
      · rename_i f
        simp only[yH]
        constructor
        · constructor
          · rintro(h|h)
            · exact z8 h
            exact E (E h)
          rintro(h|⟨h,_,c⟩|h)
          · exact z8 h
          · exact absurd c b
          exact E h
        simp only[r7,decide_eq_true_eq]
        constructor
        · rintro((h|h)|h)
          · exact z8 h
          · exact E (z8 ⟨h,by rw[<-h];exact k,f⟩)
          exact E (E h)
        rintro(h|⟨h,_⟩|h)
        · exact z8 (z8 h)
        · exact z8 (E h)
        exact E h
      rename_i f
      constructor
      · constructor
        · rintro(h|h)
          · exact z8 h
          exact E (E h)
        rintro(h|⟨h,_,c⟩|h)
        · exact z8 h
        · exact absurd c b
        exact E h
      constructor
      · rintro(h|h)
        · exact z8 h
        exact E (E h)
      rintro(h|⟨h,_,c⟩|h)
      · exact z8 h
      · exact absurd c f
      exact E h
    rename_i k
    constructor
    · constructor
      · rintro(h|h)
        · exact z8 h
        exact E (E h)
      rintro(h|⟨h,c,_⟩|h)
      · exact z8 h
      · subst h;exact absurd c k
      exact E h
    constructor
    · rintro(h|h)
      · exact z8 h
      exact E (E h)
    rintro(h|⟨h,c,_⟩|h)
    · exact z8 h
    · subst h;exact absurd c k
    exact E h
def PF (r:Ze):Prop:=r.digits<=6/\r.hi<10^r.digits
def Sx (R:List Ze)(q:Z6)(a op:Nat):Prop:=
 ∀i r,R[i]?=Z r->(a.testBit i=true->∀c,YY q c->Qi r.digits r.lo r.hi c)/\(a.testBit i=false->op.testBit i=false->∀c,YY q c->¬Qi r.digits r.lo r.hi c)
def MM {R}(o:∀r,r∈R->PF r){q}(n:q.d<=6){a op}(h:Sx R q a op):Sx R q (YH q op 0 R (a,0)).1 (YH q op 0 R (a,0)).2:=by
 intro i r f;have k:=o r (mG f);have g:=PE (q:=q) (op:=op) R 0 (a,0) i;rw[Nat.sub_zero]at g
 constructor
 ·intro l c j;rcases g.1.1 l with p|⟨w,_,m,_,s⟩
  ·exact(h i r f).1 p c j
  rw[f]at m;injection m with m;subst m;exact BE k.2 k.1 n s j
 intro l t c j
 have u:¬(a.testBit i=true):=fun e=>by have:=g.1.2 (z8 e);rw[l]at this;cases this
 by_cases b:op.testBit i=true
 ·refine Ek k.2 k.1 n ?_ j;have v:=KW q (YX r.digits r.lo r.hi)
  have x:ZK q (YX r.digits r.lo r.hi)≠2:=fun e=>by have:=g.1.2 (E ⟨r,b3 _,f,b,e⟩);rw[l]at this;cases this
  have y:ZK q (YX r.digits r.lo r.hi)≠1:=fun e=>by have:=g.2.2 (E ⟨r,b3 _,f,b,e⟩);rw[t]at this;cases this
  omega
 exact(h i r f).2 (by simpa using u) (by simpa using b) c j
def BW {q c}(a:q.d<6):YY (q.longer (In c q.d)) c↔YY q c:=by
 unfold YY In Z6.longer;simp only;rw[show 6-q.d=(5-q.d)+1 from z,show 6-(q.d+1)=5-q.d from z,Xb];simp only[m6];generalize c/10^(5-q.d)=y;omega
def PG {R q b g d}(l:q.d<6)(m:d<10)(h:Sx R q b g):Sx R (q.longer d) b g:=by
 intro i r j
 have e:∀c,YY (q.longer d) c->YY q c:=by
  intro c a;unfold YY Z6.longer at*;simp only at a;rw[show 6-q.d=(5-q.d)+1 from z,Xb];rw[show 6-(q.d+1)=5-q.d from z]at a;rw[a,m6];omega
 exact⟨fun f c a=>(h i r j).1 f c (e c a),fun f k c a=>(h i r j).2 f k c (e c a)⟩
def ED (a m):∃s,WE a m=a++s:=by
 unfold WE
 split
 ·exact⟨[],y⟩
 exact⟨[m],rfl⟩
def Je (a m):(WE a m)[Vo a m]?=Z m:=by
 unfold WE Vo
 split
 ·rename_i h;have:=List.idxOf_lt_length_of_mem h;rw[gE this,List.getElem_idxOf this]
 rename_i h;rw[m9 h];simp
def Io {c m}(h:c.Nodup):(WE c m).Nodup:=by
 unfold WE
 split
 ·exact h
 rename_i f;rw[s9];exact⟨h,y,fun a g b d=>by simp at d;subst d;exact fun e=>f (e▸g)⟩
def Sy {R}(b:∀r,r∈R->PF r){q met op}(h:(YH q op 0 R (met,0)).2≠0):q.d<6:=by
 obtain⟨j,c⟩:=Nat.exists_testBit_of_ne_zero h;rcases(PE R 0 (met,0) j).2.1 c with e|⟨r,_,f,_,g⟩
 ·simp at e
 have a:=b r (mG f);have:=Mm a.2 a.1 g;have:=a.1;omega
def QN (R:List Ze)(q:Z6)(t:Tr)(a:List Nat):Prop:=
 t.deep q.d/\∀c,YY q c->∃m,a[t.find (In c) q.d]?=Z m/\∀i r,R[i]?=Z r->(m.testBit i=true↔Qi r.digits r.lo r.hi c)
def QN.ext {R q t a s}(h:QN R q t a):QN R q t (a++s):=
 ⟨h.1,fun c d=>by
  obtain⟨m,b,e⟩:=h.2 c d
  exact⟨m,by rw[j3 (iG.1 b).1];exact b,e⟩⟩
def Gj {f:Nat->List Nat->Tr×List Nat}(b:∀d a,∃s,(f d a).2=a++s):∀(k:Nat)(a:List Nat),∃s,(YI f k a).2=a++s
 |0,a=>⟨[],by simp[YI]⟩
 |k+1,a=>by
  obtain⟨c,e⟩:=Gj b k a;obtain⟨g,h⟩:=b k (YI f k a).2;exact⟨c++g,by show(f k (YI f k a).2).2=_;rw[h,e,c4]⟩
def Cq {R:List Ze}{q:Z6}{f:Nat->List Nat->Tr×List Nat}(b:∀d a,∃s,(f d a).2=a++s)(c:∀d a,d<10->QN R (q.longer d) (f d a).1 (f d a).2):∀(k:Nat)(a:List Nat),k<=10->∀d,d<k->QN R (q.longer d) ((YI f k a).1 d) (YI f k a).2
 |0,_,_,_,hd=>z
 |k+1,a,hk,d,hd=>by
  by_cases e:d=k
  ·subst e;simp only[YI,if_true];exact c d _ z
  simp only[YI,if_neg e];obtain⟨s,g⟩:=b k (YI f k a).2;rw[g];exact(Cq b c k a z d z).ext
def MN (R:List Ze):∀(n:Nat)(q:Z6)(a e:Nat)(c:List Nat),∃s,(ZI R n q a e c).2=c++s
 |0,_,_,_,c=>⟨[],by simp[ZI]⟩
 |n+1,q,a,e,c=>by
  simp only[ZI]
  split
  ·exact ED _ _
  exact Gj (f:=fun d b=>ZI R n (q.longer d) (YH q e 0 R (a,0)).1 (YH q e 0 R (a,0)).2 b) (fun d b=>MN R n _ _ _ b) 10 c
def Ip {R:List Ze}(l:∀r,r∈R->PF r):∀(n:Nat)(q:Z6)(a e:Nat)(j:List Nat),7<=n+q.d->q.d<=6->Sx R q a e->QN R q (ZI R n q a e j).1 (ZI R n q a e j).2
 |0,q,_,_,_,hn,hq,_=>z
 |n+1,q,a,e,j,hn,hq,hk=>by
  have m:=MM l hq hk;simp only[ZI]
  split
  ·rename_i o;refine⟨trivial,fun c k=>⟨_,Je _ _,fun i r s=>?_⟩⟩
   constructor
   ·intro p;exact(m i r s).1 p c k
   intro t
   cases p:(YH q e 0 R (a,0)).1.testBit i with
   |true=>rfl
   |false=>exact absurd t ((m i r s).2 p (by rw[o];simp) c k)
  rename_i o;have f:=Sy l o
  have u:∀d b,d<10->QN R (q.longer d) (ZI R n (q.longer d) (YH q e 0 R (a,0)).1 (YH q e 0 R (a,0)).2 b).1 (ZI R n (q.longer d) (YH q e 0 R (a,0)).1 (YH q e 0 R (a,0)).2 b).2:=fun d b g=>
   Ip l n (q.longer d) _ _ b (by show 7<=n+(q.d+1);omega) (by show q.d+1<=6;omega) (PG f g m)
  have h:=Cq (fun d b=>MN R n _ _ _ b) u 10 j (j2 _);refine⟨⟨f,fun d g=>(h d g).1⟩,fun c k=>?_⟩
  have g:In c q.d<10:=by unfold In;omega
  exact(h _ g).2 c ((BW f).2 k)
open Go.RowKit
def Rp {a b}(h:a=b):Ending.returned (y8 a)=z9 (y8 b):=by rw[h]
def has_eq (s i:Nat)(c:s<256):(bits BinOp.and c5 ((s:Int)/2^i) 1 !=0)=s.testBit i:=by
 have e:((s:Int)/2^i)=((s/2^i:Nat):Int):=y;have b:s/2^i<=s:=c7 _ _;have a:=bits_and_u64_nat (s/2^i) 1 z z;rw[e];rw[show((1:Nat):Int)=(1:Int)from rfl]at a;rw[a];unfold Nat.testBit;rw[Nat.shiftRight_eq_div_pow,Nat.and_comm]
 have:∀n:Nat,((n:Int) !=0)=(n !=0):=fun n=>by cases n<;>rfl
 exact this _
def vO (s i:Nat)(d:s<256)(b:i<8):bits BinOp.or c5 (s:Int) (c5.wrap (2^i))=((s|||1<<<i:Nat):Int):=by
 have c:2^i<256:=by
  have:=n4 (a:=2) z b
  simpa using this
 have e:c5.wrap (2^i)=((2^i:Nat):Int):=by
  rw[show((2:Int)^i)=((2^i:Nat):Int)from aA];generalize 2^i=y at c;exact IntWalk.u64_in _ z
 rw[e,bits_or_u64_nat s (2^i) z z,m2,r4]
def uY (s i)(d:s<256)(b:i<8):s|||1<<<i<256:=by
 have c:1<<<i<2^8:=by
  rw[m2,r4];exact n4 (a:=2) z b
 exact Nat.or_lt_two_pow (n:=8) z c
def Cr (s i:Nat)(w)(a:s<256)(g:i<8):
  j1 C 145 #[I .u64 s,I V i] w fun e b=>e=z9 (y8 (s.testBit i))/\b=w:=by
 have c:(0:Int)<=(i:Int):=z;have d:(0:Int)<=(s:Int):=z;have f:(s:Int)<256:=z;go_enter func145,ntmps145;go_wp2;go_ret;exact⟨Rp (has_eq s i a),rfl⟩
def yI (s i:Nat)(w)(a:s<256)(b:i<8):
  j1 C 147 #[I .u64 s,I V i] w fun e c=>e=z9 (I .u64 (s|||1<<<i:Nat))/\c=w:=by
 have d:(0:Int)<=(i:Int):=z;have f:(0:Int)<=(s:Int):=z;have g:(s:Int)<256:=z;go_enter func147,ntmps147;go_wp2;go_ret;exact⟨ZQ (vO s i a b),rfl⟩
def PQ (w:j0)(b c d a x:Nat):Prop:=
 w.cell? ⟨b,0,Y⟩=Z (I V c)/\w.cell? ⟨b,1,Y⟩=Z (I V d)/\w.cell? ⟨b+1,0,Y⟩=Z (I V a)/\w.cell? ⟨b+1,1,Y⟩=Z (I V x)/\∀o,w.frozen? ⟨b+1,o,Y⟩=false
def PQ.less {w b c d a x}(h:PQ w b c d a x)(k:0<a):PQ ((w.setCell ⟨b+1,0,Y⟩ (I V ((a:Int)-1))).setCell ⟨b+1,1,Y⟩ (I V ((x:Int)/10))) b c d (a-1) (x/10):=by
 obtain⟨e,f,g,i,j⟩:=h;refine⟨?_,?_,?_,?_,fun o=>by simp[j o]⟩
 ·rw[cO _ _ _ _ y,cO _ _ _ _ y];exact e
 ·rw[cO _ _ _ _ y,cO _ _ _ _ y];exact f
 ·rw[cO _ _ _ _ y,cS _ _ _ g,show((a-1:Nat):Int)=(a:Int)-1 from z]
 rw[cS _ _ _ (by rw[cO _ _ _ _ y];exact i),show((x/10:Nat):Int)=(x:Int)/10 from z]
def VY (p:Z6):j7:=j9 #[I V p.d,I V p.x]
def EE (p)(k:Nat)(w)(b:p.d<=6)(c:p.x<=1000000)(f:k<10):
  j1 C 149 #[VY p,I V k] w fun e a=>e=z9 (VY (p.longer k))/\Below w.heap.size w a:=by
 unfold VY Z6.longer;obtain⟨d,x⟩:=p;simp only at*;go_enter func149,ntmps149;go_wp2;refine bodyPost_ret (v:=j9 #[I V ((d:Int)+1),I V ((x:Int)*10+(k:Int))]) (by simp[results,results149,go_sem]) rfl ⟨aE,?_⟩;exact((Below.refl _ _).alloc (j2 _) _).alloc y _
def BX (p q w)(Z:p.d<=6)(hq:q.d<=6)(M:q.x<=1000000)(hy:p.x<=1000000):
  j1 C 186 #[VY p,VY q] w fun e N=>e=z9 (y8 (p.holds q))/\Below w.heap.size w N:=by
 unfold VY;obtain⟨c,r⟩:=p;obtain⟨g,s⟩:=q;simp only at*;go_enter func186,ntmps186;go_wp2_with fail;obtain⟨v,l,i⟩:=Hc w (Q #[I V c,I V r] 181) (Q #[I V g,I V s] 181);generalize(w.alloc _).alloc _=W at*;obtain⟨b,D⟩:=ad w.heap.size;rw[D]at l i ⊢;have O:=Za D;have P:y9 (Fr (fun k=>b<=k) w W):=v.mono;have R:y9 (PQ W b c r g s):=⟨Zc l 0,Zc l 1,Zc i 0,Zc i 1,fun o=>bF i o⟩;clear v l i D
 go_loopg [] 7 (fun m wr=>∃j,j<=g/\(j=0\/c<=g-j)/\j+m=7/\y9 (Fr (fun k=>b<=k) w wr)/\y9 (PQ wr b c r (g-j) (s/10^j)))
 case atStart=>exact⟨0,b3 _,z8 rfl,rfl,P,by have:=R.o;show PQ _ _ _ _ _ _;simpa using this⟩
 obtain⟨j,hj,S,hm,y,t⟩:=hrel;obtain⟨a,F⟩:=ad (g-j);obtain⟨x,n⟩:=ad (s/10^j)
 have T:x<=1000000:=by rw[<-n];exact q8 (c7 _ _) M
 have J:=Za n;have f:=Za F;rw[F,n]at t;have U:a<=6:=az;obtain⟨c0,c1,d0,d1,fz⟩:=t.o;clear F n;by_cases X:c<a
 ·have z:=af c a;have K:=t.o.less az;have G:=Za K;clear K;go_wp2;go_roundg (7-(j+1))
  case measure=>omega
  refine⟨j+1,aj f.o,E (aj f.o),az,(y.o.setCell (p:=⟨b+1,0,Y⟩) (z8 (by show b<=b+1;omega)) _).setCell (p:=⟨b+1,1,Y⟩) (z8 (by show b<=b+1;omega)) _,?_⟩;have A:g-(j+1)=a-1:=aj f.o
  have B:s/10^(j+1)=x/10:=by rw[<-J.o,Xb,m6]
  rw[A,B];exact G
 have z:=ai c a
 have H:y9 (Z6.holds ⟨c,r⟩ ⟨g,s⟩=(decide (a=c)&&decide (x=r))):=by
  show _=_
  unfold Z6.holds;simp only;rcases l4 g c with L|L
  ·rw[decide_eq_false (by omega:¬c<=g),decide_eq_false (by have:=f.o;omega:¬a=c)];simp
  have e:a=c:=aj f.o;rw[decide_eq_true L,decide_eq_true e,<-J.o,show j=g-c from aj f.o]
  by_cases h:s/10^(g-c)=r<;>simp[h]
 have u:=Za (y.o.below (j2 _) (fun k hk=>aj O.o));by_cases A:a=c
 ·subst A;by_cases B:x=r
  ·subst B;go_wp2;go_ret;exact⟨Rp (by rw[H.o];simp),u.o⟩
  have ex:((x:Int)==(r:Int))=false:=aF;go_wp2;go_ret;exact⟨Rp (by rw[H.o];simp[B]),u.o⟩
 have ea:((a:Int)==(c:Int))=false:=aF;go_wp2;go_ret;exact⟨Rp (by rw[H.o];simp[A]),u.o⟩
open Go.Shelf
attribute [local go_sem] Oper.semAt_some
def Kt (w:j0)(o):w.grownBy (w.alloc o) Y:=by
 have f:=(Fr.refl (fun _=>False) w).alloc o;exact⟨f.os,f.tape,f.output,f.size,fun k a _=>f.block k a y⟩
abbrev Rq:={p:Z6//p.d<=6/\p.x<=1000000}
def BY (D b c:Nat)(w):
  j1 C 185 #[I V D,j9 #[I V b,I V c]] w fun e f=>e=z9 (.func (.func 221) #[] #[O (Z ⟨w.heap.size+1,0,Y⟩),O (Z ⟨w.heap.size,0,Y⟩)])/\f=(w.alloc (Q #[I V D] 3)).alloc (Q #[I V b,I V c] 118):=by
 have g:∀(d:Fn)(first a:Array j7)(w:j0),(Instr.makeFunc d first a).run C w=.ok (.func d first a) w:=fun _ _ _ _=>rfl
 go_enter func185,ntmps185;go_wp2;go_ret;exact⟨rfl,rfl⟩
set_option maxRecDepth 100000 in
def BZ (n l Bs Bd G)(D lo f:Nat)(F)(hD:D<=6)(v0:lo<=1000000)(d0:f<10^D)(w0:F.map Subtype.val=YX D lo f)(J Jx:List Rq->j0->Prop)(W)(hJ:AbidesFrom W.heap.size J)(hY:∀b x H,J b H->b.length<F.length->YieldAt Fence.wide (n-1) C l #[VY x.1] H fun e E=>
      (e=z9 (y8 true)/\J (b++[x]) E/\Below G H E)\/(e=z9 (y8 false)/\Jx (b++[x]) E))(e0:G<=W.heap.size)(K:Bs<G)(x0:Bd<G)(h0:W.cell? ⟨Bs,0,Y⟩=Z (I V lo))(h1:W.cell? ⟨Bs,1,Y⟩=Z (I V f))(h2:W.cell? ⟨Bd,0,Y⟩=Z (I V D))(hj:J [] W):
    CallsIn Fence.wide n C 221 #[.func (.yield l) #[] #[],O (Z ⟨Bs,0,Y⟩),O (Z ⟨Bd,0,Y⟩)] W fun e E=>(∃v,e=z9 v)/\
      ((∃ys,ys=F/\J ys E)\/(∃b,b<+:F/\Jx b E)):=by
  refine callsIn_wide.2 ?_;go_enter func221,ntmps221;have HJ:=o hJ
  have HY:y9 (∀b x H,J b H->b.length<F.length->YieldAt Fence.wide (n-1) C l #[VY x.1] H fun e E=>
      (e=z9 (y8 true)/\J (b++[x]) E/\Below G H E)\/(e=z9 (y8 false)/\Jx (b++[x]) E)):=hY
  have y0:=o w0;have HC:y9 (W.cell? ⟨Bs,1,Y⟩=Z (I V f)/\W.cell? ⟨Bd,0,Y⟩=Z (I V D)):=⟨h1,h2⟩;have f0:=o d0;have M0:f<1000000:=nL d0 (g6 (n:=10) az hD);go_wp2
  go_loopg [4] (f+1-lo) (fun m lw wr=>∃(b i:List Rq)(c:Nat),lw=I V (c:Nat)/\c<=1000000/\f+1-c<=m/\y9 (F=b++i)/\y9 (i.map Subtype.val=Yr D f m c)/\y9 (J b wr)/\y9 (Below G W wr)/\y9 (W.heap.size<=wr.heap.size))
  case atStart=>exact⟨[],F,lo,rfl,v0,az,rfl,y0,hj,Below.refl _ _,j2 _⟩
  obtain⟨b,i,c,rfl,g0,hm,HX,HR,i0,HB,z0⟩:=hrel;obtain⟨M,hM⟩:=ae gk;subst hM;have c1:=(HB.o.cell (p:=⟨Bs,1,Y⟩) K).trans HC.o.1;have c2:wr.cell? ⟨Bd,0,Y⟩=Z (I V D):=(HB.o.cell (p:=⟨Bd,0,Y⟩) x0).trans HC.o.2;by_cases k0:c<=f
  · have m0:(c:Int)<=(f:Int):=by omega
    have c3:(wr.alloc (Q #[I V 0,I V 0] 181)).cell? ⟨Bd,0,Y⟩=Z (I V D):=by rw[c6 _ _ _ (by simp[c2])];exact c2
    go_wp2
    go_region
    have A0:y9 (J b wr.drew):=HJ.o b wr wr.drew Y i0.o ⟨rfl,rfl,rfl,j2 _,fun _ _ _=>rfl⟩ (fun _ e=>by cases e);have B0:y9 (Below G W wr.drew):=HB.o.drew;have C0:y9 (W.heap.size<=wr.drew.heap.size):=z0.o;have L:(wr.alloc (Q #[I V D,I V c] 181)).drew=wr.drew.alloc (Q #[I V D,I V c] 181):=rfl;rw[L];obtain⟨P,hP⟩:=ad wr.heap.size;have D0:y9 (wr.drew.heap.size=P):=hP;rw[hP];generalize wr.drew=Wd at*;go_wp2
    go_loopg [5] 9 (fun m sz wq=>∃(k:Nat)(q:j0),k+m=9/\sz=I V ((10^k:Nat):Int)/\y9 (SM c f m k=SZ c f)/\y9 (vC c f k)/\y9 (J b q)/\y9 (Below G W q)/\y9 (W.heap.size<=q.heap.size)/\y9 (q.heap.size=P)/\y9 (wq=q.alloc (Q #[I V ((D-k:Nat):Int),I V ((c/10^k:Nat):Int)] 181)))
    case atStart=>exact⟨0,Wd,rfl,rfl,rfl,⟨aA,aF⟩,A0,B0,C0,D0,by show _=_;simp⟩
    obtain⟨k,q,N0,rfl,n0,j,o0,s,t,E0,F0⟩:=hrel;have eW:=F0.o;subst eW;have eP:=E0.o;subst eP;have O0:k<=6:=Ss (by have:=j.o.2;show 10^k<=1000000;omega);have P0:k<=D:=Ss (ak j.o.2 f0.o);obtain⟨y,hy⟩:∃y,10^k=y:=⟨_,rfl⟩;obtain⟨z,hz⟩:=ad (c/10^k);obtain⟨a,ha⟩:=ad (D-k);have g:=o hy;have u:=o hz;have N:=o ha;have Q0:y<=1000000:=aj j.o.2
    have R0:z<=1000000:=by rw[<-hz];exact q8 (c7 _ _) g0
    have S0:a<=6:=az;rw[hz,ha];rw[hy];have c1:(q.alloc (Q #[I V a,I V z] 181)).cell? ⟨Bs,1,Y⟩=Z (I V f):=((s.o.cell (p:=⟨Bs,1,Y⟩) K).trans HC.o.1)▸(c6 _ _ _ (by rw[(s.o.cell (p:=⟨Bs,1,Y⟩) K),HC.o.1];simp));by_cases hc:z % 10=0/\c+y*10<=f+1
    · have G0:((z:Int)% 10==0)=true:=by simp;omega
      have p0:(c:Int)+(y:Int)*10-1<=(f:Int):=az;have R:=o (HJ.o b q q.drew Y o0.o ⟨rfl,rfl,rfl,j2 _,fun _ _ _=>rfl⟩ (fun _ e=>by cases e))
      have T0:1<=a:=by
        have h1:=j.o.2
        have h2:10^(k+1)<=10^D:=by rw[b5,g.o];have:=f0.o;omega
        have:=Ss h2;have:=N.o;omega
      go_wp2
      go_region
      go_wp2;go_roundg (8-k)
      case measure=>omega
      refine⟨k+1,q.drew,az,?_,?_,?_,R,s.o.drew,t,rfl,?_⟩
      · rw[b5,g.o];go_num
      · have e:=n0.o
        obtain⟨g1,H0⟩:∃g1,gk=g1+1:=⟨8-k,az⟩;rw[H0]at e;unfold SM at e;rw[if_pos ⟨by rw[u.o];exact hc.1,by rw[b5,g.o];exact hc.2⟩]at e
        show _=_
        rw[show 8-k=g1 from az];exact e
      · exact Hn j.o (by rw[u.o];exact hc.1) (by rw[b5,g.o];exact hc.2)
      have e1:((D-(k+1):Nat):Int)=(a:Int)-1:=aj N.o
      have e2:((c/10^(k+1):Nat):Int)=(z:Int)/10:=by rw[Xb,u.o,m6];omega
      show _=_
      rw[e1,e2];rfl
    have HK:y9 (SZ c f=k):=by
      have e:=n0.o
      show _=_
      rw[<-e]
      cases gk with
      |zero=>rfl
      |succ g1=>unfold SM;rw[if_neg (by rw[u.o,b5,g.o];exact hc)]
    obtain⟨x,d,w,hx,q0⟩:∃(x:Rq)(d:List Rq),y9 (i=x::d)/\x.1=⟨a,z⟩/\y9 (d.map Subtype.val=Yr D f (M-1) (c+y)):=by
      have e:=HR.o;obtain⟨M',r0⟩:∃M',M=M'+1:=⟨M-1,az⟩;rw[r0]at e;unfold Yr at e;rw[if_pos k0,HK.o,u.o,g.o,N.o]at e
      cases i with
      |nil=>simp at e
      | cons x r=>
        simp only[l0,List.cons.injEq]at e;exact⟨x,r,rfl,e.1,by rw[r0,s6];exact e.2⟩
    have R:y9 (J b (q.alloc (Q #[I V a,I V z] 181))):=HJ.o b q _ Y o0.o (Kt q _) (fun _ e=>by cases e);obtain⟨fn,K0,t0,L0,S,hR⟩:=HY.o b x _ R.o (by rw[HX.o,w.o];simp);rw[hx]at S;unfold VY at S;simp only at S;have s0:=o hR;by_cases G0:z % 10=0
    · have I0:((z:Int)% 10==0)=true:=by simp;omega
      have p0:¬(c:Int)+(y:Int)*10-1<=(f:Int):=az;go_upto_region 5 with fail;refine(wpIn_wide (n:=n)).1 ?_
      gi_wp2
      refine⟨fun h=>(by cases h),s0.o.mono ?_⟩;rintro e W3 (⟨rfl,T,A⟩|⟨rfl,B⟩)
      · have U:=o T
        have X:=o ((s.o.alloc (q8 e0 t.o) _).trans A);have a0:=o (q8 t.o (q8 aA A.size))
        gi_wp2
        go_wp2;go_roundg (M-1)
        case measure=>omega
        exact⟨b++[x],d,c+y,aE,ak j.o.2 g.o,by have:0<y:=by{have:=g.o;have:0<10^k:=l6 az;omega};omega,by show _=_;rw[HX.o,w.o];simp,q0,U,X,a0⟩
      have b0:=o B
      gi_wp2
      go_wp2;refine bodyPost_ret (results_none rfl _ _ _) rfl ?_;exact⟨⟨_,rfl⟩,.inr ⟨b++[x],⟨d,by rw[HX.o,w.o];simp⟩,b0.o⟩⟩
    have I0:((z:Int)% 10==0)=false:=aF;go_upto_region 5 with fail;refine(wpIn_wide (n:=n)).1 ?_
    gi_wp2
    refine⟨fun h=>(by cases h),s0.o.mono ?_⟩;rintro e W3 (⟨rfl,T,A⟩|⟨rfl,B⟩)
    · have U:=o T
      have X:=o ((s.o.alloc (q8 e0 t.o) _).trans A);have a0:=o (q8 t.o (q8 aA A.size))
      gi_wp2
      go_wp2;go_roundg (M-1)
      case measure=>omega
      exact⟨b++[x],d,c+y,aE,ak j.o.2 g.o,by have:0<y:=by{have:=g.o;have:0<10^k:=l6 az;omega};omega,by show _=_;rw[HX.o,w.o];simp,q0,U,X,a0⟩
    have b0:=o B
    gi_wp2
    go_wp2;refine bodyPost_ret (results_none rfl _ _ _) rfl ?_;exact⟨⟨_,rfl⟩,.inr ⟨b++[x],⟨d,by rw[HX.o,w.o];simp⟩,b0.o⟩⟩
  have m0:¬(c:Int)<=(f:Int):=az
  have J0:y9 (b=F):=by
    have e:=HR.o
    have e2:Yr D f M c=[]:=by cases M with
      |zero=>rfl
      |succ M'=>unfold Yr;rw[if_neg k0]
    rw[e2]at e;have:i=[]:=List.map_eq_nil_iff.1 e
    show _=_
    rw[HX.o,this];simp
  go_wp2
  go_end0
  have c0:=i0.o;rw[J0.o]at c0;exact⟨⟨_,rfl⟩,.inl (by first|exact c0|exact⟨F,rfl,c0⟩)⟩
attribute [local go_sem] Oper.semAt_some
def Gk (n Bs Bd c)(D f g:Nat)(d)(o:D<=6)(i:f<=1000000)(j:g<10^D)(k:d.map Subtype.val=YX D f g)(w)(a:c<=w.heap.size)(b:Bs<c)(e:Bd<c)(q:w.cell? ⟨Bs,0,Y⟩=Z (I V f))(r:w.cell? ⟨Bs,1,Y⟩=Z (I V g))(s:w.cell? ⟨Bd,0,Y⟩=Z (I V D)):
    SeqStopsK Fence.wide n C 221 #[O (Z ⟨Bs,0,Y⟩),O (Z ⟨Bd,0,Y⟩)] (fun x:Rq=>#[VY x.1]) (Below c) (fun t=>t=d) (fun m=>m<+:d) d.length w:=fun l J u W h v _ y z=>
  BZ n l Bs Bd c D f g d o i j k J u W v y (q8 a h.size) b e
    ((h.cell (p:=⟨Bs,0,Y⟩) (nL b a)).trans q) ((h.cell (p:=⟨Bs,1,Y⟩) (nL b a)).trans r) ((h.cell (p:=⟨Bd,0,Y⟩) (nL e a)).trans s) z
def F3 (b:ByteArray)(c d lo e:Nat)(f:Option Addr)(g h:Nat)(a:Bool)(i j:Nat)(k:Option Addr)(l m:Nat)(n o:Bool)(p:Option Addr)(q r:Nat)(s:Nat):j7:=
 j9 #[k6 b,I V c,I V d,I V lo,I V e,U f g h,y8 a,I V i,I V j,U k l m,y8 n,y8 o,U p q r,I V s]
def Rr {q:Z6}:∀{pre:List Z6}(a:List Z6),(∀p,p∈pre->p.holds q=false/\q.holds p=false)->ZK q (pre++a)=ZK q a
 |[],_,_=>rfl
 |p::r,a,h=>by
  have b:=h p s7;rw[<-Rr (pre:=r) a (fun x c=>h x (n5 _ c))]
  show ZK q (p::(r++a))=_
  rw[ZK,b.1,b.2];simp
def Iq (q:Z6)(a:List Rq):Prop:=∀p:Z6,p∈a.map Subtype.val->p.holds q=false/\q.holds p=false
def pR (w:j0)(b:Nat)(q:Z6)(a:List Rq)(W:j0):Prop:=
 (Iq q a/\W.cell? ⟨b+1,0,Y⟩=Z (I V q.d)/\W.cell? ⟨b+1,1,Y⟩=Z (I V q.x)/\W.cell? ⟨b+1+1,0,Y⟩=Z (I V 0)/\W.frozen? ⟨b+1+1,0,Y⟩=false/\b+5<=W.heap.size)/\Below b w W
def pD (w:j0)(b:Nat)(q:Z6)(c:Code)(d:List Rq)(W:j0):Prop:=
 (c=.ret/\∃v:Nat,W.cell? ⟨b+1+1,0,Y⟩=Z (I V v)/\∀a,ZK q (d.map Subtype.val++a)=v)/\Below b w W
def yJ {w W b q a x}(f:Iq q a)(v:Nat)(g:W.cell? ⟨b+1+1,0,Y⟩=Z (I V v))(h:(x.1.holds q=true/\v=2)\/(x.1.holds q=false/\q.holds x.1=true/\v=1))(i:Below b w W):pD w b q .ret (a++[x]) W:=by
 refine⟨⟨rfl,v,g,fun c=>?_⟩,i⟩;rw[b2,c4,Rr _ f]
 show ZK q (x.1::c)=v
 unfold ZK;rcases h with⟨d,e⟩|⟨d,e,j⟩
 ·rw[d];simp[e]
 rw[d,e];simp[j]
def Gl {q b x}(c:Iq q b)(d:x.1.holds q=false)(e:q.holds x.1=false):Iq q (b++[x]):=by
 intro p a;rw[b2,g5]at a;rcases a with a|a
 ·exact c p a
 simp at a;subst a;exact⟨d,e⟩
def VZ {W a}(h:Below W.heap.size W a):KeepsOthers W a:=⟨h.size,fun k _ b _=>(h.block k (iA.1 b).1).trans b⟩
set_option maxRecDepth 100000 in
def yK (nm rk D lo j ma mn mc J a7 a8 ca cn cc dc ch pa pn pc ah q w)(hD:D<=6)(h0:lo<=1000000)(i0:j<10^D)(hq:q.d<=6/\q.x<=1000000)(xs:List Rq)(L:xs.map Subtype.val=YX D lo j):
  CallsIn Fence.wide 5 C 146 #[F3 nm rk D lo j ma mn mc J a7 a8 ca cn cc dc ch pa pn pc ah,VY q] w fun e w'=>e=z9 (I V (ZK q (YX D lo j)))/\Below w.heap.size w w':=by
 unfold F3 VY;refine callsIn_of_wp_marks func146 rfl trivial ?_ rfl;simp only[ntmps146,List.size_toArray,r5,List.length_nil,Nat.reduceAdd,Nat.reduceSub,Array.replicate_succ,Array.replicate_zero,List.push_toArray,List.append_toArray,List.nil_append,List.cons_append]
 gi_wp2
 refine⟨trivial,?_⟩;refine(callsIn_wide.2 (BY _ _ _ _)).mono ?_;rintro e w' ⟨rfl,rfl⟩
 gi_wp2
 generalize r0:Value.agg #[k6 nm,I V rk,I V D,I V lo,I V j,U ma mn mc,y8 J,I V a7,I V a8,U ca cn cc,y8 dc,y8 ch,U pa pn pc,I V ah]=RV;generalize s0:Obj.cells #[k6 nm,I V rk,I V D,I V lo,I V j,U ma mn mc,y8 J,I V a7,I V a8,U ca cn cc,y8 dc,y8 ch,U pa pn pc,I V ah] 120=RC;obtain⟨n,i⟩:=ad (((((w.alloc RC).alloc (Q #[I V q.d,I V q.x] 181)).alloc (Q #[I V 0] 244)).alloc (Q #[I V D] 3)).alloc (Q #[I V lo,I V j] 118));obtain⟨b,G⟩:=ad w.heap.size
 have t0:n.heap.size=b+5:=by rw[<-i,<-G];simp
 have hF:F0 w n:=by rw[<-i];exact(((Zo.alloc _).alloc _).alloc _).alloc _|>.alloc _
 have l0:Below b w n:=hF.below az
 have o1:n.heap[b+1]?=Z (Q #[I V q.d,I V q.x] 181):=by
  rw[<-i,<-G];exact((((Fr.refl (fun _=>False) _).alloc _).alloc _).alloc _).whole (by have:=aN (w.alloc RC) (Q #[I V q.d,I V q.x] 181);simpa using this) aA
 have o2:n.heap[b+1+1]?=Z (Q #[I V 0] 244):=by
  rw[<-i,<-G];exact(((Fr.refl (fun _=>False) _).alloc _).alloc _).whole (by have:=aN ((w.alloc RC).alloc (Q #[I V q.d,I V q.x] 181)) (Q #[I V 0] 244);simpa using this) aA
 have o3:n.heap[b+1+1+1]?=Z (Q #[I V D] 3):=by
  rw[<-i,<-G];exact((Fr.refl (fun _=>False) _).alloc _).whole (by have:=aN (((w.alloc RC).alloc (Q #[I V q.d,I V q.x] 181)).alloc (Q #[I V 0] 244)) (Q #[I V D] 3);simpa using this)
 have o4:n.heap[b+1+1+1+1]?=Z (Q #[I V lo,I V j] 118):=by
  rw[<-i,<-G];have:=aN ((((w.alloc RC).alloc (Q #[I V q.d,I V q.x] 181)).alloc (Q #[I V 0] 244)).alloc (Q #[I V D] 3)) (Q #[I V lo,I V j] 118)
  simpa using this
 rw[i,G]
 have hR:∀(M N:Z6)(W:j0),M.d<=6->N.d<=6->M.x<=1000000->N.x<=1000000->j1 C 186 #[j9 #[I V M.d,I V M.x],j9 #[I V N.d,I V N.x]] W fun e w'=>e=z9 (y8 (M.holds N))/\Below W.heap.size W w':=fun M N W h1 h2 h3 h4=>BX M N W h1 h2 h4 h3
 refine wpIn_rangeFunc_ownH rfl az (gf:=221) (lb:=#[O (Z ⟨b+1+1+1+1,0,Y⟩),O (Z ⟨b+1+1+1,0,Y⟩)]) rfl trivial (enters_of func221 aC rfl)
  (Gk (5-1) (b+1+1+1+1) (b+1+1+1) (b+5) D lo j xs hD h0 i0 L n az az az (Zc o4 0) (Zc o4 1) (Zc o3 0)) belowK_t (belowK_b az) (Below.refl _ _) (fun _=>rfl)
  (fun m W=>pR w b q m W) (fun c m W=>pD w b q c m W)
  (OwnFrom.and (Own.from (fun s A B a0 h u y=>⟨h.1,cell_kept h.2.1 u y,cell_kept h.2.2.1 u y,cell_kept h.2.2.2.1 u y,(frozen_kept h.2.2.2.1 u y).trans h.2.2.2.2.1,q8 h.2.2.2.2.2 u.size⟩) _) (ownFrom_below az az))
  (fun c=>OwnFrom.and (Own.from (fun s A B a0 h u y=>⟨h.1,h.2.choose,cell_kept h.2.choose_spec.1 u y,h.2.choose_spec.2⟩) _) (ownFrom_below az az))
  ⟨⟨by intro p P;simp at P,Zc o1 0,Zc o1 1,Zc o2 0,bF o2 0,az⟩,l0⟩
  (fun x a' W=>∃H,b+5<=H/\W.cell? ⟨H,0,Y⟩=Z (I V x.1.d)/\W.cell? ⟨H,1,Y⟩=Z (I V x.1.x)/\a'={tmps:=#[RV,j9 #[I V q.d,I V q.x],O (Z ⟨b,0,Y⟩),O (Z ⟨b+1,0,Y⟩),O (Z ⟨b+1+1,0,Y⟩),O (Z ⟨H,0,Y⟩),O (Z ⟨b,2,Y⟩),I V D,O (Z ⟨b,3,Y⟩),j9 #[I V lo,I V j],.func (.func 221) #[] #[O (Z ⟨b+1+1+1+1,0,Y⟩),O (Z ⟨b+1+1+1,0,Y⟩)],j9 #[I V x.1.d,I V x.1.x],undef,undef,undef,undef,undef,undef],defers:=[]})
  (fun x a'=>Own.from (fun s A B a0 h u y=>⟨h.choose,h.choose_spec.1,cell_kept h.choose_spec.2.1 u y,cell_kept h.choose_spec.2.2.1 u y,h.choose_spec.2.2.2⟩) _) ?assign ?body ?done ?_
 case assign=>
  rintro l m x W K ⟨⟨P,c0,c1,cr,fr,R⟩,z⟩ S;unfold VY
  gi_wp2
  have f1:=(Kk W (Q #[I V x.1.d,I V x.1.x] 181)).1
  have a:∀k,k<b+5->k<W.heap.size:=fun k hk=>az
  exact S _ _ ((KeepsOthers.alloc _ _).from _) ((Below.refl _ W).alloc R _)
   ⟨⟨P,(f1.cell (p:=⟨b+1,0,Y⟩) (a _ (by show b+1<b+5;omega))).trans c0,(f1.cell (p:=⟨b+1,1,Y⟩) (a _ (by show b+1<b+5;omega))).trans c1,(f1.cell (p:=⟨b+1+1,0,Y⟩) (a _ (by show b+1+1<b+5;omega))).trans cr,(f1.frozen (p:=⟨b+1+1,0,Y⟩) (a _ (by show b+1+1<b+5;omega))).trans fr,q8 R f1.size⟩,z.alloc az _⟩
   ⟨W.heap.size,R,Zc (aN W _) 0,Zc (aN W _) 1,rfl⟩
 case body=>
  rintro l m x a' W hl ⟨r,y⟩ ⟨⟨P,c0,c1,cr,fr,R⟩,z⟩ ⟨H,v0,x0,x1,rfl⟩ w0;have b0:H<W.heap.size:=bL W _ x0
  have a:∀k,k<b+5->k<W.heap.size:=fun k hk=>az
  have HH:=o P;have F:=x.2;have m0:=o (hR x.1 q W F.1 hq.1 F.2 hq.2)
  have n0:y9 (∀W2,j1 C 186 #[j9 #[I V q.d,I V q.x],j9 #[I V x.1.d,I V x.1.x]] W2 fun e w'=>e=z9 (y8 (q.holds x.1))/\Below W2.heap.size W2 w'):=fun W2=>hR q x.1 W2 hq.1 F.1 hq.2 F.2
  gi_wp2
  refine⟨trivial,?_⟩;refine(CallsIn.inRound l (callsIn_wide.2 m0.o)).mono ?_;rintro e W2 ⟨rfl,g⟩;have f0:=o g;have d0:=(g.cell (p:=⟨b+1,0,Y⟩) (a _ (by show b+1<b+5;omega))).trans c0;have d1:=(g.cell (p:=⟨b+1,1,Y⟩) (a _ (by show b+1<b+5;omega))).trans c1;have dr:=(g.cell (p:=⟨b+1+1,0,Y⟩) (a _ (by show b+1+1<b+5;omega))).trans cr;have df:=(g.frozen (p:=⟨b+1+1,0,Y⟩) (a _ (by show b+1+1<b+5;omega))).trans fr;have e0:=(g.cell (p:=⟨H,0,Y⟩) b0).trans x0;have e1:=(g.cell (p:=⟨H,1,Y⟩) b0).trans x1
  cases h1:x.1.holds q with
  |true=>
   gi_wp2
   exact⟨((VZ f0.o).trans (KeepsOthers.setCell _ _ _)).from _,yJ HH.o 2 (cS _ _ _ dr) (z8 ⟨h1,rfl⟩) ((z.trans (f0.o.mono az)).setCell (p:=⟨b+1+1,0,Y⟩) (by show b<=b+1+1;omega) _)⟩
  |false=>
   gi_wp2
   refine⟨trivial,?_⟩;refine(CallsIn.inRound l (callsIn_wide.2 (n0.o _))).mono ?_;rintro e W3 ⟨rfl,o0⟩;have f:=o (g.trans (o0.mono g.size));have k0:=(f.o.cell (p:=⟨b+1,0,Y⟩) (a _ (by show b+1<b+5;omega))).trans c0;have k1:=(f.o.cell (p:=⟨b+1,1,Y⟩) (a _ (by show b+1<b+5;omega))).trans c1;have kr:=(f.o.cell (p:=⟨b+1+1,0,Y⟩) (a _ (by show b+1+1<b+5;omega))).trans cr;have kf:=(f.o.frozen (p:=⟨b+1+1,0,Y⟩) (a _ (by show b+1+1<b+5;omega))).trans fr
   cases h2:q.holds x.1 with
   |true=>
    gi_wp2
    exact⟨((VZ f.o).trans (KeepsOthers.setCell _ _ _)).from _,yJ HH.o 1 (cS _ _ _ kr) (E ⟨h1,h2,rfl⟩) ((z.trans (f.o.mono az)).setCell (p:=⟨b+1+1,0,Y⟩) (by show b<=b+1+1;omega) _)⟩
   |false=>
    gi_wp2
    exact⟨(VZ f.o).from _,f.o.mono R,⟨Gl HH.o h1 h2,k0,k1,kr,kf,q8 R f.o.size⟩,z.trans (f.o.mono az)⟩
 case done=>
  rintro D' ys W p0 rfl ⟨⟨P,c0,c1,cr,fr,R⟩,z⟩ S
  gi_wp2
  have T:=(KeepsOthers.setCell W ⟨b+1+1,0,Y⟩ (I V 0)).same D' _ S rfl;refine⟨aA,.inl ⟨_,_,rfl,run_takeDeferred T,?_⟩⟩;have X:=cell_kept (cS W ⟨b+1+1,0,Y⟩ (I V 0) cr) (grownBy_putObj' _ D' (.deferred Y)) (fun r e=>by cases e;exact⟨_,T,rfl⟩)
  have hv:ZK q (YX D lo j)=0:=by
   have:=Rr (q:=q) [] P;rw[m5,L]at this;exact this
  refine⟨I V 0,?_,by rw[hv];rfl,?_⟩
  ·simp[results,results146,go_sem,X]
  rw[G];exact(z.setCell (p:=⟨b+1+1,0,Y⟩) (by show b<=b+1+1;omega) _).trans (belowK_b (w:=n) az _ D' _ _ az T rfl rfl)
 rintro D' c m W p0 g0 ⟨⟨rfl,v,hc,hv⟩,z⟩ S
 gi_wp2
 refine⟨aA,.inl ⟨_,_,rfl,run_takeDeferred S,?_⟩⟩;have X:=cell_kept hc (grownBy_putObj' _ D' (.deferred Y)) (fun r e=>by cases e;exact⟨_,S,rfl⟩)
 have q0:ZK q (YX D lo j)=v:=by
  obtain⟨t,ht⟩:=g0;rw[<-L,<-ht,b2];exact hv _
 refine⟨I V v,?_,by rw[q0],?_⟩
 ·simp[results,results146,go_sem,X]
 rw[G];exact z.trans (belowK_b (w:=n) az _ D' _ _ az S rfl rfl)
def O5 {d b:Nat}(f:b<10^d)(c:d<=6){p:Z6}:∀(n a:Nat),p∈Yr d b n a->p.d<=6/\p.x<=1000000
 |0,_,h=>by simp[Yr]at h
 |n+1,a,h=>by
  unfold Yr at h
  split at h
  ·rename_i g;rcases p9.1 h with e|h
   ·subst e;have i:a/10^SZ a b<=a:=c7 _ _;have j:10^d<=10^6:=g6 z c;exact⟨by show d-_<=6;omega,by show a/_<=1000000;omega⟩
   exact O5 f c n _ h
  cases h
def B4 {d lo c}(f:c<10^d)(g:d<=6):∃a:List Rq,a.map Subtype.val=YX d lo c:=by
 have h:∀l:List Z6,(∀p,p∈l->p.d<=6/\p.x<=1000000)->∃a:List Rq,a.map Subtype.val=l:=by
  intro l
  induction l with
  |nil=>intro _;exact⟨[],rfl⟩
  |cons p r i=>
   intro e;obtain⟨a,j⟩:=i (fun p b=>e p (n5 _ b));exact⟨⟨p,e p s7⟩::a,by simp only[l0,j]⟩
 exact h _ (fun p b=>O5 f g _ _ b)
def B5 (h i D lo c j k l a m n o p r s t u v y z q w)(A:D<=6)(f:lo<=1000000)(b:c<10^D)(B:q.d<=6/\q.x<=1000000):
  j1 C 146 #[F3 h i D lo c j k l a m n o p r s t u v y z,VY q] w fun e E=>e=z9 (I V (ZK q (YX D lo c)))/\Below w.heap.size w E:=by
 obtain⟨F,g⟩:=B4 (lo:=lo) b A;exact callsIn_wide.1 (yK h i D lo c j k l a m n o p r s t u v y z q w A f b B F g)
def WT (rk:Nat->Nat)(x:Nat)(l:List Nat):Nat->Nat
 |0=>0
 |j+1=>if rk (l.getD j 0)<rk x then WT rk x l j else j+1
def MO (rk:Nat->Nat)(x:Nat)(l:List Nat):List Nat:=l.take (WT rk x l l.length)++x::l.drop (WT rk x l l.length)
def Xl (a:Nat->Nat):Nat->List Nat
 |0=>[]
 |n+1=>MO a n (Xl a n)
def PH (rk:Nat->Nat)(x:Nat)(l:List Nat):∀j,WT rk x l j<=j
 |0=>j2 _
 |j+1=>by
  unfold WT
  split
  ·exact Nat.le_succ_of_le (PH rk x l j)
  exact j2 _
def Gm (a x l):(MO a x l).length=l.length+1:=by
 have:=PH a x l l.length;unfold MO;rw[lA,j8,r5,m3];omega
def V0 (a:Nat->Nat):∀n,(Xl a n).length=n
 |0=>rfl
 |n+1=>by show(MO a n (Xl a n)).length=_;rw[Gm,V0 a n]
def yL {a x y l}:y∈MO a x l↔y=x\/y∈l:=by
 unfold MO;rw[g5,p9]
 constructor
 ·rintro(h|h|h)
  ·exact E (n6 h)
  ·exact z8 h
  exact E (List.mem_of_mem_drop h)
 rintro(h|h)
 ·exact E (z8 h)
 rw[<-m7 (WT a x l l.length) l,g5]at h;rcases h with h|h
 ·exact z8 h
 exact E (E h)
def Up {a:Nat->Nat}:∀{n y:Nat},y∈Xl a n↔y<n
 |0,y=>by simp[Xl]
 |n+1,y=>by
  show y∈MO a n (Xl a n)↔_
  rw[yL,Up];omega
def SR (rk:Nat->Nat)(a b:Nat):Prop:=rk b<rk a\/(rk a=rk b/\a<b)
def Jf {rk:Nat->Nat}{x:Nat}{l:List Nat}:∀{j i:Nat},WT rk x l j<=i->i<j->rk (l.getD i 0)<rk x
 |0,_,_,h=>z
 |j+1,i,h1,h2=>by
  unfold WT at h1
  split at h1
  ·rename_i a;by_cases e:i=j
   ·subst e;exact a
   exact Jf h1 z
  omega
def MP {rk:Nat->Nat}{x:Nat}{l:List Nat}:∀{j:Nat},0<WT rk x l j->¬rk (l.getD (WT rk x l j-1) 0)<rk x
 |0,h=>by simp[WT]at h
 |j+1,h=>by
  unfold WT at h ⊢
  split at h
  ·rename_i a;rw[if_pos a];exact MP h
  rename_i a;rw[if_neg a]
  simpa using a
def U9 {l:List Nat}{i}(h):l.getD i 0=l[i]:=by simp[List.getD,h]
def EF {rk x l}(w:l.Pairwise (SR rk))(z:∀y,y∈l->y<x):(MO rk x l).Pairwise (SR rk):=by
 unfold MO;generalize n:WT rk x l l.length=k
 have A:k<=l.length:=by rw[<-n];exact PH rk x l l.length
 have c:(l.take k++l.drop k).Pairwise (SR rk):=by rw[m7];exact w
 rw[n7]at c;obtain⟨B,C,D⟩:=c;rw[n7]
 have d:∀y,y∈l.drop k->rk y<rk x:=by
  intro y f;obtain⟨i,p,e⟩:=s4 f;rw[List.getElem_drop]at e
  have h:k+i<l.length:=by rw[m3]at p;omega
  have:=Jf (rk:=rk) (x:=x) (l:=l) (j:=l.length) (i:=k+i) (by rw[n];omega) h;rw[U9 h,e]at this;exact this
 have g:∀y,y∈l.take k->¬rk y<rk x:=by
  intro y f
  have q:0<k:=by
   rcases s8 k with e|e
   ·rw[e]at f;simp at f
   exact e
  have m:=MP (rk:=rk) (x:=x) (l:=l) (j:=l.length) (by rw[n];exact q);rw[n,U9 (by omega:k-1<l.length)]at m;obtain⟨i,p,e⟩:=s4 f;rw[List.getElem_take]at e;rw[j8]at p;by_cases r:i=k-1
  ·subst r;rw[<-e];exact m
  have o:=(List.pairwise_iff_getElem.1 w) i (k-1) az az az;rw[e]at o;rcases o with o|o
  ·omega
  omega
 refine⟨B,?_,?_⟩
 ·rw[c9];exact⟨fun y f=>z8 (d y f),C⟩
 intro a s b t;rcases p9.1 t with e|t
 ·subst e;have F:=g a s;have u:=z a (n6 s);by_cases v:rk b<rk a
  ·exact z8 v
  exact E ⟨az,u⟩
 exact D a s b t
def O6 (a:Nat->Nat):∀n,(Xl a n).Pairwise (SR a)
 |0=>List.Pairwise.nil
 |n+1=>EF (O6 a n) (fun _ b=>Up.1 b)
def Yf (g o k):(⟨g,o,Y⟩:Addr).add k=⟨g,o+k,Y⟩:=aK
def TM.at' {a:Nat}{w:j0}:∀{b:List Ze}{d:List j7}{j:Nat}{r:Ze},TM a w b d->b[j]?=Z r->∃c,zH a w r c/\∀o v,c[o]?=Z v->d[j*14+o]?=Z v
 |[],_,j,_,_,hj=>by simp at hj
 |r::b,d,0,r',⟨c,rest,e,h1,h2⟩,hj=>by
  simp at hj;subst hj;refine⟨c,h1,fun o v f=>?_⟩;have:=(iG.1 f).1;rw[e,l5,b7,j3 this];exact f
 |r::b,d,j+1,r',⟨c,rest,e,h1,h2⟩,hj=>by
  obtain⟨g,h,i⟩:=TM.at' h2 (j:=j) (r:=r') (by simpa using hj)
  have l:c.length=14:=by obtain⟨m,n,p,k,_⟩:=h1;rw[k];rfl
  refine⟨g,h,fun o v f=>?_⟩;rw[e,aR z,l,show(j+1)*14+o-14=j*14+o from z];exact i o v f
def Bk.rule {w B y q n a z}(h:Bk w B y q n a z){j r}(s:a[j]?=Z r):
  ∃g c d f i k l m,q=U (Z ⟨g,0,Y⟩) a.length c/\B+1<=g/\g<w.heap.size/\
   (∀o v,[j5 r.name,I V r.rank,I V r.digits,I V r.lo,I V r.hi,U d r.mcc.length f,y8 r.am.isSome,I V (r.am.getD (0,0)).1,I V (r.am.getD (0,0)).2,U i r.cur.length k,y8 r.decline,y8 r.cheapest,U l r.routes.length m,I V r.ahead][o]?=Z v->w.cell? ⟨g,j*14+o,Y⟩=Z v)/\
   w.ownsRow (B+1) 3 1 (U d r.mcc.length f) r.mcc.length (Zg r.mcc)/\w.ownsRow (B+1) 3 1 (U i r.cur.length k) r.cur.length (Zg r.cur)/\w.ownsRow (B+1) 3 1 (U l r.routes.length m) r.routes.length (Zg r.routes):=by
 have A:0<a.length:=aj (iG.1 s).1;obtain⟨g,c,e,C,D⟩:=h.lo.form A;obtain⟨K,⟨L,M,N,p,t,u,x⟩,E⟩:=h.ru.at' s;obtain⟨d,f,F⟩:=oL t;obtain⟨i,k,G⟩:=oL u;obtain⟨l,m,H⟩:=oL x;subst F G H;refine⟨g,c,d,f,i,k,l,m,e,C,D,fun o v J=>?_,t,u,x⟩;have b:=h.lo;rw[e]at b;have:=b.cells (g:=g) rfl _ _ (E o v (by rw[p];exact J))
 rwa [Yf,b7]at this
def Ku (a b:Nat):Int:=if a<b then-1 else if b<a then 1 else 0
def Gn (a b:Nat)(w):j1 C 144 #[I V a,I V b] w fun e d=>e=z9 (I V (Ku a b))/\d=w:=by
 have k:∀(a:Nat)(w:j0),j1 C 184 #[I V a] w fun e d=>e=z9 (y8 false)/\d=w:=fun a w=>by
  go_enter func184,ntmps184;go_wp2;go_ret;exact⟨Rp y,rfl⟩
 have f:=o k;by_cases g:a<b
 ·have h:=af a b;go_enter func144,ntmps144
  go_wp2_with (go_at_call 184;refine Bp (f.o _ _) fun d c=>?_;replace c:=c.symm;subst c)
  go_ret;exact⟨ZQ (by simp[Ku,g]),rfl⟩
 have h:=ai a b;by_cases j:b<a
 ·have i:=af b a;go_enter func144,ntmps144
  go_wp2_with (go_at_call 184;refine Bp (f.o _ _) fun d c=>?_;replace c:=c.symm;subst c)
  go_ret;exact⟨ZQ (by simp[Ku,g,j]),rfl⟩
 have i:=ai b a;go_enter func144,ntmps144
 go_wp2_with (go_at_call 184;refine Bp (f.o _ _) fun d c=>?_;replace c:=c.symm;subst c)
 go_ret;exact⟨ZQ (by simp[Ku,g,j]),rfl⟩
structure EG (w:j0)(Lb g c n:Nat)(rk:Nat->Nat):Prop where
 cl:w.cell? ⟨Lb,0,Y⟩=Z (U (Z ⟨g,0,Y⟩) n c)
 rw:∀i,i<n->w.cell? ⟨g,i*14+1,Y⟩=Z (I V (rk i))
 gl:g<w.heap.size
def Gp (w d g c n a)(h:EG w d g c n a)(i j:Nat)(f:i<n)(k:j<n):
  j1 C 143 #[I V i,I V j,O (Z ⟨d,0,Y⟩)] w fun e b=>e=z9 (I V (Ku (a j) (a i)))/\∃m,b=w.drewN m:=by
 have r:=h.cl;have s:=h.rw i f;have t:=h.rw j k;have l:=af i n;have p:=af j n
 have q:y9 (∀W,j1 C 144 #[I V (a j),I V (a i)] W fun e b=>e=z9 (I V (Ku (a j) (a i)))/\b=W):=fun W=>Gn _ _ W
 go_enter func143,ntmps143;go_wp2
 go_quiet ((go_at_call 144;exact Calls.quiet_of_same (q.o _)))
 go_wp2;go_ret;exact⟨rfl,_,rfl⟩
structure Vl (w:j0)(g n:Nat)(f:Nat->Nat):Prop where
 cl:∀k,k<n->w.cell? ⟨g,k,Y⟩=Z (I V (f k))
 fz:∀o,w.frozen? ⟨g,o,Y⟩=false
def Vl.congr {w g n f f'}(h:Vl w g n f)(e:∀k,k<n->f k=f' k):Vl w g n f':=⟨fun k a=>by rw[<-e k a];exact h.cl k a,h.fz⟩
def QO (a:List Nat)(i j k:Nat):Nat:=if k<j then a.getD k 0 else if k=j then i else if k<=i then a.getD (k-1) 0 else k
def Zz (a:Nat->Nat)(i k:Nat):Nat:=if k<i then(Xl a i).getD k 0 else k
def B7 (a i k):Zz a i k=QO (Xl a i) i i k:=by
 unfold Zz QO
 split
 ·rfl
 split
 ·omega
 rw[if_neg z]
def Ct (a i k):QO (Xl a i) i (WT a i (Xl a i) i) k=Zz a (i+1) k:=by
 have f:=V0 a i;have g:=PH a i (Xl a i) i;unfold Zz QO
 show _=if k<i+1 then(MO a i (Xl a i)).getD k 0 else k
 unfold MO;rw[f];generalize WT a i (Xl a i) i=K at*;generalize Xl a i=b at*;simp only[List.getD_eq_getElem?_getD];by_cases c:k<K
 ·rw[if_pos c,if_pos z,j3 (by rw[j8];omega),List.getElem?_take,if_pos c]
 rw[if_neg c];by_cases d:k=K
 ·rw[if_pos d,if_pos z,aR (by rw[j8];omega),j8,show k-min K b.length=0 from z];rfl
 rw[if_neg d];by_cases e:k<=i
 ·rw[if_pos e,if_pos z,aR (by rw[j8];omega),j8,show k-min K b.length=(k-1-K)+1 from z,k9,List.getElem?_drop,show K+(k-1-K)=k-1 from z]
 rw[if_neg e,if_neg z]
def Vl.swap {w g n a}{i:Nat}{j}(h:Vl w g n (QO a i j))(q:0<j)(b:j<=i):
  Vl ((w.setCell ⟨g,j,Y⟩ (I V (a.getD (j-1) 0))).setCell ⟨g,j-1,Y⟩ (I V i)) g n (QO a i (j-1)):=by
 refine⟨fun k c=>?_,fun o=>by simp[h.fz o]⟩
 have d:(⟨g,j,Y⟩:Addr)≠⟨g,j-1,Y⟩:=by intro e;injection e with _ e;omega
 by_cases f:k=j-1
 ·subst f;have:=h.cl (j-1) c;rw[cS _ _ _ (by rw[cO _ _ _ _ d];exact this)];unfold QO;rw[if_neg z,if_pos rfl]
 rw[cO _ _ _ _ (by intro e;injection e with _ e;omega)];by_cases l:k=j
 ·subst l;rw[cS _ _ _ (h.cl k c)];unfold QO;rw[if_neg z,if_neg z,if_pos b]
 rw[cO _ _ _ _ (by intro e;injection e with _ e;omega),h.cl k c];unfold QO;by_cases m:k<j
 ·rw[if_pos m,if_pos z]
 have p:¬k<j-1:=z;simp only[f,l,m,p,if_false]
def EG.fr {w w' a g c n d S}(h:EG w a g c n d)(b:Fr S w w')(e:¬S a:=by simp)(f:¬S g:=by simp):EG w' a g c n d:=
 ⟨(b.cell (p:=⟨a,0,Y⟩) (bL w _ h.cl) e).trans h.cl,fun i j=>(b.cell (p:=⟨g,i*14+1,Y⟩) h.gl f).trans (h.rw i j),nL h.gl b.size⟩
def Cu {a b}:(Ku a b<0)↔a<b:=by
 unfold Ku
 split
 ·simp[*]
 split
 ·constructor<;>intro h<;>omega
 constructor<;>intro h<;>omega
def Gq (w t g c)(n:Nat)(g2 F a)(h:EG w t g c n a)(ho:Vl w g2 n (fun k=>k))(h1:t≠g2)(h2:g≠g2)(hn:n<=8)(G:1<=n):
  j1 C 219 #[U (Z ⟨g2,0,Y⟩) n F,I V 0,I V n,.func (.func 143) #[] #[O (Z ⟨t,0,Y⟩)]] w fun e D=>e=z9 (.tuple #[])/\Vl D g2 n (Zz a n)/\Fr (fun k=>k=g2) w D:=by
 have HK:=Za h
 have HO:y9 (Vl w g2 n (Zz a 1)):=ho.congr (fun k _=>by
  unfold Zz
  split
  ·have:k=0:=az;subst this;rfl
  rfl)
 have v:y9 (t≠g2/\g≠g2):=⟨h1,h2⟩;go_enter func219,ntmps219;go_wp2
 go_loopg [8] (n-1) (fun m iv wr=>∃i,1<=i/\i<=n/\m=n-i/\iv=I V (i:Nat)/\y9 (Vl wr g2 n (Zz a i))/\y9 (Fr (fun k=>k=g2) w wr))
 case atStart=>exact⟨1,j2 _,G,rfl,rfl,HO,Zo⟩
 obtain⟨i,a0,b0,rfl,rfl,x,W⟩:=hrel;by_cases H:i<n
 ·have J:=af i n;have K:=Za (x.o.congr (fun k _=>B7 a i k));go_wp2
  go_loopg [9] i (fun m jv X=>jv=I V (m:Nat)/\m<=i/\y9 (Vl X g2 n (QO (Xl a i) i m))/\y9 (WT a i (Xl a i) m=WT a i (Xl a i) i)/\y9 (Fr (fun k=>k=g2) w X))
  case atStart=>exact⟨rfl,j2 _,K,rfl,W⟩
  obtain⟨rfl,L,b,M,l⟩:=hrel
  cases gk with
  |zero=>
   have d:y9 (WT a i (Xl a i) i=0):=by have e:=M.o;show _=_;rw[<-e];rfl
   go_wp2
   go_quiet (fail)
   have q:y9 (Vl (wr.drewN nq) g2 n (Zz a (i+1))):=by
    have e:=b.o.congr (f':=Zz a (i+1)) (fun k _=>by rw[<-Ct a i k,d.o]);exact⟨fun k r=>e.cl k r,fun o=>e.fz o⟩
   have f:y9 (Fr (fun k=>k=g2) w (wr.drewN nq)):=l.o.trans ⟨rfl,rfl,rfl,j2 _,fun _ _ _=>rfl⟩;generalize wr.drewN nq=u at*;go_wp2;go_roundg (n-(i+1))
   case measure=>omega
   exact⟨i+1,az,az,rfl,aE,q,f⟩
  |succ j=>
   have z:y9 ((Xl a i).getD j 0<n):=by
    have hl:=V0 a i;have hj:j<(Xl a i).length:=az;have:=Up.1 (r6 hj)
    show _<_
    rw[U9 hj];omega
   obtain⟨y,N⟩:=ad ((Xl a i).getD j 0);have P:=Za N
   have c1:wr.cell? ⟨g2,j+1,Y⟩=Z (I V i):=by
    have e:=b.o.cl (j+1) az;unfold QO at e;rw[if_neg az,if_pos rfl]at e;exact e
   have c0:wr.cell? ⟨g2,j,Y⟩=Z (I V y):=by
    have e:=b.o.cl j az;unfold QO at e;rw[if_pos az,N]at e;exact e
   have s:=Za (HK.o.fr l.o v.o.1 v.o.2)
   have HC:y9 (∀m,j1 C 143 #[I V i,I V y,O (Z ⟨t,0,Y⟩)] (wr.drewN m) fun e D=>e=z9 (I V (Ku (a y) (a i)))/\∃k,D=(wr.drewN m).drewN k):=fun m=>
    Gp (wr.drewN m) t g c n a ⟨s.o.cl,s.o.rw,s.o.gl⟩ i y H (by have:=z.o;rw[N]at this;exact this)
   have f0:y<8:=aj z.o;have e0:(0:Int)<(j:Int)+1:=az;have e1:(j:Int)+1<(n:Int):=az;have e2:=af j n;by_cases E:a y<a i
   ·have Q:=Cu.2 E;go_wp2
    go_quiet ((go_at_call 143;exact Calls.quiet_of (HC.o _)))
    have A:y9 (Vl (wr.drewN nq) g2 n (QO (Xl a i) i (j+1))):=⟨fun k r=>b.o.cl k r,fun o=>b.o.fz o⟩;have f:y9 (Fr (fun k=>k=g2) w (wr.drewN nq)):=l.o.trans ⟨rfl,rfl,rfl,j2 _,fun _ _ _=>rfl⟩;have d1:(wr.drewN nq).cell? ⟨g2,j+1,Y⟩=Z (I V i):=c1;have d0:(wr.drewN nq).cell? ⟨g2,j,Y⟩=Z (I V y):=c0;have fz:∀o,(wr.drewN nq).frozen? ⟨g2,o,Y⟩=false:=A.o.fz;generalize wr.drewN nq=u at*
    have B:y9 (Vl ((u.setCell ⟨g2,j+1,Y⟩ (I V y)).setCell ⟨g2,j,Y⟩ (I V i)) g2 n (QO (Xl a i) i j)):=by
     have e:=A.o.swap az L;rw[s6,P.o]at e;exact e
    have R:y9 (WT a i (Xl a i) j=WT a i (Xl a i) i):=by
     have e:=M.o;rw[WT,P.o,if_pos E]at e;exact e
    go_wp2
    go_region
    have S:y9 (Vl (((u.setCell ⟨g2,j+1,Y⟩ (I V y)).setCell ⟨g2,j,Y⟩ (I V i)).drew) g2 n (QO (Xl a i) i j)):=⟨fun k r=>B.o.cl k r,fun o=>B.o.fz o⟩;have T:y9 (Fr (fun k=>k=g2) w (((u.setCell ⟨g2,j+1,Y⟩ (I V y)).setCell ⟨g2,j,Y⟩ (I V i)).drew)):=((f.o.setCell (p:=⟨g2,j+1,Y⟩) (z8 rfl) _).setCell (p:=⟨g2,j,Y⟩) (z8 rfl) _).drew;generalize((u.setCell ⟨g2,j+1,Y⟩ (I V y)).setCell ⟨g2,j,Y⟩ (I V i)).drew=wy at*;go_wp2;go_roundg j
    case measure=>omega
    exact⟨aE,az,S,R,T⟩
   have Q:¬Ku (a y) (a i)<0:=fun h=>E (Cu.1 h)
   have d:y9 (WT a i (Xl a i) i=j+1):=by have e:=M.o;show _=_;rw[<-e,WT,P.o,if_neg E]
   go_wp2
   go_quiet ((go_at_call 143;exact Calls.quiet_of (HC.o _)))
   have q:y9 (Vl (wr.drewN nq) g2 n (Zz a (i+1))):=by
    have e:=b.o.congr (f':=Zz a (i+1)) (fun k _=>by rw[<-Ct a i k,d.o]);exact⟨fun k r=>e.cl k r,fun o=>e.fz o⟩
   have f:y9 (Fr (fun k=>k=g2) w (wr.drewN nq)):=l.o.trans ⟨rfl,rfl,rfl,j2 _,fun _ _ _=>rfl⟩;generalize wr.drewN nq=u at*;go_wp2;go_roundg (n-(i+1))
   case measure=>omega
   exact⟨i+1,az,az,rfl,aE,q,f⟩
 have J:=ai i n;have e:i=n:=az;subst e;go_wp2
 go_end0
 exact⟨rfl,x.o,W.o⟩
def MQ (w m g c n g2 d q)(h:EG w m g c n q)(u:Vl w g2 n (fun k=>k))(v:m≠g2)(x:g≠g2)(y:n<=8)(r:1<=n):
  j1 C 142 #[U (Z ⟨g2,0,Y⟩) n d,.func (.func 143) #[] #[O (Z ⟨m,0,Y⟩)]] w fun e p=>e=z9 (.tuple #[])/\Vl p g2 n (Zz q n)/\Fr (fun k=>k=g2) w p:=by
 have z:=o (Gq w m g c n g2 d q h u v x y r)
 have A:y9 (j1 C 183 #[U (Z ⟨g2,0,Y⟩) n d,I V n,.func (.func 143) #[] #[O (Z ⟨m,0,Y⟩)]] w fun e p=>e=z9 (.tuple #[])/\Vl p g2 n (Zz q n)/\Fr (fun k=>k=g2) w p):=by
  show j1 _ _ _ _ _
  have B:¬(20:Int)<=(n:Int):=az;have D:=ai 20 n;go_enter func183,ntmps183;go_wp2
  go_loopg [7,8] 0 (fun _ a b wr=>a=I V 0/\b=I V 20/\y9 (wr=w))
  case atStart=>exact⟨rfl,rfl,rfl⟩
  obtain⟨rfl,rfl,s⟩:=hrel;have e:=s.o;subst e;go_wp2_with fail;refine z.o.mono ?_;rintro e t ⟨rfl,f,i⟩;have j:=o f;have l:=o i;go_wp2
  go_loopg [6] 0 (fun _ a wr=>a=I V 20/\y9 (wr=t))
  case atStart=>exact⟨rfl,rfl⟩
  obtain⟨rfl,s⟩:=hrel;have e:=s.o;subst e;go_wp2
  go_end0
  exact⟨rfl,j.o,l.o⟩
 go_enter func142,ntmps142;go_wp2_with fail;refine A.o.mono ?_;rintro e t ⟨rfl,f,i⟩;have j:=o f;have l:=o i;go_wp2
 go_end0
 exact⟨rfl,j.o,l.o⟩
def Nw (w c h):
  j1 C 142 #[U Y 0 c,.func (.func 143) #[] #[O (Z ⟨h,0,Y⟩)]] w fun e f=>e=z9 (.tuple #[])/\f=w:=by
 have j:y9 (j1 C 219 #[U Y 0 c,I V 0,I V 0,.func (.func 143) #[] #[O (Z ⟨h,0,Y⟩)]] w fun e f=>e=z9 (.tuple #[])/\f=w):=by
  show j1 _ _ _ _ _
  go_enter func219,ntmps219;go_wp2
  go_loopg [8] 0 (fun _ a wr=>a=I V 1/\y9 (wr=w))
  case atStart=>exact⟨rfl,rfl⟩
  obtain⟨rfl,g⟩:=hrel;have e:=g.o;subst e;go_wp2
  go_end0
  exact⟨rfl,rfl⟩
 have k:y9 (j1 C 183 #[U Y 0 c,I V 0,.func (.func 143) #[] #[O (Z ⟨h,0,Y⟩)]] w fun e f=>e=z9 (.tuple #[])/\f=w):=by
  show j1 _ _ _ _ _
  go_enter func183,ntmps183;go_wp2
  go_loopg [7,8] 0 (fun _ a b wr=>a=I V 0/\b=I V 20/\y9 (wr=w))
  case atStart=>exact⟨rfl,rfl,rfl⟩
  obtain⟨rfl,rfl,g⟩:=hrel;have e:=g.o;subst e;go_wp2_with fail;refine j.o.mono ?_;rintro e l ⟨rfl,d⟩;replace d:=d.symm;subst d;go_wp2
  go_loopg [6] 0 (fun _ a i=>a=I V 20/\y9 (i=wr))
  case atStart=>exact⟨rfl,rfl⟩
  obtain⟨rfl,g⟩:=hrel;have e:=g.o;subst e;go_wp2
  go_end0
  exact⟨rfl,rfl⟩
 go_enter func142,ntmps142;go_wp2_with fail;refine k.o.mono ?_;rintro e l ⟨rfl,d⟩;replace d:=d.symm;subst d;go_wp2
 go_end0
 exact⟨rfl,rfl⟩
def EH (i):b8 (i+1)=b8 i++[i]:=List.range_succ
def Cv (w:j0)(B:Nat)(a:Option Addr)(n:Nat)(f:Nat->Nat):Prop:=0<n->∃g,a=Z ⟨g,0,Y⟩/\B<=g/\g<w.heap.size/\Vl w g n f
def EI (w D n c t)(hn:n<=8)(hr:∀i,i<n->∃g,D=Z ⟨g,0,Y⟩/\g<w.heap.size/\w.cell? ⟨g,i*14+1,Y⟩=Z (I V (t i))):
  j1 C 92 #[U D n c] w fun e u=>(∃r j,e=z9 (U r n j)/\Cv u w.heap.size r n (Zz t n))/\F0 w u:=by
 have n0:∀(fn:Fn)(first v:Array j7)(w:j0),(Instr.makeFunc fn first v).run C w=.ok (.func fn first v) w:=fun _ _ _ _=>rfl
 have F:=Za hr;go_enter func92,ntmps92;go_wp2_with fail;obtain⟨N,x⟩:=WM w (Q #[U D n c] 87);generalize w.alloc _=W0 at*;obtain⟨L,P⟩:=ad w.heap.size;rw[P]at x;rw[P];have G:=Za P
 go_loopg [3,7] n (fun m o iv wr=>∃i,i<=n/\m=n-i/\iv=I V (i:Nat)/\y9 (i=0->o=U Y 0 0)/\y9 (wr.ownsRow (L+1) 3 1 o i (Zg (b8 i)))/\y9 (F0 w wr)/\y9 (wr.heap[L]?=Z (Q #[U D n c] 87)))
 case atStart=>exact⟨0,b3 _,rfl,rfl,fun _=>rfl,oZ _ _ _ _,N,x⟩
 obtain⟨i,o0,rfl,rfl,HZ,s,y,l⟩:=hrel;obtain⟨r,j,ho⟩:=oL s.o;subst ho;have p0:L+1<=wr.heap.size:=(iA.1 l.o).1;by_cases q0:i<n
 ·have R:=af i n
  go_wp2_with (at_builtin;refine ao (L+1) Y9 underlying25 (U r i j) i (Zg (b8 i)) ?h1 ⟨wr.heap.size,0,Y⟩ [I V i] ?h2 ?_)
  case h1=>exact s.o.alloc _
  case h2=>exact j6 (aN wr (Q #[I V i] 3))
  intro g2 f w8 z b r0 _
  have A:∀k,(j4 r i j).ownBlock=Z k->L+1<=k:=fun k d=>(s.o.lt k d).1
  have S:=Za ((y.o.alloc _).grown b (fun k d=>E (ak (A k d) G.o)));have T:=Za ((((Fr.refl (fun k=>(j4 r i j).ownBlock=Z k) wr).alloc _).grown b (fun k d=>z8 d)).whole l.o (fun e=>aj (A L e)))
  have W:y9 (w8.ownsRow (L+1) 3 1 (U (Z ⟨g2,0,Y⟩) (i+1) f) (i+1) (Zg (b8 (i+1)))):=by rw[EH,X6];exact z
  go_wp2;go_roundg (n-(i+1))
  case measure=>omega
  exact⟨i+1,az,rfl,aE,fun e=>az,W,S,T⟩
 have R:=ai i n;have e:i=n:=az;subst e;rcases s8 i with q|q
 ·subst q;have ez:=HZ.o rfl;injection ez with X _ a0;subst X a0;have HS:=Za (Nw wr 0 L);go_wp2_with fail;refine HS.o.mono ?_;rintro e w9 ⟨rfl,hw⟩;replace hw:=hw.symm;subst hw;go_wp2;go_ret;exact⟨⟨_,_,rfl,fun h=>az⟩,y.o⟩
 obtain⟨g2,f,eo,s0,b0⟩:=s.o.form q;injection eo with c0 _ d0;subst c0 d0;obtain⟨g,hg,_,_⟩:=F.o 0 q;subst hg
 have e0:y9 (EG wr L g c i t):=⟨Zc l.o 0,fun k d=>by
  obtain⟨g',a,H,e3⟩:=F.o k d;injection a with a;injection a with a;subst a
  exact(y.o.cell (p:=⟨g,k*14+1,Y⟩) H).trans e3,by
  obtain⟨g',a,H,_⟩:=F.o 0 q;injection a with a;injection a with a;subst a
  exact nL H y.o.size⟩
 have f0:y9 (Vl wr g2 i (fun k=>k)):=by
  refine⟨fun k d=>?_,fun o=>?_⟩
  ·have:=s.o.cells (g:=g2) rfl k (I V k) (by simp[Zg,d])
   rwa [Yf,b7]at this
  rcases s.o.2 with⟨e,_⟩|⟨g',m0,t0,a,_,hh,_⟩
  ·cases e
  injection a with a;injection a with a;injection a with a;subst a;exact bF hh o
 have HS:y9 (j1 C 142 #[U (Z ⟨g2,0,Y⟩) i j,.func (.func 143) #[] #[O (Z ⟨L,0,Y⟩)]] wr fun e u=>e=z9 (.tuple #[])/\Vl u g2 i (Zz t i)/\Fr (fun k=>k=g2) wr u):=by
  have v0:g<L:=by
   obtain⟨g',a,H,_⟩:=F.o 0 q;injection a with a;injection a with a;subst a;have:=G.o;omega
  exact MQ wr L g c i g2 j t e0.o f0.o az az hn q
 go_wp2_with fail;refine HS.o.mono ?_;rintro e w9 ⟨rfl,g0,B⟩;have i0:=Za g0;have k0:=Za (y.o.monoNew B (fun k d=>E (aj G.o)));have l0:=Za (nL b0 B.size);go_wp2;go_ret;exact⟨⟨_,_,rfl,fun _=>⟨g2,rfl,aj G.o,l0.o,i0.o⟩⟩,k0.o⟩
structure Zl where
 sort:Nat
 nums:List Nat
 rule:Nat
 skip:Nat
def Z8 (r:Ze):List Zl:=
 (if r.mcc=[]then[]else[⟨0,r.mcc,0,0⟩])++((match r.am with|none=>[]|some a=>[⟨1,[a.1,a.2],0,0⟩])++(if r.cur=[]then[]else[⟨2,r.cur,0,0⟩]))
def UQ (i:Nat)(r:Ze):Zl:=if r.decline then⟨3,[],i,0⟩else if r.cheapest then⟨5,r.routes,i,0⟩else⟨4,r.routes,i,0⟩
def ZP (m:Nat):Nat->List Zl->List Zl
 |_,[]=>[]
 |a,s::r=>{s with skip:=m-a+1}::ZP m (a+1) r
def Sz (r:Ze):List Zl:=ZP (Z8 r).length 0 (Z8 r)
def ZL (R:List Ze)(a:Nat):List Nat->List Zl
 |[]=>[⟨6,[],0,0⟩]
 | i::L=>if a.testBit i then(match R[i]? with
   |none=>ZL R a L
   |some r=>if Z8 r=[]then[UQ i r]else Sz r++(UQ i r::ZL R a L))else ZL R a L
def qu (b:Nat)(w:j0)(s:Zl)(c:List j7):Prop:=∃a,c=[I g7 s.sort,a,I V s.rule,I V s.skip]/\w.ownsRow b 3 1 a s.nums.length (Zg s.nums)
def Xw (b:Nat)(w:j0):List Zl->List j7->Prop
 |[],xs=>xs=[]
 |s::r,xs=>∃c a,xs=c++a/\qu b w s c/\Xw b w r a
def Xw.keep {b:Nat}{w w':j0}(d:∀v n a,w.ownsRow b 3 1 v n a->w'.ownsRow b 3 1 v n a):∀{l:List Zl}{a:List j7},Xw b w l a->Xw b w' l a
 |[],_,h=>h
 |_::_,_,⟨c,rest,e,⟨vn,e1,h1⟩,h2⟩=>⟨c,rest,e,⟨vn,e1,d _ _ _ h1⟩,Xw.keep d h2⟩
def Xw.append {a:Nat}{w:j0}:∀{l b:List Zl}{d f:List j7},Xw a w l d->Xw a w b f->Xw a w (l++b) (d++f)
 |[],_,_,_,h,h'=>by
  have e:=h;subst e;exact h'
 |_::_,_,_,_,⟨c,rest,e,h1,h2⟩,h'=>⟨c,rest++_,by rw[e,c4],h1,Xw.append h2 h'⟩
def Xw.one {a w s c}(h:qu a w s c):Xw a w [s] c:=⟨c,[],y,h,rfl⟩
def Z4 (b:Nat)(w:j0)(base:Nat)(v:j7)(l:List Zl):Prop:=∃a,w.ownsRow base 208 4 v l.length a/\Xw b w l a
def TR:(C.info? 208).map (fun i=>(i.zero,i.size,i.bytes))=Z (Z (j9 #[I g7 0,U Y 0 0,I V 0,I V 0]),4,48):=n
def PI {b w c a v l}(h:Z4 b w a v l)(d:F0 w c):Z4 b c a v l:=by
 obtain⟨e,f,g⟩:=h;exact⟨e,oF f d,g.keep (fun v n j i=>oF i d)⟩
def Z4.grown {a w b base g cap v l l' d c}(i:w.ownsRow base 208 4 v l.length c)(j:Xw a w l c)(k:Xw a w l' d)(m:w.grownBy b v.ownBlock)(o:b.ownsRow base 208 4 (U (Z ⟨g,0,Y⟩) (l.length+l'.length) cap) (l.length+l'.length) (c++d)):
  Z4 a b base (U (Z ⟨g,0,Y⟩) (l.length+l'.length) cap) (l++l'):=by
 have f:∀v' n e,w.ownsRow a 3 1 v' n e->b.ownsRow a 3 1 v' n e:=fun v' n e h=>h.kept m (WP h i aB)
 exact⟨c++d,by rw[lA];exact o,(j.keep f).append (k.keep f)⟩
def Kh (b:ByteArray)(c d e f:Nat)(g:Option Addr)(h i:Nat)(a:Bool)(j k:Nat)(l:Option Addr)(m n:Nat)(o p:Bool)(q:Option Addr)(r s:Nat)(t:Nat):Obj:=
 Q #[k6 b,I V c,I V d,I V e,I V f,U g h i,y8 a,I V j,I V k,U l m n,y8 o,y8 p,U q r s,I V t] 120
def EJ (a:List Nat):List Zl:=if a=[]then[]else[⟨0,a,0,0⟩]
def zI (a:Bool)(b c:Nat):List Zl:=if a then[⟨1,[b,c],0,0⟩]else[]
def EK (a:List Nat):List Zl:=if a=[]then[]else[⟨2,a,0,0⟩]
def MR (r):Z8 r=EJ r.mcc++(zI r.am.isSome (r.am.getD (0,0)).1 (r.am.getD (0,0)).2++EK r.cur):=by
 unfold Z8 EJ zI EK
 cases r.am<;>rfl
def Ir {zb}{w:j0}{g a b:Nat}(c:zb<=g)(h:w.heap[g]?=Z (Q #[I V a,I V b] 3)):w.ownsRow zb 3 1 (U (Z ⟨g,0,Y⟩) 2 2) 2 (Zg [a,b]):=
 ⟨rfl,.inr ⟨g,2,_,rfl,c,h,j2 _,aM,rfl,rfl⟩⟩
structure Nx (zb:Nat)(w:j0)(b:Nat)(o:Obj)(v:j7)(l:List Zl)(wx:j0):Prop where
 row:Z4 zb wx (b+1) v l
 fr:F0 w wx
 bx:wx.heap[b]?=Z o
 nz:l=[]->v=U Y 0 0
def Nx.grown {f w n i b g cap o v l j c s W}(h:Nx f w b o v l n)(x:w.heap.size<=b)(p:F0 n W)(q:W.ownsRow (b+1) 208 4 v l.length j)(r:Xw f W l j)(t:qu f W s c)(m:W.grownBy i v.ownBlock)(u:i.ownsRow (b+1) 208 4 (U (Z ⟨g,0,Y⟩) (l.length+1) cap) (l.length+1) (j++c)):
  Nx f w b o (U (Z ⟨g,0,Y⟩) (l.length+1) cap) (l++[s]) i:=by
 have a:∀k,v.ownBlock=Z k->b+1<=k:=fun k d=>(q.lt k d).1
 refine⟨Z4.grown (l':=[s]) q r (Xw.one t) m u,(h.fr.trans p).grown m (fun k d=>E (aj (a k d))),?_,fun e=>by simp at e⟩;exact((Fr.refl (fun k=>v.ownBlock=Z k) W).grown m (fun k d=>z8 d)).whole (p.whole h.bx) (fun e=>aj (a b e))
def EL {zb}(B D E F G p q d h i r t H J K L M N c a w)(hz:zb<=w.heap.size)(hm:w.ownsRow zb 3 1 (U p c.length q) c.length (Zg c))(hc:w.ownsRow zb 3 1 (U r a.length t) a.length (Zg a))(p0:c.length<=4000)(q0:a.length<=4000):
  j1 C 222 #[F3 B D E F G p c.length q d h i r a.length t H J K L M N] w fun e w'=>(∃v,e=z9 v/\Z4 zb w' w.heap.size v (EJ c++(zI d h i++EK a))/\(EJ c++(zI d h i++EK a)=[]->v=U Y 0 0))/\F0 w w':=by
 have HM:=o hm;have HC:=o hc;obtain⟨j,k0⟩:=ad c.length;obtain⟨k,l0⟩:=ad a.length;rw[k0]at HM p0 ⊢;rw[l0]at HC q0 ⊢;have W:=o k0;have X:=o l0;have HZ:=o hz;unfold F3;go_enter func222,ntmps222;have u:y9 (Nx zb w w.heap.size (Kh B D E F G p j q d h i r k t H J K L M N) (U Y 0 0) [] (w.alloc (Kh B D E F G p j q d h i r k t H J K L M N))):=⟨⟨[],oZ _ _ _ _,rfl⟩,Zo.alloc _,aN w _,fun _=>rfl⟩;unfold Kh at u
 go_upto_if 7 with fail
 generalize w.alloc _=W0 at*;obtain⟨b,hb⟩:=ad w.heap.size;have HB:=o hb;rw[hb]at u;rw[hb]
 go_cut [3] (fun v wx=>y9 (Nx zb w b (Q #[k6 B,I V D,I V E,I V F,I V G,U p j q,y8 d,I V h,I V i,U r k t,y8 H,y8 J,U K L M,I V N] 120) v (EJ c) wx))
 case first=>
  have x5:=Zc u.o.bx 5;have r0:b+1<=W0.heap.size:=(iA.1 u.o.bx).1;by_cases h0:0<j
  ·have a0:=af 0 j
   go_wp2_with (at_builtin;refine ao (b+1) TR underlying129 (U Y 0 0) 0 [] ?h1 ⟨W0.heap.size,0,Y⟩ [I g7 0,U p j q,I V 0,I V 0] ?h2 ?_)
   case h1=>exact oZ _ _ _ _
   case h2=>exact j6 (aN W0 (Q #[I g7 0,U p j q,I V 0,I V 0] 208))
   intro g2 l w8 m f m0 _
   have O:y9 (Nx zb w b (Q #[k6 B,I V D,I V E,I V F,I V G,U p j q,y8 d,I V h,I V i,U r k t,y8 H,y8 J,U K L M,I V N] 120) (U (Z ⟨g2,0,Y⟩) (0+1) l) (EJ c) w8):=by
    have hf:=(Kk W0 (Q #[I g7 0,U p j q,I V 0,I V 0] 208)).1;have e:=u.o.grown (s:=⟨0,c,0,0⟩) (g9 HB.o) hf (oZ _ _ _ _) rfl ⟨_,rfl,by rw[W.o];exact oF (oF HM.o u.o.fr) hf⟩ f m
    have e2:EJ c=[]++[⟨0,c,0,0⟩]:=by
     unfold EJ;rw[if_neg (by intro e;have:=W.o;rw[e]at this;simp at this;omega)];rfl
    rw[e2];exact e
   go_wp2;go_meet;exact O
  have a0:=ai 0 j
  have g:y9 (Nx zb w b (Q #[k6 B,I V D,I V E,I V F,I V G,U p j q,y8 d,I V h,I V i,U r k t,y8 H,y8 J,U K L M,I V N] 120) (U Y 0 0) (EJ c) W0):=by
   have e:EJ c=[]:=by
    unfold EJ;rw[if_pos (b9.1 (aj W.o))]
   rw[e];exact u
  go_wp2;go_meet;exact g
 have g:=hcut;obtain⟨z,b0⟩:=ad (EJ c);have s0:=o b0
 have C0:z.length<=1:=by rw[<-b0];unfold EJ;split<;>simp
 rw[b0]at g;obtain⟨c0,n0,t0⟩:=g.o.row;obtain⟨va,vc,e3⟩:=oL n0;subst e3;have d0:y9 (wc.ownsRow (b+1) 208 4 (U va z.length vc) z.length c0/\Xw zb wc z c0):=⟨n0,t0⟩;have r0:b+1<=wc.heap.size:=(iA.1 g.o.bx).1;have x6:=Zc g.o.bx 6
 go_upto_if 15 with fail
 go_cut [3] (fun v wx=>y9 (Nx zb w b (Q #[k6 B,I V D,I V E,I V F,I V G,U p j q,y8 d,I V h,I V i,U r k t,y8 H,y8 J,U K L M,I V N] 120) v (z++zI d h i) wx))
 case first=>
  cases d with
  |true=>
   have x7:=Zc g.o.bx 7;have x8:=Zc g.o.bx 8
   go_wp2_with (at_builtin;refine ao (b+1) TR underlying129 (U va z.length vc) z.length c0 ?h1 ⟨wc.heap.size+1,0,Y⟩ [I g7 1,U (Z ⟨wc.heap.size,0,Y⟩) 2 2,I V 0,I V 0] ?h2 ?_)
   case h1=>exact(d0.o.1.alloc _).alloc _
   case h2=>exact j6 (by have e:=aN (wc.alloc (Q #[I V h,I V i] 3)) (Q #[I g7 1,U (Z ⟨wc.heap.size,0,Y⟩) 2 2,I V 0,I V 0] 208);simpa using e)
   intro g2 l w8 m f m0 _
   have O:y9 (Nx zb w b (Q #[k6 B,I V D,I V E,I V F,I V G,U p j q,y8 true,I V h,I V i,U r k t,y8 H,y8 J,U K L M,I V N] 120) (U (Z ⟨g2,0,Y⟩) (z.length+1) l) (z++zI true h i) w8):=by
    have hf:=(Hc wc (Q #[I V h,I V i] 3) (Q #[I g7 1,U (Z ⟨wc.heap.size,0,Y⟩) 2 2,I V 0,I V 0] 208)).1;exact g.o.grown (s:=⟨1,[h,i],0,0⟩) (g9 HB.o) hf ((d0.o.1.alloc _).alloc _) (d0.o.2.keep (fun v n ys hv=>(hv.alloc _).alloc _)) ⟨_,rfl,Ir (ak HZ.o g.o.fr.size) (((Fr.refl (fun _=>False) _).alloc _).whole (aN wc _))⟩ f m
   go_wp2;go_meet;exact O
  |false=>
   go_wp2;go_meet;rw[show z++zI false h i=z from by simp[zI]];exact g
 have x:=hcut;obtain⟨y,e0⟩:=ad (z++zI d h i);have v0:=o e0
 have D0:y.length<=2:=by rw[<-e0,lA];unfold zI;split<;>simp<;>omega
 rw[e0]at x;obtain⟨f0,o0,w0⟩:=x.o.row;obtain⟨g0,i0,e3⟩:=oL o0;subst e3;have j0:y9 (wc.ownsRow (b+1) 208 4 (U g0 y.length i0) y.length f0/\Xw zb wc y f0):=⟨o0,w0⟩;have B0:b+1<=wc.heap.size:=(iA.1 x.o.bx).1;have x9:=Zc x.o.bx 9
 go_upto_if 30 with fail
 go_cut [3] (fun v wx=>y9 (Nx zb w b (Q #[k6 B,I V D,I V E,I V F,I V G,U p j q,y8 d,I V h,I V i,U r k t,y8 H,y8 J,U K L M,I V N] 120) v (y++EK a) wx))
 case first=>
  by_cases h0:0<k
  ·have a0:=af 0 k
   go_wp2_with (at_builtin;refine ao (b+1) TR underlying129 (U g0 y.length i0) y.length f0 ?h1 ⟨wc.heap.size,0,Y⟩ [I g7 2,U r k t,I V 0,I V 0] ?h2 ?_)
   case h1=>exact j0.o.1.alloc _
   case h2=>exact j6 (aN wc (Q #[I g7 2,U r k t,I V 0,I V 0] 208))
   intro g2 l w8 m f m0 _
   have O:y9 (Nx zb w b (Q #[k6 B,I V D,I V E,I V F,I V G,U p j q,y8 d,I V h,I V i,U r k t,y8 H,y8 J,U K L M,I V N] 120) (U (Z ⟨g2,0,Y⟩) (y.length+1) l) (y++EK a) w8):=by
    have hf:=(Kk wc (Q #[I g7 2,U r k t,I V 0,I V 0] 208)).1;have e:=x.o.grown (s:=⟨2,a,0,0⟩) (g9 HB.o) hf (j0.o.1.alloc _) (j0.o.2.keep (fun v n ys hv=>hv.alloc _)) ⟨_,rfl,by rw[X.o];exact oF (oF HC.o x.o.fr) hf⟩ f m
    have e2:EK a=[⟨2,a,0,0⟩]:=by
     unfold EK;rw[if_neg (by intro e;have:=X.o;rw[e]at this;simp at this;omega)]
    rw[e2];exact e
   go_wp2;go_meet;exact O
  have a0:=ai 0 k
  have A:y9 (Nx zb w b (Q #[k6 B,I V D,I V E,I V F,I V G,U p j q,y8 d,I V h,I V i,U r k t,y8 H,y8 J,U K L M,I V N] 120) (U g0 y.length i0) (y++EK a) wc):=by
   have e:EK a=[]:=by
    unfold EK;rw[if_pos (b9.1 (aj X.o))]
   rw[e,m5];exact x
  go_wp2;go_meet;exact A
 have A:=hcut;obtain⟨E0,x0,G0⟩:=A.o.row;obtain⟨y0,z0,e3⟩:=oL x0;subst e3;go_wp2;go_ret;have A0:w.heap.size<=b+1:=aj HB.o
 have e:EJ c++(zI d h i++EK a)=y++EK a:=by rw[<-v0.o,<-s0.o,c4]
 refine⟨⟨U y0 (y++EK a).length z0,rfl,?_,fun ez=>A.o.nz (by rw[<-e];exact ez)⟩,A.o.fr⟩;rw[e];obtain⟨xs,h1,h2⟩:=A.o.row;exact⟨xs,oS (base:=b+1) h1 A0,h2⟩
def se {w:j0}{b:Nat}{u0 u1 u2 u3 v0 v1 v2 v3:j7}(a:w.cell? ⟨b,0,Y⟩=Z u0)(c:w.cell? ⟨b,1,Y⟩=Z u1)(d:w.cell? ⟨b,2,Y⟩=Z u2)(e:w.cell? ⟨b,3,Y⟩=Z u3):
  let W:=(((w.setCell ⟨b,0,Y⟩ v0).setCell ⟨b,1,Y⟩ v1).setCell ⟨b,2,Y⟩ v2).setCell ⟨b,3,Y⟩ v3
  W.cell? ⟨b,0,Y⟩=Z v0/\W.cell? ⟨b,1,Y⟩=Z v1/\W.cell? ⟨b,2,Y⟩=Z v2/\W.cell? ⟨b,3,Y⟩=Z v3:=by
 refine⟨?_,?_,?_,?_⟩
 ·rw[cO _ _ _ _ y,cO _ _ _ _ y,cO _ _ _ _ y];exact cS _ _ _ a
 ·rw[k4 _ _ _ _ y,k4 _ _ _ _ y];exact m4 _ _ _ (by rw[k4 _ _ _ _ y];exact c)
 ·rw[k4 _ _ _ _ y];exact m4 _ _ _ (by rw[k4 _ _ _ _ y,k4 _ _ _ _ y];exact d)
 exact cS _ _ _ (by rw[cO _ _ _ _ y,cO _ _ _ _ y,cO _ _ _ _ y];exact e)
def Gr (w G u)(x y z A:Nat)(B D F h)(H J:Nat)(K L M m q j k l)(N:Nat)(g n c i:Nat)(h0:w.cell? ⟨G,0,Y⟩=Z (U (Z ⟨g,0,Y⟩) n c))(a0:i<n)(hr:∀o v,[j5 u,I V x,I V y,I V z,I V A,U B D F,y8 h,I V H,I V J,U K L M,y8 m,y8 q,U j k l,I V N][o]?=Z v->w.cell? ⟨g,i*14+o,Y⟩=Z v):
  j1 C 223 #[O (Z ⟨G,0,Y⟩),I V i] w fun e w'=>e=z9 (if m then j9 #[I g7 3,U Y 0 0,I V i,I V 0]else if q then j9 #[I g7 5,U j k l,I V i,I V 0]else j9 #[I g7 4,U j k l,I V i,I V 0])/\F0 w w':=by
 have b0:=af i n;have HR:=Za hr;go_enter func223,ntmps223;go_upto_region 1 with fail;obtain⟨r,HX⟩:=WM w (Q #[I g7 0,U Y 0 0,I V 0,I V 0] 208);generalize w.alloc _=P at*
 have f:∀o v,[j5 u,I V x,I V y,I V z,I V A,U B D F,y8 h,I V H,I V J,U K L M,y8 m,y8 q,U j k l,I V N][o]?=Z v->P.cell? ⟨g,i*14+o,Y⟩=Z v:=fun o v ho=>by
  have e:=HR.o o v ho;exact(r.o.cell (p:=⟨g,i*14+o,Y⟩) (bL w _ e)).trans e
 have g0:=(r.o.cell (p:=⟨G,0,Y⟩) (bL w _ h0)).trans h0;have v0:=f 0 _ rfl;have v1:=f 1 _ rfl;have v2:=f 2 _ rfl;have v3:=f 3 _ rfl;have v4:=f 4 _ rfl;have v5:=f 5 _ rfl;have v6:=f 6 _ rfl;have v7:=f 7 _ rfl;have v8:=f 8 _ rfl;have v9:=f 9 _ rfl;have c0:=f 10 _ rfl;have d0:=f 11 _ rfl;have e0:=f 12 _ rfl;have f0:=f 13 _ rfl;rw[c8]at v0;obtain⟨b,hb⟩:=ad w.heap.size;have HB:=Za hb;rw[hb]at HX;rw[hb];go_upto_region 2 with fail;have s:=Za (r.o.alloc (Q #[k6 u,I V x,I V y,I V z,I V A,U B D F,y8 h,I V H,I V J,U K L M,y8 m,y8 q,U j k l,I V N] 120));have d:y9 ((P.alloc (Q #[k6 u,I V x,I V y,I V z,I V A,U B D F,y8 h,I V H,I V J,U K L M,y8 m,y8 q,U j k l,I V N] 120)).heap[b]?=Z (Q #[I g7 0,U Y 0 0,I V 0,I V 0] 208)):=((Fr.refl (fun _=>False) _).alloc _).whole HX.o;have t:=aN P (Q #[k6 u,I V x,I V y,I V z,I V A,U B D F,y8 h,I V H,I V J,U K L M,y8 m,y8 q,U j k l,I V N] 120);have i0:=Zc t 10;have j0:=Zc t 11;have k0:=Zc t 12;have a:w.heap.size<=b:=g9 HB.o;generalize P.alloc _=W2 at*;generalize P.heap.size=X2 at*
 cases m with
 |true=>
  obtain⟨R,S,T,W⟩:=au d.o;have yf:=bF d.o;go_wp2_with fail;obtain⟨X,s1,s2,s3⟩:=se (v0:=I g7 3) (v1:=U Y 0 0) (v2:=I V i) (v3:=I V 0) R S T W;refine bodyPost_ret (v:=j9 #[I g7 3,U Y 0 0,I V i,I V 0]) (by simp[results,results223,go_sem,X,s1,s2,s3]) rfl ⟨rfl,?_⟩;exact(((s.o.setCell (p:=⟨b,0,Y⟩) (E a) _).setCell (p:=⟨b,1,Y⟩) (E a) _).setCell (p:=⟨b,2,Y⟩) (E a) _).setCell (p:=⟨b,3,Y⟩) (E a) _
 |false=>
  cases q with
  |true=>
   obtain⟨R,S,T,W⟩:=au d.o;have yf:=bF d.o;go_wp2_with fail;obtain⟨X,s1,s2,s3⟩:=se (v0:=I g7 5) (v1:=U j k l) (v2:=I V i) (v3:=I V 0) R S T W;refine bodyPost_ret (v:=j9 #[I g7 5,U j k l,I V i,I V 0]) (by simp[results,results223,go_sem,X,s1,s2,s3]) rfl ⟨rfl,?_⟩;exact(((s.o.setCell (p:=⟨b,0,Y⟩) (E a) _).setCell (p:=⟨b,1,Y⟩) (E a) _).setCell (p:=⟨b,2,Y⟩) (E a) _).setCell (p:=⟨b,3,Y⟩) (E a) _
  |false=>
   obtain⟨R,S,T,W⟩:=au d.o;have yf:=bF d.o;go_wp2_with fail;obtain⟨X,s1,s2,s3⟩:=se (v0:=I g7 4) (v1:=U j k l) (v2:=I V i) (v3:=I V 0) R S T W;refine bodyPost_ret (v:=j9 #[I g7 4,U j k l,I V i,I V 0]) (by simp[results,results223,go_sem,X,s1,s2,s3]) rfl ⟨rfl,?_⟩;exact(((s.o.setCell (p:=⟨b,0,Y⟩) (E a) _).setCell (p:=⟨b,1,Y⟩) (E a) _).setCell (p:=⟨b,2,Y⟩) (E a) _).setCell (p:=⟨b,3,Y⟩) (E a) _
structure vP (zb:Nat)(w:j0)(G:Nat)(rls:List Ze)(ord:Nat->Nat):Prop where
 zl:zb<=w.heap.size
 rl:∃va c,w.cell? ⟨G,0,Y⟩=Z (U va rls.length c)/\∀i r,rls[i]?=Z r->∃g ma mc ca cc pa pc,va=Z ⟨g,0,Y⟩/\g<w.heap.size/\
   (∀o v,[j5 r.name,I V r.rank,I V r.digits,I V r.lo,I V r.hi,U ma r.mcc.length mc,y8 r.am.isSome,I V (r.am.getD (0,0)).1,I V (r.am.getD (0,0)).2,U ca r.cur.length cc,y8 r.decline,y8 r.cheapest,U pa r.routes.length pc,I V r.ahead][o]?=Z v->w.cell? ⟨g,i*14+o,Y⟩=Z v)/\
   w.ownsRow zb 3 1 (U ma r.mcc.length mc) r.mcc.length (Zg r.mcc)/\w.ownsRow zb 3 1 (U ca r.cur.length cc) r.cur.length (Zg r.cur)/\w.ownsRow zb 3 1 (U pa r.routes.length pc) r.routes.length (Zg r.routes)
 od:∃oa oc,w.cell? ⟨G,1,Y⟩=Z (U oa rls.length oc)/\∀k,k<rls.length->∃og,oa=Z ⟨og,0,Y⟩/\og<w.heap.size/\w.cell? ⟨og,k,Y⟩=Z (I V (ord k))
def vP.fr {l w w' G b d}(h:vP l w G b d)(a:F0 w w'):vP l w' G b d:=by
 obtain⟨s,⟨t,c,m,u⟩,x,y,n,z⟩:=h;refine⟨q8 s a.size,⟨t,c,(a.cell (p:=⟨G,0,Y⟩) (bL w _ m)).trans m,fun i r A=>?_⟩,x,y,(a.cell (p:=⟨G,1,Y⟩) (bL w _ n)).trans n,fun k B=>?_⟩
 ·obtain⟨g,C,D,E,F,H,I,f,e,j,J,K,L⟩:=u i r A;exact⟨g,C,D,E,F,H,I,f,nL e a.size,fun o v M=>(a.cell (p:=⟨g,i*14+o,Y⟩) e).trans (j o v M),oF J a,oF K a,oF L a⟩
 obtain⟨q,f,e,j⟩:=z k B;exact⟨q,f,nL e a.size,(a.cell (p:=⟨q,k,Y⟩) e).trans j⟩
def Vs (m:Nat):∀(a:Nat)(l:List Zl),(ZP m a l).length=l.length
 |_,[]=>rfl
 |a,_::r=>by show(ZP m (a+1) r).length+1=r.length+1;rw[Vs m (a+1) r]
def Xw.get {d:Nat}{w:j0}:∀{l:List Zl}{a:List j7}{j:Nat}{s:Zl},Xw d w l a->l[j]?=Z s->∃c,qu d w s c/\∀o v,c[o]?=Z v->a[j*4+o]?=Z v
 |[],_,j,_,_,hj=>by simp at hj
 |s::r,a,0,s',⟨c,rest,e,h1,h2⟩,hj=>by
  simp at hj;subst hj;refine⟨c,h1,fun o v b=>?_⟩;have:=(iG.1 b).1;rw[e,l5,b7,j3 this];exact b
 |s::r,a,j+1,s',⟨c,rest,e,h1,h2⟩,hj=>by
  obtain⟨f,g,h⟩:=Xw.get h2 (j:=j) (s:=s') (by simpa using hj)
  have l:c.length=4:=by obtain⟨k,i,_⟩:=h1;rw[i];rfl
  refine⟨f,g,fun o v b=>?_⟩;rw[e,aR z,l,show(j+1)*4+o-4=j*4+o from z];exact h o v b
def Xw.ones {f:Nat}{w:j0}:∀{l:List Zl}{d:List j7},Xw f w l d->∀u,u∈d->u.oneCell'=true
 |[],_,h,u,hu=>by
  have e:=h;rw[e]at hu;simp at hu
 |s::r,d,⟨c,rest,e,⟨vn,e1,h1⟩,h2⟩,u,hu=>by
  rw[e,e1]at hu;rcases g5.1 hu with h|h
  ·obtain⟨a,b,g⟩:=oL h1;rw[g]at h;simp only[p9,List.not_mem_nil,or_false]at h
   rcases h with rfl|rfl|rfl|rfl<;>rfl
  exact Xw.ones h2 u h
def Xw.skip {b:Nat}{w:j0}:∀{l:List Zl}{a:List j7}{j:Nat}{s:Zl}(k:Nat),Xw b w l a->l[j]?=Z s->Xw b w (l.set j {s with skip:=k}) (a.set (j*4+3) (I V k))
 |[],_,j,_,_,_,hj=>by simp at hj
 |s::r,a,0,s',k,⟨c,rest,e,⟨vn,e1,h1⟩,h2⟩,hj=>by
  simp at hj;subst hj;subst e e1;exact⟨[I g7 s.sort,vn,I V s.rule,I V k],rest,rfl,⟨vn,rfl,h1⟩,h2⟩
 |s::r,a,j+1,s',k,⟨c,rest,e,⟨vn,e1,h1⟩,h2⟩,hj=>by
  subst e e1;refine⟨[I g7 s.sort,vn,I V s.rule,I V s.skip],rest.set (j*4+3) (I V k),?_,⟨vn,rfl,h1⟩,Xw.skip k h2 (by simpa using hj)⟩;rw[show(j+1)*4+3=j*4+3+4 from z];rfl
def Rt (b:List Zl)(a:Nat):List Zl:=(ZP b.length 0 b).take a++b.drop a
def MS (m:Nat):∀(l:List Zl)(b a:Nat)(s:Zl),l[a]?=Z s->(ZP m b l)[a]?=Z {s with skip:=m-(b+a)+1}
 |[],_,_,_,h=>by simp at h
 |x::r,b,0,s,h=>by
  simp at h;subst h;rfl
 |x::r,b,a+1,s,h=>by
  show(ZP m (b+1) r)[a]?=_
  rw[MS m r (b+1) a s (by simpa using h),show b+1+a=b+(a+1)from z]
def B8 {b a s}(h:b[a]?=Z s):(Rt b a)[a]?=Z s/\Rt b (a+1)=(Rt b a).set a {s with skip:=b.length-a+1}:=by
 have f:=(iG.1 h).1;have g:=Vs b.length 0 b;have d:=MS b.length b 0 a s h;rw[b7]at d
 have e:b.drop a=s::b.drop (a+1):=by
  rw[dC f];rw[(iG.1 h).2]
 have c:((ZP b.length 0 b).take a).length=a:=by rw[j8];omega
 unfold Rt
 constructor
 ·rw[aR z,c,s5,e];rfl
 rw[b4,d,e,List.set_append,if_neg z,c,s5];simp
def Jg (a):Rt a 0=a:=by simp[Rt]
def yM (a):Rt a a.length=ZP a.length 0 a:=by
 unfold Rt;rw[List.take_of_length_le (by rw[Vs];exact j2 _),dL (j2 _),m5]
def O7 (b a)(h:a<=b.length):(Rt b a).length=b.length:=by
 unfold Rt;rw[lA,j8,m3,Vs];omega
def TB (r):(Z8 r).length<=3:=by
 rw[MR,lA,lA];unfold EJ zI EK
 split<;>split<;>split<;>simp
def Wk (n:Nat)(a:Nat->Nat):List Nat:=(b8 n).map a
def B9 {n k a}(h:k<n):(Wk n a).drop k=a k::(Wk n a).drop (k+1):=by
 have b:k<(Wk n a).length:=by unfold Wk;simpa using h
 rw[dC b]
 have e:(Wk n a)[k]=a k:=by simp[Wk]
 rw[e]
def Gs (R a i L r)(h:R[i]?=Z r):ZL R a (i::L)=if a.testBit i then(if Z8 r=[]then[UQ i r]else Sz r++(UQ i r::ZL R a L))else ZL R a L:=by
 rw[ZL,h]
structure pS (zb:Nat)(w:j0)(R:List Ze)(met n:Nat)(ord:Nat->Nat)(k:Nat)(v:j7)(l:List Zl)(wr:j0):Prop where
 row:Z4 zb wr w.heap.size v l
 fr:F0 w wr
 eq:ZL R met (Wk n ord)=l++ZL R met ((Wk n ord).drop k)
 le:l.length<=k*4
structure Gt (zb:Nat)(w0:j0)(v:j7)(gs:List Zl)(a:Nat)(wx:j0):Prop where
 row:Z4 zb wx w0.heap.size v (Rt gs a)
 fr:F0 w0 wx
def Gt.step {i j e g m c a b}(h:Gt i j (U (Z ⟨g,0,Y⟩) m c) b a e)(f:b.length=m)(B:a<m):
  Gt i j (U (Z ⟨g,0,Y⟩) m c) b (a+1) (e.setCell ⟨g,a*4+3,Y⟩ (I V ((m-a+1:Nat):Int)))/\(∃u,e.cell? ⟨g,a*4+3,Y⟩=Z u)/\e.frozen? ⟨g,a*4+3,Y⟩=false:=by
 obtain⟨q,d,k⟩:=h.row;rw[O7 b a az,f]at d;obtain⟨s,r⟩:∃s,b[a]?=Z s:=⟨_,gE az⟩;obtain⟨l,t⟩:=B8 r;obtain⟨w,x⟩:=d.stored (a*4+3) (I V ((m-a+1:Nat):Int));obtain⟨C,⟨D,rfl,_⟩,y⟩:=k.get l;have z:=y 3 _ rfl;have A:=(d.lt g rfl).1;refine⟨⟨⟨q.set (a*4+3) (I V ((m-a+1:Nat):Int)),?_,?_⟩,h.fr.setCell (p:=⟨g,a*4+3,Y⟩) (E A) _⟩,⟨_,(d.cellAt (a*4+3) az).trans z⟩,d.frozenAt _⟩
 ·rw[O7 b (a+1) az,f];exact w
 rw[t,f]
 refine(k.skip (m-a+1) l).keep fun v n F o=>o.kept x (WP o d aB)
def Cw {m W G R k}(h:vP m W G R k)(i:Nat)(r)(n:R[i]?=Z r):
  j1 C 223 #[O (Z ⟨G,0,Y⟩),I V i] W fun e l=>(∃s a b c,∃d:List Nat,e=z9 (j9 #[I g7 (s:Nat),U a b c,I V i,I V 0])/\UQ i r=⟨s,d,i,0⟩/\l.ownsRow m 3 1 (U a b c) d.length (Zg d))/\F0 W l:=by
 obtain⟨w,c,t,u⟩:=h.rl;obtain⟨g,x,y,z,A,o,p,rfl,_,f,_,_,v⟩:=u i r n;refine(Gr W G _ _ _ _ _ _ _ _ _ _ _ _ _ _ _ _ _ _ _ _ g R.length c i t (iG.1 n).1 f).mono ?_;rintro e l ⟨rfl,q⟩;refine⟨?_,q⟩;have j:=oF v q;unfold UQ
 cases r.decline with
 |true=>exact⟨3,Y,0,0,[],rfl,rfl,oZ _ _ _ _⟩
 |false=>
  cases r.cheapest with
  |true=>exact⟨5,o,_,p,r.routes,rfl,rfl,j⟩
  |false=>exact⟨4,o,_,p,r.routes,rfl,rfl,j⟩
def EM {zb}(w G R z)(q:Nat)(h:vP zb w G R z)(hn:R.length<=8)(hm:q<256)(ho:∀k,k<R.length->z k<R.length)(hR:∀r,r∈R->r.mcc.length<=4000/\r.cur.length<=4000):
  j1 C 187 #[O (Z ⟨G,0,Y⟩),I .u64 q] w fun e w'=>(∃v,e=z9 v/\Z4 zb w' w.heap.size v (ZL R q (Wk R.length z)))/\F0 w w':=by
 obtain⟨ii,X,o0,p0,q0⟩:=info_parts TR;have HG:=o h;have HO:=o ho;have l1:=o hR;obtain⟨oa,oc,c1,N0⟩:=h.od;have O0:=o N0;obtain⟨n,z0⟩:=ad R.length;have HN:=o z0;rw[z0]at c1 hn;clear h ho hR N0 z0;go_enter func187,ntmps187;go_wp2
 go_loopg [5,15] n (fun m v kv wr=>∃k l,k<=n/\m=n-k/\kv=I V (k:Nat)/\y9 (pS zb w R q n z k v l wr))
 case atStart=>exact⟨0,[],b3 _,rfl,rfl,⟨⟨[],oZ _ _ _ _,rfl⟩,Zo,rfl,aA⟩⟩
 obtain⟨k,l,hk,rfl,rfl,N⟩:=hrel;obtain⟨xs,A0,P0⟩:=N.o.row;obtain⟨va,vc,e3⟩:=oL A0;subst e3;have H:y9 (wr.ownsRow w.heap.size 208 4 (U va l.length vc) l.length xs/\Xw zb wr l xs):=⟨A0,P0⟩;have N1:=N.o.le;have O1:=N.o.fr.size;clear A0 P0;by_cases m1:k<n
 ·have n1:=af k n;obtain⟨og,o1,y0,B0⟩:=O0.o k (aj HN.o);subst o1;obtain⟨i,hi⟩:=ad (z k);have HI:=o hi
  have P1:i<n:=by have:=HO.o k (aj HN.o);have:=HN.o;omega
  rw[hi]at B0;have d0:=(N.o.fr.cell (p:=⟨og,k,Y⟩) y0).trans B0;obtain⟨r,hr⟩:∃r,R[i]?=Z r:=⟨_,gE (aj HN.o)⟩;have r0:=o hr
  have a0:y9 (∀W,j1 C 145 #[I .u64 q,I V i] W fun e w'=>e=z9 (y8 (q.testBit i))/\w'=W):=fun W=>Cr q i W hm az
  have P:y9 (ZL R q ((Wk n z).drop k)=if q.testBit i then(if Z8 r=[]then[UQ i r]else Sz r++(UQ i r::ZL R q ((Wk n z).drop (k+1))))else ZL R q ((Wk n z).drop (k+1))):=by
   show _=_
   rw[B9 m1,hi,Gs R q i _ r hr]
  clear hi hr B0
  cases hb:q.testBit i with
  |false=>
   rw[hb]at a0 P;go_wp2_with fail;refine(a0.o _).mono ?_;rintro e w2 ⟨rfl,hw⟩;replace hw:=hw.symm;subst hw;go_wp2;go_roundg (n-(k+1))
   case measure=>omega
   refine⟨k+1,l,az,rfl,aE,⟨N.o.row,N.o.fr,?_,az⟩⟩;have e:=N.o.eq;rw[P.o]at e
   simpa using e
  |true=>
   rw[hb]at a0 P;have C0:=HG.o.fr N.o.fr;obtain⟨Q1,c2,g0,Q0⟩:=C0.rl;obtain⟨g,ma,mc,ca,cc,pa,pc,eg,s0,b,R0,S0,T0⟩:=Q0 i r r0.o;subst eg;rw[HN.o]at g0;have v0:=b 0 _ rfl;have v1:=b 1 _ rfl;have v2:=b 2 _ rfl;have v3:=b 3 _ rfl;have v4:=b 4 _ rfl;have v5:=b 5 _ rfl;have v6:=b 6 _ rfl;have v7:=b 7 _ rfl;have v8:=b 8 _ rfl;have v9:=b 9 _ rfl;have r1:=b 10 _ rfl;have s1:=b 11 _ rfl;have t1:=b 12 _ rfl;have w1:=b 13 _ rfl;rw[c8]at v0;have D0:=l1.o r (mG r0.o)
   have E0:y9 (j1 C 222 #[F3 r.name r.rank r.digits r.lo r.hi ma r.mcc.length mc r.am.isSome (r.am.getD (0,0)).1 (r.am.getD (0,0)).2 ca r.cur.length cc r.decline r.cheapest pa r.routes.length pc r.ahead] wr fun e w'=>(∃v,e=z9 v/\Z4 zb w' wr.heap.size v (Z8 r)/\(Z8 r=[]->v=U Y 0 0))/\F0 wr w'):=by
    rw[MR];exact EL r.name r.rank r.digits r.lo r.hi ma mc r.am.isSome _ _ ca cc r.decline r.cheapest pa r.routes.length pc r.ahead r.mcc r.cur wr C0.zl R0 S0 D0.1 D0.2
   unfold F3 at E0;have x1:=o b;have A1:=o s0;have t:=o T0;have R1:=af i n;clear b R0 S0 T0 D0 Q0 C0 s0;go_wp2_with fail;refine(a0.o _).mono ?_;rintro e w2 ⟨rfl,hw⟩;replace hw:=hw.symm;subst hw;go_wp2_with fail;refine E0.o.mono ?_;rintro e w3 ⟨⟨S1,rfl,V0,G0⟩,W0⟩;obtain⟨f,b0⟩:=ad (Z8 r);have T1:=o b0
   have s0:f.length<=3:=by rw[<-b0];exact TB r
   rw[show Sz r=ZP (Z8 r).length 0 (Z8 r)from rfl,b0]at P;rw[b0]at V0 G0;obtain⟨B1,A,c0⟩:=V0;obtain⟨e0,S,e8⟩:=oL A;subst e8;obtain⟨m,f0⟩:=ad f.length;have T:=o f0;obtain⟨wo,C1⟩:=ae wr;subst C1;have X0:y9 (Gt zb wo (U e0 m S) f 0 w3):=⟨⟨B1,by rw[Jg,<-f0];exact A,by rw[Jg];exact c0⟩,W0⟩
   have D1:y9 (f=[]->j4 e0 m S=U Y 0 0):=by rw[<-f0];exact G0
   rw[f0]at s0 ⊢;clear b0 f0 G0 A c0 W0 v0 v1 v2 v3 v4 v5 v6 v7 v8 v9 r1 s1 t1 w1 g0 a0 E0 x1 A1 t d0 y0 c1 O0;go_wp2
   go_loopg [33] m (fun mm kv wx=>∃a,a<=m/\mm=m-a/\kv=I V (a:Nat)/\y9 (Gt zb wo (U e0 m S) f a wx))
   case atStart=>exact⟨0,b3 _,rfl,rfl,X0⟩
   obtain⟨a,ha,rfl,rfl,HF⟩:=hrel;by_cases Y0:a<m
   ·have Z0:=af a m
    obtain⟨g8,e8⟩:∃g8,e0=Z ⟨g8,0,Y⟩:=by
     obtain⟨V1,E1,_⟩:=HF.o.row;rcases E1.2 with⟨e,_⟩|⟨g',J1,W1,e,_⟩
     ·injection e with _ e2 _;omega
     injection e with e1 _ _;exact⟨g',e1⟩
    subst e8;obtain⟨H0,⟨u,hu⟩,X1⟩:=HF.o.step T.o Y0;rw[show((m-a+1:Nat):Int)=(m:Int)-a+1 from az]at H0;have F1:=o H0;clear H0;go_wp2;go_roundg (m-(a+1))
    case measure=>omega
    exact⟨a+1,az,rfl,aE,F1⟩
   have G1:a=m:=az;subst G1;have Z0:=ai a a;have I0:=N.o.fr.trans HF.o.fr;have J0:=o I0
   have H1:y9 (Z4 zb wr wo.heap.size (U e0 a S) (ZP f.length 0 f)):=by
    have e:=HF.o.row;rw[<-T.o,yM]at e;rw[<-T.o];exact e
   have t:y9 (wr.ownsRow w.heap.size 208 4 (U va l.length vc) l.length xs/\Xw zb wr l xs):=⟨oF H.o.1 HF.o.fr,H.o.2.keep (fun v n ys hv=>oF hv HF.o.fr)⟩;have d1:=I0.size;clear I0 HF X0 H;by_cases f1:a=0
   ·subst f1;have L:=b9.1 T.o;have e8:=D1.o L;injection e8 with e8 _ e9;subst e8 e9
    go_wp2_with (at_builtin;refine wpList_append_own_none rfl (.tmp 46) (.tmp 47) 129 rfl w.heap.size 208 ii 4 underlying129 X (U va l.length vc) l.length xs rfl ?h1 rfl ?h2)
    case h1=>exact t.o.1
    refine(Cw (HG.o.fr J0.o) i r r0.o).mono ?_;rintro e w5 ⟨⟨s,a1,b1,c1,h0,rfl,B,D⟩,J⟩;have i0:=o B;have j0:=o D;have k0:=o J;have g1:w.heap.size<=w5.heap.size:=q8 d1 J.size;clear B D J
    go_wp2_with (at_builtin;refine ao w.heap.size TR underlying129 (U va l.length vc) l.length xs ?q1 ⟨w5.heap.size,0,Y⟩ [I g7 s,U a1 b1 c1,I V i,I V 0] ?q2 ?_)
    case q1=>exact(oF t.o.1 k0.o).alloc _
    case q2=>exact j6 (aN w5 (Q #[I g7 s,U a1 b1 c1,I V i,I V 0] 208))
    intro g2 y w6 d c K _
    have F:y9 (Z4 zb w6 w.heap.size (U (Z ⟨g2,0,Y⟩) (l.length+1) y) (l++[UQ i r])/\F0 w w6):=by
     have hf:=k0.o.alloc (Q #[I g7 s,U a1 b1 c1,I V i,I V 0] 208);rw[i0.o];refine⟨Z4.grown (l':=[⟨s,h0,i,0⟩]) (oF t.o.1 hf) (t.o.2.keep (fun v n ys hv=>oF hv hf)) (Xw.one ⟨_,rfl,j0.o.alloc _⟩) c d,(J0.o.trans hf).grown c (fun k hk=>E (t.o.1.lt k hk).1)⟩
    clear d c K;go_wp2;go_ret;refine⟨⟨_,rfl,?_⟩,F.o.2⟩;have e:=N.o.eq;rw[P.o,if_pos trivial,if_pos L]at e;rw[HN.o,e];exact F.o.1
   have L:¬f=[]:=fun e=>f1 (by have:=T.o;rw[e]at this;exact this.symm)
   have K1:¬(a:Int)=0:=az;obtain⟨l0,A,c0⟩:=H1.o
   have K0:(ZP f.length 0 f).length=a:=by rw[Vs];exact T.o
   rw[K0]at A;obtain⟨g8,L1,e8,Y1,M1⟩:=A.form az;injection e8 with e8 _ e9;subst e8 e9;have t0:y9 (wr.ownsRow wo.heap.size 208 4 (U (Z ⟨g8,0,Y⟩) a S) a l0/\Xw zb wr (ZP f.length 0 f) l0):=⟨A,c0⟩;have m0:=o K0;clear A c0 K0
   go_wp2_with (at_builtin;refine wpList_append_lies _ rfl (.tmp 46) (.tmp 47) 129 rfl w.heap.size 208 ii _ 4 48 underlying129 X o0 p0 q0 rfl aB (U va l.length vc) l.length xs rfl ?p1 ⟨g8,0,Y⟩ a S l0 rfl t0.o.1.1 ?p2 ?p3 az ?p4 ?p5 ?p6 _ rfl ?_)
   case p1=>exact t.o.1
   case p2=>
    intro j u hu;have e:=t0.o.1.cells (g:=g8) rfl j u hu
    rwa [Yf,b7]at e
   case p3=>exact t0.o.2.ones
   case p4=>unfold maxLen;omega
   case p5=>omega
   intro g4 M w4 d c K _
   have w0:y9 (Z4 zb w4 w.heap.size (U (Z ⟨g4,0,Y⟩) (l.length+a) M) (l++ZP f.length 0 f)/\F0 w w4):=by
    refine⟨?_,J0.o.grown c (fun k hk=>E (t.o.1.lt k hk).1)⟩;have e:=Z4.grown (g:=g4) (cap:=M) (l':=ZP f.length 0 f) t.o.1 t.o.2 t0.o.2 c (by rw[m0.o];exact d);rw[m0.o]at e;exact e
   have i1:=w0.o.2.size;clear d c K;obtain⟨L0,M0,k1⟩:=w0.o.1;rw[lA,m0.o]at M0;have x0:y9 (w4.ownsRow w.heap.size 208 4 (U (Z ⟨g4,0,Y⟩) (l.length+a) M) (l.length+a) L0/\Xw zb w4 (l++ZP f.length 0 f) L0):=⟨M0,k1⟩;clear M0 k1;go_wp2_with fail;refine(Cw (HG.o.fr w0.o.2) i r r0.o).mono ?_;rintro e w5 ⟨⟨s,a1,b1,c1,h0,rfl,B,D⟩,J⟩;have i0:=o B;have j0:=o D;have k0:=o J;have g1:w.heap.size<=w5.heap.size:=q8 i1 J.size;clear B D J
   go_wp2_with (at_builtin;refine ao w.heap.size TR underlying129 (U (Z ⟨g4,0,Y⟩) (l.length+a) M) (l.length+a) L0 ?y1 ⟨w5.heap.size,0,Y⟩ [I g7 s,U a1 b1 c1,I V i,I V 0] ?y2 ?_)
   case y1=>exact(oF x0.o.1 k0.o).alloc _
   case y2=>exact j6 (aN w5 (Q #[I g7 s,U a1 b1 c1,I V i,I V 0] 208))
   intro g2 y w6 d c K _
   have F:y9 (Z4 zb w6 w.heap.size (U (Z ⟨g2,0,Y⟩) (l.length+a+1) y) ((l++ZP f.length 0 f)++[UQ i r])/\F0 w w6):=by
    have hf:=k0.o.alloc (Q #[I g7 s,U a1 b1 c1,I V i,I V 0] 208);rw[i0.o]
    have n0:(l++ZP f.length 0 f).length=l.length+a:=by rw[lA,m0.o]
    refine⟨?_,(w0.o.2.trans hf).grown c (fun k hk=>E (x0.o.1.lt k hk).1)⟩;have e:=Z4.grown (g:=g2) (cap:=y) (l:=l++ZP f.length 0 f) (l':=[⟨s,h0,i,0⟩]) (by rw[n0];exact oF x0.o.1 hf) (x0.o.2.keep (fun v n ys hv=>oF hv hf)) (Xw.one ⟨_,rfl,j0.o.alloc _⟩) c (by rw[n0];exact d);rw[n0]at e;exact e
   clear d c K;go_wp2;go_roundg (n-(k+1))
   case measure=>omega
   refine⟨k+1,(l++ZP f.length 0 f)++[UQ i r],az,rfl,aE,⟨?_,F.o.2,?_,?_⟩⟩
   ·exact F.o.1
   ·have e:=N.o.eq;rw[P.o,if_pos trivial,if_neg L]at e;rw[e];simp
   rw[lA,lA,m0.o];simp;omega
 have I1:k=n:=az;subst I1;have n1:=ai k k
 go_wp2_with (at_builtin;refine ao w.heap.size TR underlying129 (U va l.length vc) l.length xs ?z1 ⟨wr.heap.size,0,Y⟩ [I g7 6,U Y 0 0,I V 0,I V 0] ?z2 ?_)
 case z1=>exact H.o.1.alloc _
 intro g2 y w6 d c K _
 have F:y9 (Z4 zb w6 w.heap.size (U (Z ⟨g2,0,Y⟩) (l.length+1) y) (l++[⟨6,[],0,0⟩])/\F0 w w6):=by
  have hf:=(Kk wr (Q #[I g7 6,U Y 0 0,I V 0,I V 0] 208)).1;exact⟨Z4.grown (l':=[⟨6,[],0,0⟩]) (H.o.1.alloc _) (H.o.2.keep (fun v n ys hv=>hv.alloc _)) (Xw.one ⟨U Y 0 0,rfl,oZ _ _ _ _⟩) c d,(N.o.fr.trans hf).grown c (fun k hk=>E (H.o.1.lt k hk).1)⟩
 clear d c K;go_wp2;go_ret;refine⟨⟨_,rfl,?_⟩,F.o.2⟩;have e:=N.o.eq;rw[dL (by unfold Wk;simp)]at e;rw[HN.o,e];exact F.o.1
open Go.Maps
def oA {w w' S base e a v n d}(h:w.ownsRow base e a v n d)(f:Fr S w w')(i:∀k,v.ownBlock=Z k->¬S k):w'.ownsRow base e a v n d:=by
 refine⟨h.1,h.2.imp id ?_⟩;rintro⟨g,b,c,rfl,j,l,m⟩;exact⟨g,b,c,rfl,j,f.whole l (i g rfl),m⟩
def oN {w:j0}{b e t s v n g i j f}(h:w.ownsRow b e s v n i)(k:w.heap[g]?=Z (Q j t f))(c:e≠t):v.ownBlock≠Z g:=by
 rcases h.2 with⟨rfl,_⟩|⟨o,l,m,rfl,_,a,_⟩
 ·simp[b6]
 intro d;simp[b6]at d;subst d;rw[k]at a;injection a with a;injection a with _ a _;exact c a.symm
def MT {w:j0}{b e s v n g f i c}(h:w.ownsRow b e s v n f)(j:w.heap[g]?=Z (.map i c)):v.ownBlock≠Z g:=by
 rcases h.2 with⟨rfl,_⟩|⟨m,k,l,rfl,_,a,_⟩
 ·simp[b6]
 intro d;simp[b6]at d;subst d;rw[j]at a;injection a with a
 cases a
structure qE (zb:Nat)(w0:j0)(S:Nat->Prop)(v0 v1:j7)(rls:List Ze)(ord:Nat->Nat):Prop where
 zl:zb<=w0.heap.size
 rl:∃va c,v0=U va rls.length c/\∀i r,rls[i]?=Z r->∃g ma mc ca cc pa pc,va=Z ⟨g,0,Y⟩/\g<w0.heap.size/\¬S g/\
   (∀o v,[j5 r.name,I V r.rank,I V r.digits,I V r.lo,I V r.hi,U ma r.mcc.length mc,y8 r.am.isSome,I V (r.am.getD (0,0)).1,I V (r.am.getD (0,0)).2,U ca r.cur.length cc,y8 r.decline,y8 r.cheapest,U pa r.routes.length pc,I V r.ahead][o]?=Z v->w0.cell? ⟨g,i*14+o,Y⟩=Z v)/\
   (w0.ownsRow zb 3 1 (U ma r.mcc.length mc) r.mcc.length (Zg r.mcc)/\∀k,(j4 ma r.mcc.length mc).ownBlock=Z k->¬S k)/\(w0.ownsRow zb 3 1 (U ca r.cur.length cc) r.cur.length (Zg r.cur)/\∀k,(j4 ca r.cur.length cc).ownBlock=Z k->¬S k)/\(w0.ownsRow zb 3 1 (U pa r.routes.length pc) r.routes.length (Zg r.routes)/\∀k,(j4 pa r.routes.length pc).ownBlock=Z k->¬S k)
 od:∃oa oc,v1=U oa rls.length oc/\∀k,k<rls.length->∃og,oa=Z ⟨og,0,Y⟩/\og<w0.heap.size/\¬S og/\w0.cell? ⟨og,k,Y⟩=Z (I V (ord k))
def qE.at {m w0 w S v0 v1 b d G}(h:qE m w0 S v0 v1 b d)(a:Fr S w0 w)(u:w.cell? ⟨G,0,Y⟩=Z v0)(x:w.cell? ⟨G,1,Y⟩=Z v1):vP m w G b d:=by
 obtain⟨y,⟨z,c,rfl,A⟩,B,C,rfl,D⟩:=h;refine⟨q8 y a.size,⟨z,c,u,fun i r hi=>?_⟩,B,C,x,fun k E=>?_⟩
 ·obtain⟨g,F,H,I,J,K,L,f,e,j,l,n,q,s⟩:=A i r hi;exact⟨g,F,H,I,J,K,L,f,nL e a.size,fun o v M=>(a.cell (p:=⟨g,i*14+o,Y⟩) e j).trans (l o v M),oA n.1 a n.2,oA q.1 a q.2,oA s.1 a s.2⟩
 obtain⟨t,f,e,j,l⟩:=D k E;exact⟨t,f,nL e a.size,(a.cell (p:=⟨t,k,Y⟩) e j).trans l⟩
structure rD (D:DataW Unit)(ps:List Nat):Prop where
 im:IsMap D
 at':∀m:Nat,m<256->Maps.has D (.int .u64 m)=decide (m∈ps)/\(m∈ps->∀z,D.atKey (.int .u64 m) z=.lit (.int .i64 (ps.idxOf m:Nat)))
def rD.put {D b}{a:Nat}(h:rD D b)(g:a∉b):rD (D.put (.int .u64 a) (.lit (.int .i64 (b.length:Nat)))) (b++[a]):=by
 refine⟨h.im.put _ _,fun m i=>?_⟩;by_cases e:m=a
 ·subst e;refine⟨?_,fun _ z=>?_⟩
  ·rw[has_put_same h.im (by simp[WideAt.IsKeyLit])];simp
  rw[atKey_put_same h.im (by simp[WideAt.IsKeyLit]),r0,if_neg g];simp
 have c:Lit.int .u64 (m:Nat)≠Lit.int .u64 (a:Nat):=by
  intro f;injection f with _ f;omega
 obtain⟨j,k⟩:=h.at' m i;refine⟨?_,fun l z=>?_⟩
 ·rw[has_put_other c,j];simp[e]
 have d:m∈b:=by simpa[e]using l
 rw[atKey_put_other c,k d z,r0,if_pos d]
def Ru:Keyed C 183:=int_keyed underlying183
def MU (w):(zeroValue 3).run C w=.ok (I V 0) w:=n
def sg (m:Nat)(h:m<256):keyOf C 183 (.int .u64 m)=Z (.int .u64 m):=keyOf_int_mk underlying183 (WalkArith.wf_u64 z)
def MV:(C.info? 129).map (fun i=>(i.zero,i.size,i.bytes))=Z (Z (U Y 0 0),1,24):=n
structure Pe (zb:Nat)(w0 w:j0)(G M:Nat)(v0 v1:j7)(R:List Ze)(ord:Nat->Nat)(ps:List Nat)(vp:j7):Prop where
 ru:qE zb w0 (fun k=>k=G\/k=M) v0 v1 R ord
 fr:Fr (fun k=>k=G\/k=M) w0 w
 bx:w.heap[G]?=Z (.cells #[v0,v1,vp,.map (Z M)] 178)
 mp:∃D:DataW Unit,w.ownsMap C 183 (plainElem C 3) M ps.length D/\rD D ps
 pg:∃xs,w.ownsRow w0.heap.size 129 1 vp ps.length xs/\∀(j m:Nat),ps[j]?=Z m->∃vj,xs[j]?=Z vj/\Z4 zb w zb vj (ZL R m (Wk R.length ord))
 nd:ps.Nodup
 lt:∀m,m∈ps->m<256
def SA {a w c S v l}(h:Z4 a w a v l)(d:Fr S w c)(f:∀e s v n b,(e=208\/e=3)->w.ownsRow a e s v n b->∀k,v.ownBlock=Z k->¬S k):Z4 a c a v l:=by
 obtain⟨b,g,j⟩:=h;exact⟨b,oA g d (f _ _ _ _ _ (z8 rfl) g),j.keep (fun v n m i=>oA i d (f _ _ _ _ _ (E rfl) i))⟩
def Jh {zb}{w:j0}{G M b n i j l d m}(o:w.heap[G]?=Z (Q i 178))(p:w.heap[M]?=Z (.map j l))(q:w.ownsRow b 129 1 d n m):
  ∀e s v n f,(e=208\/e=3)->w.ownsRow zb e s v n f->∀k,v.ownBlock=Z k->¬(k=G\/k=M\/d.ownBlock=Z k):=by
 rintro e s v n f g c k a (rfl|rfl|h)
 ·exact oN c o (by rcases g with rfl|rfl<;>decide) a
 ·exact MT c p a
 rcases WP c q (by rcases g with rfl|rfl<;>decide)with h'|h'
 ·rw[h']at a
  cases a
 exact h' (a.trans h.symm)
def Pe.more {J w0 w X K i G M v0 v1 R l x o n q d g c L D1 u}(h:Pe J w0 w G M v0 v1 R l x (U o n q))(hn:x.length=n)(a0:d∉x)(hm:d<256)(hM:M<w0.heap.size)(hG:G<w0.heap.size)(r:w.ownsRow w0.heap.size 129 1 (U o n q) n L)(b0:∀(j m:Nat),x[j]?=Z m->∃V,L[j]?=Z V/\Z4 J w J V (ZL R m (Wk R.length l)))(c0:X.ownsMap C 183 (plainElem C 3) M (n+1) D1)(d0:rD D1 (x++[d]))(y:Fr (fun k=>k=M) w X)(s:F0 X K)(e0:Z4 J K J u (ZL R d (Wk R.length l)))(v:i.ownsRow w0.heap.size 129 1 (U (Z ⟨g,0,Y⟩) (n+1) c) (n+1) (L++[u]))(z:K.grownBy i (j4 o n q).ownBlock):
  Pe J w0 (i.setCell ⟨G,2,Y⟩ (U (Z ⟨g,0,Y⟩) (n+1) c)) G M v0 v1 R l (x++[d]) (U (Z ⟨g,0,Y⟩) (n+1) c)/\Fr (fun k=>k=G\/k=M\/(j4 o n q).ownBlock=Z k) w (i.setCell ⟨G,2,Y⟩ (U (Z ⟨g,0,Y⟩) (n+1) c))/\i.cell? ⟨G,2,Y⟩=Z (U o n q)/\i.frozen? ⟨G,2,Y⟩=false:=by
 have A:∀k,(j4 o n q).ownBlock=Z k->w0.heap.size<=k:=fun k f=>(r.lt k f).1
 obtain⟨D,⟨m0,n0,B,_⟩,_⟩:=h.mp
 have N:G≠M:=by
  rintro rfl;rw[h.bx]at B
  cases B
 have f0:=y.whole h.bx N;have O:=s.whole f0;have H:=(Fr.refl _ K).grown z (fun k f=>z8 f);have t:=H.whole O (fun e=>aj (A G e));have P:Fr (fun k=>k=G\/k=M\/(j4 o n q).ownBlock=Z k) K (i.setCell ⟨G,2,Y⟩ (U (Z ⟨g,0,Y⟩) (n+1) c)):=Fr.setCell (S:=fun k=>k=G\/k=M\/(j4 o n q).ownBlock=Z k) (H.mono (fun k f=>E (E f))) (p:=⟨G,2,Y⟩) (z8 (z8 rfl)) _;have g0:Fr (fun k=>k=G\/k=M\/(j4 o n q).ownBlock=Z k) w K:=(y.mono (fun k f=>E (z8 f))).trans (s.mono);have F:=g0.trans P;have Q:=oF (oF r y (fun k f=>az)) s;obtain⟨es,ck,h0,i0⟩:=c0;have T:=s.whole h0;refine⟨⟨h.ru,h.fr.monoNew F ?_,?_,⟨D1,⟨es,ck,?_,?_⟩,d0⟩,⟨L++[u],?_,?_⟩,?_,?_⟩,F,Zc t 2,bF t 2⟩
 ·rintro k (rfl|rfl|f)
  ·exact z8 (z8 rfl)
  ·exact z8 (E rfl)
  exact E (A k f)
 ·have e:=heap_setCell_same i G 2 _ _ (U (Z ⟨g,0,Y⟩) (n+1) c) t
  simpa using e
 ·have j0:=H.whole T (fun e=>aj (A M e));rw[heap_setCell_other i ⟨G,2,Y⟩ M _ (fun e=>N e.symm)];exact j0
 ·rw[lA,hn];exact i0
 ·rw[lA,hn];exact ownsRow_setCell_other v (a:=⟨G,2,Y⟩) (oN v t aB) _
 ·intro j m I;have o0:L.length=n:=aj r.1;rcases l4 j n with p0|q0
  ·rw[j3 az]at I;obtain⟨V,e1,e2⟩:=b0 j m I;exact⟨V,by rw[j3 az];exact e1,SA e2 F (Jh h.bx B r)⟩
  rw[aR az]at I
  have k0:j-x.length=0:=by
   have:=(iG.1 I).1;simp at this;omega
  rw[k0]at I;simp at I;subst I;refine⟨u,?_,SA e0 P (Jh O T Q)⟩;rw[aR az,show j-L.length=0 from az];rfl
 ·rw[s9];refine⟨h.nd,aA,fun a ha b hb=>?_⟩;simp at hb;subst hb;rintro rfl;exact a0 ha
 intro m l0;rcases g5.1 l0 with W|W
 ·exact h.lt m W
 simp at W;subst W;exact hm
def Is {zb}(B w G M v0 v1 R d p vp)(met:Nat)(h:Pe zb B w G M v0 v1 R d p vp)(hM:M<B.heap.size)(hG:G<B.heap.size)(k0:p.length<=256)(hn:R.length<=8)(hm:met<256)(ho:∀k,k<R.length->d k<R.length)(hR:∀r,r∈R->r.mcc.length<=4000/\r.cur.length<=4000):
  j1 C 148 #[.pointer (Z ⟨G,0,Y⟩),.int .u64 met] w fun e t=>e=.returned (.int .i64 (Vo p met:Nat))/\(∃O,Pe zb B t G M v0 v1 R d (WE p met) O/\(O.ownBlock=vp.ownBlock\/∀k,O.ownBlock=Z k->w.heap.size<=k))/\Fr (fun k=>k=G\/k=M\/vp.ownBlock=Z k) w t:=by
 obtain⟨ii,l0,m0,n0,o0⟩:=info_parts MV;have F:=Za h
 have p0:y9 (∀W,vP zb W G R d->j1 C 187 #[.pointer (Z ⟨G,0,Y⟩),.int .u64 met] W fun e t=>(∃v,e=.returned v/\Z4 zb t W.heap.size v (ZL R met (Wk R.length d)))/\F0 W t):=fun W hW=>EM W G R d met hW hn hm ho hR
 obtain⟨D,u,hD⟩:=h.mp;have x:=Za u;have HD:=Za hD;have HK:=Za (sg met hm);obtain⟨H,P,q0⟩:=h.pg;obtain⟨Q,T,e3⟩:=oL P;subst e3;obtain⟨n,a0⟩:=ad p.length;have HN:=Za a0;rw[a0]at x F k0 P ⊢;have U:y9 (w.ownsRow B.heap.size 129 1 (.slice Q n T) n H/\∀(j m:Nat),p[j]?=Z m->∃vj,H[j]?=Z vj/\Z4 zb w zb vj (ZL R m (Wk R.length d))):=⟨P,q0⟩;have x2:=Zc F.o.bx 2;have x3:=Zc F.o.bx 3;have J:=(hD.at' met hm).1;by_cases i:met∈p
 ·have hh:Maps.has D (.int .u64 met)=true:=by rw[J];simpa using i
  go_enter func148,ntmps148
  go_wp2_with (at_lookup;refine wpList_lookup_own_ok_int _ rfl (.tmp 11) (.tmp 12) 176 rfl 183 3 .i64 Ru underlying176 underlying3 (MU _) M n D rfl x.o _ _ rfl HK.o ?_;rw[hh])
  intro c q r0
  have hc:c=((Vo p met:Nat):Int):=by
   rw[(HD.o.at' met hm).2 i]at q;injection q with q;injection q with _ q;exact q.symm
  subst hc;go_wp2;go_ret;refine⟨rfl,⟨.slice Q n T,?_,z8 rfl⟩,Zo⟩;rw[show WE p met=p from if_pos i];exact F.o
 have hh:Maps.has D (.int .u64 met)=false:=by rw[J];simpa using i
 go_enter func148,ntmps148
 go_wp2_with (at_lookup;refine wpList_lookup_own_ok_int _ rfl (.tmp 11) (.tmp 12) 176 rfl 183 3 .i64 Ru underlying176 underlying3 (MU _) M n D rfl x.o _ _ rfl HK.o ?_;rw[hh])
 intro c q r0
 go_wp2_with (at_mapUpdate;refine wpList_mapUpdate_own _ rfl (.tmp 26) (.tmp 27) (.tmp 28) 176 rfl 183 3 Ru underlying176 _ M n D rfl x.o ?k1 _ _ _ rfl rfl HK.o (.lit (.int .i64 (n:Nat))) [] ?k2 ?_)
 case k1=>unfold maxLen;omega
 case k2=>exact plainElem_int underlying3 (WalkArith.wf_i64 az)
 intro w1 V I;have y:Fr (fun k=>k=M) w w1:=(Fr.refl _ w).grown I (fun k L=>z8 (by injection L with L;exact L.symm))
 have s0:G≠M:=by
  obtain⟨B0,C0,b0,_⟩:=x.o;rintro rfl;rw[F.o.bx]at b0
  cases b0
 have c0:=Za y;have d0:=Za V
 have t0:y9 (rD (D.put (.int .u64 met) (.lit (.int .i64 (n:Nat)))) (p++[met])):=by
  have e:=HD.o.put i;rw[HN.o]at e;exact e
 have z:=y.whole F.o.bx s0;have y2:=Zc z 2;have e0:=oF U.o.1 y (fun k L=>az);have g0:B.heap.size<=w1.heap.size:=q8 F.o.fr.size y.size
 have h0:y9 (∀W,F0 w1 W->j1 C 187 #[.pointer (Z ⟨G,0,Y⟩),.int .u64 met] W fun e t=>(∃a b c,e=.returned (.slice a b c)/\y9 (Z4 zb t zb (.slice a b c) (ZL R met (Wk R.length d))))/\y9 (F0 w1 t/\t.ownsRow B.heap.size 129 1 (.slice Q n T) n H/\B.heap.size<=t.heap.size)/\t.cell? ⟨G,2,Y⟩=Z (.slice Q n T)):=by
  intro W hW
  have i0:vP zb W G R d:=by
   have f0:=F.o.fr.trans (y.mono (fun k L=>E L));have b:=hW.whole z;exact F.o.ru.at (f0.trans (hW.mono)) (Zc b 0) (Zc b 1)
  refine(p0.o W i0).mono ?_;rintro e t ⟨⟨v,rfl,x0⟩,hf⟩;have f2:=hW.trans hf;obtain⟨ys,o1,o2⟩:=x0;obtain⟨a,c,e3⟩:=oL o1;subst e3;exact⟨⟨a,_,c,rfl,⟨ys,oS o1 i0.zl,o2⟩⟩,⟨f2,oF e0 f2,q8 g0 f2.size⟩,bC (f2.whole z) 2 _ rfl⟩
 have y0:y9 (Vo p met=n):=by
  unfold Vo;rw[m9 i];exact HN.o
 go_wp2;refine wp_region_held_drew (S:=fun _=>True) aC trivial (fun s=>?_)
 iterate 4 (refine Yy 0 s ?_;try go_frame)
 iterate 2 ((first|refine Yy 0 s ?_|refine Yy 1 s ?_);try go_frame)
 refine XA [4,7] ?_;refine Zb rfl (fun K f=>?p1) (Zb rfl (fun K f=>?p2) k8)
 case' p1=>
  try rw[if_pos aD]
  go_simp;refine f.out _ _ s (fun _=>?_)
  try go_frame
  refine WI 7 (fun K f=>?_);go_simp;refine(h0.o _ Zo.drew).mono ?_;rintro e w5 ⟨⟨a1,b1,c1,rfl,j0⟩,A,z2⟩;refine f.out _ _ trivial (fun s=>?_)
  try go_frame
  refine WI 8 (fun K f=>?_);go_simp;refine f.out _ _ trivial (fun s=>?_)
  try go_frame
 case' p2=>
  go_simp;refine(h0.o _ Zo.drew).mono ?_;rintro e w5 ⟨⟨a1,b1,c1,rfl,j0⟩,A,z2⟩;refine f.out _ _ trivial (fun s=>?_)
  try go_frame
  refine XA [4,8] ?_;refine Zb rfl (fun K f=>?p3) (Zb rfl (fun K f=>?p4) k8)
 case' p3=>
  try rw[if_pos aD]
  go_simp;refine f.out _ _ s (fun _=>?_)
  try go_frame
  refine WI 8 (fun K f=>?_);go_simp;refine f.out _ _ trivial (fun s=>?_)
  try go_frame
 case' p4=>
  try rw[if_pos aD]
  go_simp;refine f.out _ _ trivial (fun s=>?_)
  try go_frame
  refine XA [4] ?_;refine Zb rfl (fun K f=>?_) k8
  try rw[if_pos aD]
  have z3:=fun o=>(c6 w5 ⟨G,2,Y⟩ o (by simp[z2])).trans z2
  go_simp;refine f.out _ _ s (fun _=>?_)
  try go_frame
 all_goals
  refine XA [9] ?_;refine Zb rfl (fun K f=>?_) k8;refine step_append_lies _ rfl (.tmp 33) (.tmp 37) 130 rfl B.heap.size 129 ii _ 1 24 underlying130 l0 m0 n0 o0 rfl aB (.slice Q n T) n H rfl ?h1 ⟨w5.heap.size,0,Y⟩ 1 1 [.slice a1 b1 c1] rfl rfl ?h2 ?h3 aB ?h4 ?h5 ?h6 _ rfl ?_
  case h1=>exact A.o.2.1.alloc _
  case h2=>exact j6 (aN w5 _)
  case h3=>simp[k7]
  case h4=>unfold maxLen;omega
  case h5=>omega
  case h6=>have:=A.o.2.2;simp;omega
  intro g2 l w8 u X z0 _;have g:=Pe.more F.o HN.o i hm hM hG U.o.1 U.o.2 d0.o t0.o c0.o (A.o.1.alloc _) (PI j0.o (Zo.alloc _)) u X;have d2:=g.2.2.1;have df:=g.2.2.2
  have A0:y9 ((j4 (Z ⟨g2,0,Y⟩) (n+1) l).ownBlock=(j4 Q n T).ownBlock\/∀k,(j4 (Z ⟨g2,0,Y⟩) (n+1) l).ownBlock=Z k->w.heap.size<=k):=by
   rcases z0 with e|e
   ·exact z8 e.symm
   refine E fun k L=>?_
   have e2:g2=k:=by simpa[b6]using L
   have:=c0.o.size;have:=A.o.1.size
   have e3:g2=w5.heap.size+1:=by rw[e];simp
   omega
  have N:y9 (Pe zb B (w8.setCell ⟨G,2,Y⟩ (.slice (Z ⟨g2,0,Y⟩) (n+1) l)) G M v0 v1 R d (p++[met]) (.slice (Z ⟨g2,0,Y⟩) (n+1) l)/\Fr (fun k=>k=G\/k=M\/(j4 Q n T).ownBlock=Z k) w (w8.setCell ⟨G,2,Y⟩ (.slice (Z ⟨g2,0,Y⟩) (n+1) l))):=⟨g.1,g.2.1⟩;refine f.out _ _ trivial (fun s=>?_)
  try go_frame
  iterate 2 (refine Yy 0 s ?_;try go_frame)
  refine WI 12 (fun K f=>?_);go_simp;refine f.out _ _ trivial (fun _=>?_)
  try go_frame
  refine wpAnyH_done aC ?_ _;go_wp2;go_ret;refine⟨by rw[y0.o];rfl,⟨_,?_,A0.o⟩,N.o.2⟩;rw[show WE p met=p++[met]from if_neg i];exact N.o.1
def Xm (w:j0)(e:Nat):Tr->j7->Prop
 | .leaf p,v=>v=j9 #[O Y,I V p]
 | .node k,v=>∃K c,v=j9 #[O (Z ⟨K,0,Y⟩),I V 0]/\e<=K/\w.heap[K]?=Z (Q c 248)/\c.size=20/\∀d,d<10->∃a b,c[d*2]?=Z a/\c[d*2+1]?=Z b/\Xm w e (k d) (j9 #[a,b])
def Xm.keep {w w':j0}{S:Nat->Prop}{c:Nat}(e:Fr S w w')(f:∀K cs,c<=K->w.heap[K]?=Z (Q cs 248)->¬S K):∀(t:Tr)(v:j7),Xm w c t v->Xm w' c t v
 | .leaf _,_,h=>h
 | .node k,v,⟨K,cs,h1,hl,h2,h3,h4⟩=>⟨K,cs,h1,hl,e.whole h2 (f K cs hl h2),h3,fun d g=>by
   obtain⟨a,b,i,j,l⟩:=h4 d g
   exact⟨a,b,i,j,Xm.keep e f (k d) _ l⟩⟩
def Xm.keep' {w b S a t v}(h:Xm w a t v)(c:Fr S w b)(d:∀K,a<=K->¬S K):Xm b a t v:=Xm.keep c (fun K _ e _=>d K e) t v h
def Xm.low {w:j0}{f c:Nat}(e:c<=f):∀(t:Tr)(v:j7),Xm w f t v->Xm w c t v
 | .leaf _,_,h=>h
 | .node k,v,⟨K,cs,h1,hl,h2,h3,h4⟩=>⟨K,cs,h1,q8 e hl,h2,h3,fun d g=>by
   obtain⟨a,b,i,j,l⟩:=h4 d g
   exact⟨a,b,i,j,Xm.low e (k d) _ l⟩⟩
def Pe.keep {c d w w' G M e f R a g i}(h:Pe c d w G M e f R a g i)(b:F0 w w'):Pe c d w' G M e f R a g i:=by
 obtain⟨D,⟨k,l,n,o⟩,p⟩:=h.mp;obtain⟨q,r,s⟩:=h.pg;refine⟨h.ru,h.fr.trans (b.mono),b.whole h.bx,⟨D,⟨k,l,b.whole n,o⟩,p⟩,⟨q,oF r b,fun j m t=>?_⟩,h.nd,h.lt⟩;obtain⟨u,v,x⟩:=s j m t;exact⟨u,v,PI x b⟩
def Pe.wrote {r u w A S G M B C R f F H}(h:Pe r u w G M B C R f F H)(g:Fr S w A)(o:∀k,S k->u.heap.size<=k/\∃p t,w.heap[k]?=Z (Q p t)/\(t=133\/t=248)):Pe r u A G M B C R f F H:=by
 obtain⟨D,⟨K,L,I,i⟩,N⟩:=h.mp;obtain⟨d,J,O⟩:=h.pg
 have c:∀e s v n d b,(e=208\/e=3\/e=129)->w.ownsRow b e s v n d->∀k,v.ownBlock=Z k->¬S k:=by
  intro e s v n d b x i k y l;obtain⟨_,p,t,a,q⟩:=o k l;exact oN i a (by rcases x with rfl|rfl|rfl<;>rcases q with rfl|rfl<;>decide) y
 have P:¬S G:=fun l=>by
  obtain⟨_,p,t,a,q⟩:=o G l;rw[h.bx]at a;injection a with a;injection a with _ a _;subst a
  rcases q with e|e<;>exact absurd e aB
 have z:¬S M:=fun l=>by
  obtain⟨_,p,t,a,q⟩:=o M l;rw[I]at a
  cases a
 refine⟨h.ru,h.fr.monoNew g (fun k y=>E (o k y).1),g.whole h.bx P,⟨D,⟨K,L,g.whole I z,i⟩,N⟩,⟨d,oA J g (c _ _ _ _ _ _ (E (E rfl)) J),fun j m T=>?_⟩,h.nd,h.lt⟩;obtain⟨U,V,W⟩:=O j m T;exact⟨U,V,SA W g (fun e s v n d x i=>c e s v n d r (by rcases x with e|e<;>simp[e]) i)⟩
def Pe.apart {f g w G M i j R b k c}(h:Pe f g w G M i j R b k c):∀K d,w.heap[K]?=Z (Q d 248)->¬(K=G\/K=M\/c.ownBlock=Z K):=by
 obtain⟨D,⟨n,o,l,_⟩,_⟩:=h.mp;obtain⟨p,m,_⟩:=h.pg;rintro K d a (rfl|rfl|e)
 ·rw[h.bx]at a;injection a with a;injection a with _ a _;exact absurd a aB
 ·rw[l]at a
  cases a
 exact oN m a aB e
def Pe.gr {b c w G M d e R a f g}(h:Pe b c w G M d e R a f g):vP b w G R a:=h.ru.at h.fr (Zc h.bx 0) (Zc h.bx 1)
def Pe.few {c d w G M e f R a b g}(h:Pe c d w G M e f R a b g):b.length<=256:=by
 have i:b⊆b8 256:=fun m j=>List.mem_range.2 (h.lt m j)
 have:=List.Nodup.length_le_of_subset h.nd i
 simpa using this
def T8 (q:Z6)(op i:Nat)(r:Ze)(a:Nat×Nat):Nat×Nat:=
 if op.testBit i then(if ZK q (YX r.digits r.lo r.hi)=2 then(a.1|||1<<<i,a.2)else if ZK q (YX r.digits r.lo r.hi)=1 then(a.1,a.2|||1<<<i)else a)else a
def Aa {q op i}{R:List Ze}{r a}(h:R[i]?=Z r):YH q op i (R.drop i) a=YH q op (i+1) (R.drop (i+1)) (T8 q op i r a):=by
 obtain⟨b,e⟩:=iG.1 h;rw[dC b,e];rfl
def yN {q op}{R:List Ze}{a}:YH q op R.length (R.drop R.length) a=a:=by
 rw[dL (j2 _)];rfl
structure rE (zb:Nat)(w0 W2:j0)(G M K:Nat)(v0 v1:j7)(R:List Ze)(ord:Nat->Nat)(f:Nat->List Nat->Tr×List Nat)(ps:List Nat)(vp:j7)(d:Nat)(wx:j0):Prop where
 gs:∃vp',Pe zb w0 wx G M v0 v1 R ord (YI f d ps).2 vp'/\(vp'.ownBlock=vp.ownBlock\/∀k,vp'.ownBlock=Z k->W2.heap.size<=k)
 fr:Fr (fun k=>k=G\/k=M\/vp.ownBlock=Z k\/k=K) W2 wx
 ar:∃cs,wx.heap[K]?=Z (Q cs 248)/\cs.size=20/\∀j,j<d->∃a b,cs[j*2]?=Z a/\cs[j*2+1]?=Z b/\Xm wx (K+1) ((YI f d ps).1 j) (j9 #[a,b])
def Ta (h:Nat)(i w:j0)(G M:Nat)(j l:j7)(R:List Ze)(d:Nat->Nat)(T:Tr×List Nat)(g:j7)(e:Ending)(f:j0):Prop:=
 (∃a b,e=z9 (j9 #[a,b])/\Xm f w.heap.size T.1 (j9 #[a,b]))/\(∃c,Pe h i f G M j l R d T.2 c/\(c.ownBlock=g.ownBlock\/∀k,c.ownBlock=Z k->w.heap.size<=k))/\Fr (fun k=>k=G\/k=M\/g.ownBlock=Z k) w f
def rE.step {C r o J L c G M K D F R l f n s m d a b}(h:rE C r o G M K D F R l f n s d J)(hd:d<10)(N:r.heap.size<=K)(a0:K<o.heap.size)(O:Pe C r J G M D F R l (YI f d n).2 m)(t:m.ownBlock=s.ownBlock\/∀k,m.ownBlock=Z k->o.heap.size<=k)(g:F0 J L)(hp:Ta C r L G M D F R l (f d (YI f d n).2) m (z9 (j9 #[a,b])) c):
  rE C r o G M K D F R l f n s (d+1) ((c.setCell ⟨K,d*2,Y⟩ a).setCell ⟨K,d*2+1,Y⟩ b)/\(∃u,c.cell? ⟨K,d*2,Y⟩=Z u)/\(∃u,c.cell? ⟨K,d*2+1,Y⟩=Z u)/\(∀j,c.frozen? ⟨K,j,Y⟩=false)/\Fr (fun k=>k=G\/k=M\/s.ownBlock=Z k\/k=K) o c:=by
 obtain⟨⟨a',b',v,ht⟩,⟨P,Q,w⟩,q⟩:=hp;injection v with v;injection v with v
 obtain⟨rfl,rfl⟩:a=a'/\b=b':=by simpa using v
 obtain⟨H,hc,S,z⟩:=h.ar;have A:=g.whole hc;have B:=O.keep g;have i:=q.whole A (B.apart K H A);have I:Fr (fun k=>k=K) c ((c.setCell ⟨K,d*2,Y⟩ a).setCell ⟨K,d*2+1,Y⟩ b):=((Fr.refl (fun k=>k=K) c).setCell (p:=⟨K,d*2,Y⟩) (z8 rfl) _).setCell (p:=⟨K,d*2+1,Y⟩) (z8 rfl) _
 have f8:Fr (fun k=>k=G\/k=M\/s.ownBlock=Z k\/k=K) o c:=by
  refine(h.fr.trans (g.mono)).monoNew q ?_;rintro k (rfl|rfl|e)
  ·exact z8 (z8 rfl)
  ·exact z8 (E (z8 rfl))
  rcases t with T|T
  ·exact z8 (E (E (z8 (T▸e))))
  exact E (T k e)
 have U:o.heap.size<=L.heap.size:=q8 h.fr.size g.size;have e1:=heap_setCell_same c K (d*2) _ _ a i;have e2:=heap_setCell_same _ K (d*2+1) _ _ b e1;have g1:∃u,H[d*2]?=Z u:=⟨_,Array.getElem?_eq_getElem az⟩;have g2:∃u,H[d*2+1]?=Z u:=⟨_,Array.getElem?_eq_getElem az⟩;refine⟨⟨⟨P,Q.wrote I ?_,?_⟩,f8.trans (I.mono (fun k z=>E (E (E z)))),⟨_,e2,by simpa using S,?_⟩⟩,?_,?_,fun j=>bF i j,f8⟩
 ·rintro k rfl;exact⟨N,H,_,i,E rfl⟩
 ·rcases w with e|e
  ·rw[e];exact t
  exact E fun k z=>q8 U (e k z)
 ·intro j hj;by_cases ej:j=d
  ·subst ej;refine⟨a,b,?_,?_,?_⟩
   ·rw[Array.getElem?_setIfInBounds_ne az,Array.getElem?_setIfInBounds_self_of_lt az]
   ·rw[Array.getElem?_setIfInBounds_self_of_lt aF]
   have e:(YI f (j+1) n).1 j=(f j (YI f j n).2).1:=by simp[YI]
   rw[e];exact(Xm.low az _ _ ht).keep' I (fun V hl=>az)
  obtain⟨x,y,h1,h2,h3⟩:=z j az;refine⟨x,y,?_,?_,?_⟩
  ·rw[Array.getElem?_setIfInBounds_ne az,Array.getElem?_setIfInBounds_ne az];exact h1
  ·rw[Array.getElem?_setIfInBounds_ne az,Array.getElem?_setIfInBounds_ne az];exact h2
  have e:(YI f (d+1) n).1 j=(YI f d n).1 j:=by simp[YI,ej]
  rw[e];exact(Xm.keep q (fun V W _ X=>B.apart V W X) _ _ (Xm.keep g (fun _ _ _ _=>aA) _ _ h3)).keep' I (fun V hl=>az)
 ·obtain⟨u,hu⟩:=g1;exact⟨u,bC i _ _ hu⟩
 obtain⟨u,hu⟩:=g2;exact⟨u,bC i _ _ hu⟩
def Xm.form {w:j0}{f:Nat}{a b:j7}:∀{t:Tr},Xm w f t (j9 #[a,b])->∃(p:Option Addr)(k:Nat),a=O p/\b=I V k
 | .leaf p,h=>by
  have e:=h;injection e with e
  obtain⟨c,d⟩:a=O Y/\b=I V p:=by simpa using e
  exact⟨Y,p,c,d⟩
 | .node _,⟨K,_,e,_⟩=>by
  injection e with e
  obtain⟨c,d⟩:a=O (Z ⟨K,0,Y⟩)/\b=I V 0:=by simpa using e
  exact⟨_,0,c,d⟩
def Gu:Array j7:=#[O Y,I V 0,O Y,I V 0,O Y,I V 0,O Y,I V 0,O Y,I V 0,O Y,I V 0,O Y,I V 0,O Y,I V 0,O Y,I V 0,O Y,I V 0]
structure pT (W0:j0)(q:Z6)(op:Nat)(R:List Ze)(met i a1 a2:Nat)(wr:j0):Prop where
 fr:F0 W0 wr
 eq:YH q op i (R.drop i) (a1,a2)=YH q op 0 R (met,0)
def Ab {zb}(P G M v0 v1 R z)(hM:M<P.heap.size)(hG:G<P.heap.size)(K1:R.length<=8)(ho:∀k,k<R.length->z k<R.length)(hR:∀r,r∈R->r.mcc.length<=4000/\r.cur.length<=4000)(hB:∀r,r∈R->PF r/\r.lo<=1000000)(n)(ih:∀q (met op:Nat) B F w,7<=n+q.d->q.d<=6->q.x<10^q.d->met<256->op<256->Pe zb P w G M v0 v1 R z B F->j1 C 93 #[O (Z ⟨G,0,Y⟩),VY q,I .u64 met,I .u64 op] w (Ta zb P w G M v0 v1 R z (ZI R n q met op B) F))(q)(met op:Nat)(B F w)(h7:7<=n+1+q.d)(hq:q.d<=6)(hx:q.x<10^q.d)(hm:met<256)(L1:op<256)(h:Pe zb P w G M v0 v1 R z B F):
  j1 C 93 #[O (Z ⟨G,0,Y⟩),VY q,I .u64 met,I .u64 op] w (Ta zb P w G M v0 v1 R z (ZI R (n+1) q met op B) F):=by
 have M1:=o ih;have HS:=o h;have HO:=o ho;have N1:=o hR;have l1:=o hB;have HX:=o hx;have H7:=o h7;obtain⟨N,hN⟩:=ad R.length;have HN:=o hN;obtain⟨va,c,h0,_⟩:=h.gr.rl;rw[hN]at h0 K1
 have HQ:y9 (∀e w',Ta zb P w G M v0 v1 R z (ZI R (n+1) q met op B) F e w'↔Ta zb P w G M v0 v1 R z (ZI R (n+1) q met op B) F e w'):=fun _ _=>Iff.rfl
 generalize o0:Ta zb P w G M v0 v1 R z (ZI R (n+1) q met op B) F=y2 at*;have HP:=o o0;clear ih h ho hR hB hx h7 hN o0 HQ;obtain⟨u,A⟩:=q;unfold VY;simp only at hq;go_enter func93,ntmps93;obtain⟨C0,D0,O0⟩:=TL w (Q #[I V u,I V A] 181) (Q #[O Y,I V 0] 133);go_upto_region 1 with fail;generalize(w.alloc _).alloc _=W0 at*;obtain⟨b,hb⟩:=ad w.heap.size;have HB:=o hb;rw[hb]at D0 O0 ⊢;clear hb;have P0:=o (HS.o.keep C0.o);have g0:=(C0.o.cell (p:=⟨G,0,Y⟩) (bL w _ h0)).trans h0;have Q0:=o g0;clear h0;go_wp2
 go_loopg [2,9,19] N (fun m mv sv kv wr=>∃i t D,i<=N/\m=N-i/\kv=I V (i:Nat)/\mv=I .u64 (t:Nat)/\sv=I .u64 (D:Nat)/\t<256/\D<256/\y9 (pT W0 ⟨u,A⟩ op R met i t D wr))
 case atStart=>exact⟨0,met,0,b3 _,rfl,rfl,rfl,rfl,hm,az,⟨Zo,rfl⟩⟩
 obtain⟨i,t,D,hi,rfl,rfl,rfl,rfl,a0,j0,HF⟩:=hrel;by_cases R0:i<N
 ·have O1:=af i N;have m1:=(P0.o.keep HF.o.fr).gr;obtain⟨C2,c2,o1,r1⟩:=m1.rl;obtain⟨r,hr⟩:∃r,R[i]?=Z r:=⟨_,gE (aj HN.o)⟩;have t1:=o hr;obtain⟨g,ma,mc,ca,cc,pa,pc,eg,P1,f,Q1,R1,S1⟩:=r1 i r hr;have e1:=(HF.o.fr.cell (p:=⟨G,0,Y⟩) (bL W0 _ Q0.o)).trans Q0.o;rw[o1]at e1;injection e1 with e1;injection e1 with e1 _ e2;rw[eg]at e1;subst e1;have w1:=f 0 _ rfl;have T1:=f 1 _ rfl;have v2:=f 2 _ rfl;have v3:=f 3 _ rfl;have v4:=f 4 _ rfl;have v5:=f 5 _ rfl;have v6:=f 6 _ rfl;have v7:=f 7 _ rfl;have v8:=f 8 _ rfl;have v9:=f 9 _ rfl;have V1:=f 10 _ rfl;have X1:=f 11 _ rfl;have Y1:=f 12 _ rfl;have Z1:=f 13 _ rfl;rw[c8]at w1;clear f Q1 R1 S1 r1 m1 P1 o1 hr;have E0:=o (HF.o.fr.alloc (Kh r.name r.rank r.digits r.lo r.hi ma r.mcc.length mc r.am.isSome (r.am.getD (0,0)).1 (r.am.getD (0,0)).2 ca r.cur.length cc r.decline r.cheapest pa r.routes.length pc r.ahead));have S0:=(WM wr (Kh r.name r.rank r.digits r.lo r.hi ma r.mcc.length mc r.am.isSome (r.am.getD (0,0)).1 (r.am.getD (0,0)).2 ca r.cur.length cc r.decline r.cheapest pa r.routes.length pc r.ahead)).2;unfold Kh at E0 S0;go_upto_region 5 with fail;generalize wr.alloc _=W1 at*;generalize wr.heap.size=X at*;clear w1 T1 v2 v3 v4 v5 v6 v7 v8 v9 V1 X1 Y1 Z1
  have H:y9 (YH ⟨u,A⟩ op (i+1) (R.drop (i+1)) (T8 ⟨u,A⟩ op i r (t,D))=YH ⟨u,A⟩ op 0 R (met,0)):=by
   have e:=HF.o.eq;rw[Aa t1.o]at e;exact e
  have G0:i<8:=az
  have H0:y9 (∀W,j1 C 145 #[I .u64 op,I V i] W fun e w'=>e=z9 (y8 (op.testBit i))/\w'=W):=fun W=>Cr op i W L1 G0
  have A1:y9 (∀s W,s<256->j1 C 147 #[I .u64 (s:Nat),I V i] W fun e w'=>e=z9 (I .u64 (s|||1<<<i:Nat))/\w'=W):=fun s W hs=>yI s i W hs G0
  cases hb:op.testBit i with
  |false=>
   rw[hb]at H0
   have I0:y9 (T8 ⟨u,A⟩ op i r (t,D)=(t,D)):=by
    show _=_
    unfold T8;rw[hb];rfl
   rw[I0.o]at H;go_wp2_with fail;refine(H0.o _).mono ?_;rintro e w2 ⟨rfl,hw⟩;replace hw:=hw.symm;subst hw;go_wp2;go_roundg (N-(i+1))
   case measure=>omega
   exact⟨i+1,t,D,az,rfl,aE,rfl,rfl,a0,j0,⟨E0.o,H.o⟩⟩
  |true=>
   rw[hb]at H0;have J0:=l1.o r (mG t1.o)
   have r0:A<=1000000:=by
    have e:=HX.o;have:10^u<=10^6:=g6 az hq;omega
   have T0:=o (B5 r.name r.rank r.digits r.lo r.hi ma r.mcc.length mc r.am.isSome (r.am.getD (0,0)).1 (r.am.getD (0,0)).2 ca r.cur.length cc r.decline r.cheapest pa r.routes.length pc r.ahead ⟨u,A⟩ W1 J0.1.1 J0.2 J0.1.2 ⟨hq,r0⟩);unfold F3 VY at T0
   have B1:T8 ⟨u,A⟩ op i r (t,D)=if ZK ⟨u,A⟩ (YX r.digits r.lo r.hi)=2 then(t|||1<<<i,D)else if ZK ⟨u,A⟩ (YX r.digits r.lo r.hi)=1 then(t,D|||1<<<i)else(t,D):=by
    unfold T8;rw[hb];rfl
   rw[B1]at H;have l:=S0.o;have V0:=E0.o.whole D0.o;have x0:=Zc l 0;have x1:=Zc l 1;have x2:=Zc l 2;have x3:=Zc l 3;have x4:=Zc l 4;have x5:=Zc l 5;have x6:=Zc l 6;have x7:=Zc l 7;have x8:=Zc l 8;have x9:=Zc l 9;have b2:=Zc l 10;have d2:=Zc l 11;have f2:=Zc l 12;have g2:=Zc l 13;obtain⟨p0,p1⟩:=ap V0;clear l V0 B1 J0 r0;go_wp2_with fail;refine(H0.o _).mono ?_;rintro e w2 ⟨rfl,hw⟩;replace hw:=hw.symm;subst hw;go_wp2_with fail;refine T0.o.mono ?_;rintro e w3 ⟨rfl,e0⟩;have X0:=o (E0.o.trans (Fr.of_below e0));generalize ZK ⟨u,A⟩ (YX r.digits r.lo r.hi)=al at*;clear e0 x0 x1 x2 x3 x4 x5 x6 x7 x8 x9 b2 d2 f2 g2 p0 p1 T0;by_cases h2:al=2
   ·subst h2;rw[if_pos rfl]at H;go_wp2_with fail;refine(A1.o t _ a0).mono ?_;rintro e w2 ⟨rfl,hw⟩;replace hw:=hw.symm;subst hw;go_wp2;go_roundg (N-(i+1))
    case measure=>omega
    exact⟨i+1,_,D,az,rfl,aE,rfl,rfl,uY _ _ a0 G0,j0,⟨X0.o,H.o⟩⟩
   rw[if_neg h2]at H;have D2:¬(al:Int)=2:=az;by_cases h1:al=1
   ·subst h1;rw[if_pos rfl]at H;go_wp2_with fail;refine(A1.o D _ j0).mono ?_;rintro e w2 ⟨rfl,hw⟩;replace hw:=hw.symm;subst hw;go_wp2;go_roundg (N-(i+1))
    case measure=>omega
    exact⟨i+1,t,_,az,rfl,aE,rfl,rfl,a0,uY _ _ j0 G0,⟨X0.o,H.o⟩⟩
   rw[if_neg h1]at H;have E2:¬(al:Int)=1:=az;go_wp2;go_roundg (N-(i+1))
   case measure=>omega
   exact⟨i+1,t,D,az,rfl,aE,rfl,rfl,a0,j0,⟨X0.o,H.o⟩⟩
 have i2:i=N:=az;subst i2;have O1:=ai i i
 have Y0:y9 (YH ⟨u,A⟩ op 0 R (met,0)=(t,D)):=by
  have e:=HF.o.eq;rw[<-HN.o,yN]at e;exact e.symm
 have K0:=o (C0.o.trans HF.o.fr);have L0:=o (P0.o.keep HF.o.fr);have f0:=o (HF.o.fr.whole O0.o);have N0:=o (HF.o.fr.whole D0.o);clear O0 D0 P0 C0 Q0 HF;by_cases hz:D=0
 ·subst hz
  have j2:y9 (j1 C 148 #[O (Z ⟨G,0,Y⟩),I .u64 t] wr fun e w'=>e=z9 (I V (Vo B t:Nat))/\(∃J,Pe zb P w' G M v0 v1 R z (WE B t) J/\(J.ownBlock=F.ownBlock\/∀k,J.ownBlock=Z k->wr.heap.size<=k))/\Fr (fun k=>k=G\/k=M\/F.ownBlock=Z k) wr w'):=
   Is P wr G M v0 v1 R z B F t L0.o hM hG L0.o.few (aj HN.o) a0 HO.o N1.o
  go_wp2_with fail;refine j2.o.mono ?_;rintro e w5 ⟨rfl,⟨J,b0,c0⟩,Z0⟩
  have F2:P.heap.size<=b:=by rw[<-HB.o];exact HS.o.fr.size
  have C1:¬(b+1=G\/b+1=M\/F.ownBlock=Z (b+1)):=by
   rintro(e|e|e)
   ·omega
   ·omega
   obtain⟨xs,hp,_⟩:=HS.o.pg;have:=(hp.lt _ e).2;have:=HB.o;omega
  have l:=Z0.whole f0.o C1;have S0:=o l;obtain⟨y0,y1⟩:=ap l;have yf:=bF l
  have T:y9 (Ta zb P w G M v0 v1 R z (ZI R (n+1) ⟨u,A⟩ met op B) F (z9 (j9 #[O Y,I V (Vo B t:Nat)])) ((w5.setCell ⟨b+1,0,Y⟩ (O Y)).setCell ⟨b+1,1,Y⟩ (I V (Vo B t:Nat)))):=by
   have hS:Fr (fun k=>k=b+1) w5 ((w5.setCell ⟨b+1,0,Y⟩ (O Y)).setCell ⟨b+1,1,Y⟩ (I V (Vo B t:Nat))):=((Fr.refl (fun k=>k=b+1) w5).setCell (p:=⟨b+1,0,Y⟩) (z8 rfl) _).setCell (p:=⟨b+1,1,Y⟩) (z8 rfl) _
   have hT:ZI R (n+1) ⟨u,A⟩ met op B=(.leaf (Vo B t),WE B t):=by
    unfold ZI;rw[Y0.o,if_pos rfl]
   rw[hT];refine⟨⟨_,_,rfl,rfl⟩,⟨J,b0.wrote hS ?_,?_⟩,?_⟩
   ·rintro k rfl;exact⟨az,_,_,l,z8 rfl⟩
   ·rcases c0 with e|e
    ·exact z8 e
    exact E fun k hk=>q8 K0.o.size (e k hk)
   have f1:=(K0.o.mono).trans Z0;exact f1.monoNew hS (fun k hk=>E (aj HB.o))
  rw[HP.o]at T;clear b0 c0 Z0 l C1;go_wp2_with fail
  obtain⟨s0,s1⟩:((w5.setCell ⟨b+1,0,Y⟩ (O Y)).setCell ⟨b+1,1,Y⟩ (I V (Vo B t:Nat))).cell? ⟨b+1,0,Y⟩=Z (O Y)/\((w5.setCell ⟨b+1,0,Y⟩ (O Y)).setCell ⟨b+1,1,Y⟩ (I V (Vo B t:Nat))).cell? ⟨b+1,1,Y⟩=Z (I V (Vo B t:Nat)):=by
   constructor
   ·rw[cO _ _ _ _ aA];exact cS _ _ _ y0
   exact cS _ _ _ (by rw[cO _ _ _ _ aA];exact y1)
  refine bodyPost_ret (v:=j9 #[O Y,I V (Vo B t:Nat)]) (by simp[results,results93,go_sem,s0,s1]) rfl T.o
 have G2:¬(D:Int)=0:=az;have H2:u<6:=Sy (q:=⟨u,A⟩) (met:=met) (op:=op) (fun r hr=>(l1.o r hr).1) (by rw[Y0.o];exact hz);obtain⟨k0,M0,l0⟩:=TL wr (Q Gu 248) (Q #[O (Z ⟨wr.heap.size,0,Y⟩),I V 0] 133);unfold Gu at k0 M0 l0;go_upto_region 15 with fail;generalize(wr.alloc _).alloc _=W2 at*;obtain⟨K,b1⟩:=ad wr.heap.size;have I2:=o b1;rw[b1]at M0 l0 ⊢
 have J2:b+1<K:=by
  have:=(iA.1 f0.o).1;omega
 have L2:K+1<W2.heap.size:=(iA.1 l0.o).1
 have M2:P.heap.size<=b:=by rw[<-HB.o];exact HS.o.fr.size
 have U:y9 (∀k,b<=k->k≠K->¬(k=G\/k=M\/F.ownBlock=Z k\/k=K)):=by
  rintro k hk k2 (e|e|e|e)
  ·omega
  ·omega
  ·obtain⟨xs,hp,_⟩:=HS.o.pg;have:=(hp.lt _ e).2;have:=HB.o;omega
  exact k2 e
 have D1:=o (L0.o.keep k0.o);have i0:=o (k0.o.whole N0.o);have E1:=o (k0.o.whole f0.o);have F1:=o (K0.o.trans k0.o);have l2:y9 (rE zb P W2 G M K v0 v1 R z (fun d L=>ZI R n (Z6.longer ⟨u,A⟩ d) t D L) B F 0 W2):=⟨⟨F,D1.o,z8 rfl⟩,Zo,⟨_,M0.o,rfl,fun j hj=>az⟩⟩;clear b1 k0 M0 N0 f0 K0 L0 D1;go_wp2
 go_loopg [50] 10 (fun m kv wx=>∃d,d<=10/\m=10-d/\kv=I V (d:Nat)/\y9 (rE zb P W2 G M K v0 v1 R z (fun d L=>ZI R n (Z6.longer ⟨u,A⟩ d) t D L) B F d wx))
 case atStart=>exact⟨0,az,rfl,rfl,l2⟩
 obtain⟨d,hd,rfl,rfl,HK⟩:=hrel;by_cases R0:d<10
 ·have z2:(d:Int)<10:=az;have A2:(0:Int)<=(d:Int):=az;obtain⟨J,b0,c0⟩:=HK.o.gs;have G1:=o b0;have m2:=o c0;have q0:=bC (HK.o.fr.whole i0.o (U.o b az az)) 0 _ rfl;have q1:=bC (HK.o.fr.whole i0.o (U.o b az az)) 1 _ rfl;have q2:=bC (HK.o.fr.whole l0.o (U.o (K+1) az az)) 0 _ rfl;clear b0 c0;obtain⟨d0,t0⟩:=ae (u+1);obtain⟨A0,B0⟩:=ae (A*10+d)
  have H1:y9 (Z6.longer ⟨u,A⟩ d=⟨d0,A0⟩):=by
   show _=_
   unfold Z6.longer;rw[t0,B0]
  have c1:y9 (A0<10^d0/\7<=n+d0/\d0<=6):=by
   refine⟨?_,?_,az⟩
   ·have e:=HX.o;rw[t0,B0,b5];omega
   have e:=H7.o;omega
  have r0:A<=1000000:=by
   have e:=HX.o;have:10^u<=10^6:=g6 az hq;omega
  have n2:y9 (∀W,F0 wr W->j1 C 149 #[j9 #[I V u,I V A],I V d] W fun e w'=>e=z9 (j9 #[I V d0,I V A0])/\y9 (F0 wr w')):=by
   intro W hW;have e:=EE ⟨u,A⟩ d W hq r0 R0;refine e.mono ?_;rintro e w' ⟨rfl,e0⟩;rw[H1.o];exact⟨rfl,hW.trans (Fr.of_below e0)⟩
  have o2:y9 (∀W,F0 wr W->j1 C 93 #[O (Z ⟨G,0,Y⟩),j9 #[I V d0,I V A0],I .u64 t,I .u64 D] W (Ta zb P W G M v0 v1 R z (ZI R n (Z6.longer ⟨u,A⟩ d) t D (YI (fun d L=>ZI R n (Z6.longer ⟨u,A⟩ d) t D L) d B).2) J)):=by
   intro W hW;rw[H1.o];exact M1.o ⟨d0,A0⟩ t D _ J W c1.o.2.1 c1.o.2.2 c1.o.1 a0 j0 (G1.o.keep hW)
  have d1:y9 (∀W,Fr (fun k=>k=G\/k=M\/F.ownBlock=Z k\/k=K) W2 W->W.cell? ⟨b,0,Y⟩=Z (I V u)/\W.cell? ⟨b,1,Y⟩=Z (I V A)/\W.cell? ⟨K+1,0,Y⟩=Z (O (Z ⟨K,0,Y⟩))):=fun W hW=>
   ⟨bC (hW.whole i0.o (U.o b az az)) 0 _ rfl,bC (hW.whole i0.o (U.o b az az)) 1 _ rfl,bC (hW.whole l0.o (U.o (K+1) az az)) 0 _ rfl⟩
  clear t0 B0 r0;go_wp2;refine wp_region_held_drew (S:=fun W=>W.cell? ⟨b,0,Y⟩=Z (I V u)/\W.cell? ⟨b,1,Y⟩=Z (I V A)/\W.cell? ⟨K+1,0,Y⟩=Z (O (Z ⟨K,0,Y⟩))) aC ⟨q0,q1,q2⟩ (fun hH=>?_)
  iterate 6 (refine Yy 0 hH ?_;try go_frame)
  iterate 2 ((first|refine Yy 0 hH ?_|refine Yy 1 hH ?_);try go_frame)
  refine ZJ 10 hH ?_
  try go_frame
  refine WI 6 (fun K2 hK=>?_);go_simp;refine(n2.o _ Zo.drew).mono ?_;rintro e wy ⟨rfl,g1⟩;refine hK.out _ _ (d1.o _ (HK.o.fr.trans (g1.o.mono))) (fun hH=>?_);clear hK K2
  try go_frame
  refine WI 9 (fun K2 hK=>?_);go_simp;refine(o2.o _ g1.o).mono ?_;intro e w8 i1
  obtain⟨pp,kk,rfl⟩:∃(pp:Option Addr)(kk:Nat),e=z9 (j9 #[O pp,I V kk]):=by
   obtain⟨⟨a,bb,e1,ht⟩,_⟩:=i1;obtain⟨pp,kk,rfl,rfl⟩:=ht.form;exact⟨pp,kk,e1⟩
  obtain⟨I1,⟨u0,z0⟩,⟨u1,z1⟩,zf,J1⟩:=rE.step HK.o R0 az az G1.o m2.o g1.o i1;have I0:=o I1;have p2:=d1.o _ J1;have N2:=zf (d*2);have r2:=zf (d*2+1)
  have O2:(w8.setCell ⟨K,d*2,Y⟩ (O pp)).cell? ⟨K,d*2+1,Y⟩=Z u1:=by rw[cO _ _ _ _ aA];exact z1
  have B2:(w8.setCell ⟨K,d*2,Y⟩ (O pp)).frozen? ⟨K,d*2+1,Y⟩=false:=by simpa using r2
  clear I1 i1 J1 zf;refine hK.out _ _ p2 (fun hH=>?_);clear hK K2
  try go_frame
  refine ZJ 11 hH ?_
  try go_frame
  refine WI 12 (fun K2 hK=>?_);go_simp;refine hK.out _ _ (d1.o _ I0.o.fr) (fun _=>?_);clear hK K2
  try go_frame
  refine wpAnyH_done aC ?_ _;go_wp2;go_roundg (10-(d+1))
  case measure=>omega
  exact⟨d+1,az,rfl,aE,I0⟩
 have s2:d=10:=az;subst s2;have m0:=HK.o.fr.whole E1.o (U.o (b+1) az az);have k1:=HK.o.fr.whole l0.o (U.o (K+1) az az);obtain⟨y0,y1⟩:=ap m0;have P2:=bF m0;obtain⟨n0,n1⟩:=ap k1
 have T:y9 (Ta zb P w G M v0 v1 R z (ZI R (n+1) ⟨u,A⟩ met op B) F (z9 (j9 #[O (Z ⟨K,0,Y⟩),I V 0])) ((wr.setCell ⟨b+1,0,Y⟩ (O (Z ⟨K,0,Y⟩))).setCell ⟨b+1,1,Y⟩ (I V 0))):=by
  have hS:Fr (fun k=>k=b+1) wr ((wr.setCell ⟨b+1,0,Y⟩ (O (Z ⟨K,0,Y⟩))).setCell ⟨b+1,1,Y⟩ (I V 0)):=((Fr.refl (fun k=>k=b+1) wr).setCell (p:=⟨b+1,0,Y⟩) (z8 rfl) _).setCell (p:=⟨b+1,1,Y⟩) (z8 rfl) _
  have hT:ZI R (n+1) ⟨u,A⟩ met op B=(.node (YI (fun d L=>ZI R n (Z6.longer ⟨u,A⟩ d) t D L) 10 B).1,(YI (fun d L=>ZI R n (Z6.longer ⟨u,A⟩ d) t D L) 10 B).2):=by
   rw[ZI,Y0.o,if_neg hz]
  rw[hT];obtain⟨J,b0,c0⟩:=HK.o.gs;obtain⟨cs,hc,t2,hk⟩:=HK.o.ar;have R2:=HB.o;refine⟨⟨_,_,rfl,⟨K,cs,rfl,az,hS.whole hc az,t2,fun j hj=>?_⟩⟩,⟨J,b0.wrote hS ?_,?_⟩,?_⟩
  ·obtain⟨x,y,e1,e2,e3⟩:=hk j hj;exact⟨x,y,e1,e2,Xm.low az _ _ (e3.keep' hS (fun K' hl=>az))⟩
  ·rintro k rfl;exact⟨az,_,_,m0,z8 rfl⟩
  ·rcases c0 with e|e
   ·exact z8 e
   exact E fun k hk=>q8 F1.o.size (e k hk)
  have f1:Fr (fun k=>k=G\/k=M\/F.ownBlock=Z k) w wr:=by
   refine Fr.monoNew (S:=fun k=>k=G\/k=M\/F.ownBlock=Z k) (F1.o.mono) HK.o.fr ?_;rintro k (e|e|e|e)
   ·exact z8 (z8 e)
   ·exact z8 (E (z8 e))
   ·exact z8 (E (E e))
   exact E az
  exact f1.monoNew hS (fun k hk=>E az)
 rw[HP.o]at T;clear m0 k1;go_wp2_with fail
 obtain⟨s0,s1⟩:((wr.setCell ⟨b+1,0,Y⟩ (O (Z ⟨K,0,Y⟩))).setCell ⟨b+1,1,Y⟩ (I V 0)).cell? ⟨b+1,0,Y⟩=Z (O (Z ⟨K,0,Y⟩))/\((wr.setCell ⟨b+1,0,Y⟩ (O (Z ⟨K,0,Y⟩))).setCell ⟨b+1,1,Y⟩ (I V 0)).cell? ⟨b+1,1,Y⟩=Z (I V 0):=by
  constructor
  ·rw[cO _ _ _ _ aA];exact cS _ _ _ y0
  exact cS _ _ _ (by rw[cO _ _ _ _ aA];exact y1)
 refine bodyPost_ret (v:=j9 #[O (Z ⟨K,0,Y⟩),I V 0]) (by simp[results,results93,go_sem,s0,s1]) rfl T.o
def Gv {m:Nat}(c:j0)(G M:Nat)(g i:j7)(R:List Ze)(a:Nat->Nat)(o:M<c.heap.size)(p:G<c.heap.size)(e:R.length<=8)(s:∀k,k<R.length->a k<R.length)(t:∀r,r∈R->r.mcc.length<=4000/\r.cur.length<=4000)(u:∀r,r∈R->PF r/\r.lo<=1000000):
  ∀(n:Nat)(q:Z6)(b f:Nat)(j:List Nat)(l:j7)(w:j0),7<=n+q.d->q.d<=6->q.x<10^q.d->b<256->f<256->Pe m c w G M g i R a j l->j1 C 93 #[O (Z ⟨G,0,Y⟩),VY q,I .u64 b,I .u64 f] w (Ta m c w G M g i R a (ZI R n q b f j) l)
 |0,_,_,_,_,_,_,h7,hq,_,_,_,_=>z
 |n+1,q,b,f,j,l,w,h7,hq,hx,hm,hop,h=>Ab c G M g i R a o p e s t u n (Gv c G M g i R a o p e s t u n) q b f j l w h7 hq hx hm hop h
structure qF (w:j0)(va:Option Addr)(n c:Nat)(ord:Nat->Nat)(G M:Nat)(oa:Option Addr)(oc:Nat)(w1:j0):Prop where
 fr:F0 w w1
 bx:w1.heap[G]?=Z (Q #[U va n c,U oa n oc,U Y 0 0,.map (Z M)] 178)
 mp:w1.heap[M]?=Z (.map #[] 0)
 od:∀k,k<n->∃og,oa=Z ⟨og,0,Y⟩/\og<w1.heap.size/\og≠G/\og≠M/\w1.cell? ⟨og,k,Y⟩=Z (I V (ord k))
 lo:w.heap.size<=G/\w.heap.size<=M
def qF.start {e w wc wr s c j G M E F R}(h:qF w s R.length c j G M E F wc)(l:F0 wc wr)(P:e<=w.heap.size)(I:∀i r,R[i]?=Z r->∃g t u x y z A,s=Z ⟨g,0,Y⟩/\g<w.heap.size/\
   (∀o v,[j5 r.name,.int .i64 r.rank,.int .i64 r.digits,.int .i64 r.lo,.int .i64 r.hi,.slice t r.mcc.length u,.bool r.am.isSome,.int .i64 (r.am.getD (0,0)).1,.int .i64 (r.am.getD (0,0)).2,.slice x r.cur.length y,.bool r.decline,.bool r.cheapest,.slice z r.routes.length A,.int .i64 r.ahead][o]?=Z v->w.cell? ⟨g,i*14+o,Y⟩=Z v)/\
   w.ownsRow e 3 1 (.slice t r.mcc.length u) r.mcc.length (Zg r.mcc)/\w.ownsRow e 3 1 (.slice x r.cur.length y) r.cur.length (Zg r.cur)/\w.ownsRow e 3 1 (.slice z r.routes.length A) r.routes.length (Zg r.routes)):
  Pe e wr wr G M (.slice s R.length c) (.slice E R.length F) R j [] (.slice Y 0 0)/\G<wr.heap.size/\M<wr.heap.size:=by
 have f:=h.fr.trans l;have Q:=h.lo;have n:=l.whole h.bx;have q:=l.whole h.mp;refine⟨⟨⟨q8 P f.size,⟨s,c,rfl,fun i r S=>?_⟩,⟨E,F,rfl,fun k b=>?_⟩⟩,Zo,n,⟨.map [],?_,⟨isMap_empty,fun m _=>⟨by simp[Maps.has_eq],aA⟩⟩⟩,⟨[],World.ownsRow_nil _ _ _ _,aA⟩,aA,aA⟩,(Array.getElem?_eq_some_iff.1 n).1,(Array.getElem?_eq_some_iff.1 q).1⟩
 ·obtain⟨g,t,u,x,y,z,A,J,d,L,K,B,N⟩:=I i r S
  have a:∀k,k<w.heap.size->¬(k=G\/k=M):=fun k b=>az
  exact⟨g,t,u,x,y,z,A,J,nL d f.size,a g d,fun o v T=>(f.cell (p:=⟨g,i*14+o,Y⟩) d).trans (L o v T),⟨oF K f,fun k b=>a k (K.lt k b).2⟩,⟨oF B f,fun k b=>a k (B.lt k b).2⟩,⟨oF N f,fun k b=>a k (N.lt k b).2⟩⟩
 ·obtain⟨O,J,d,L,K,B⟩:=h.od k b;exact⟨O,J,nL d l.size,az,(l.cell (p:=⟨O,k,Y⟩) d).trans B⟩
 obtain⟨es,ck,D,U,V,W⟩:=World.ownsMap_made (H:=Unit) wr C 183 (plainElem C 3);rw[aN]at D;injection D with D;injection D with X a2;subst X a2;exact⟨#[],0,q,U,V,W⟩
structure Wl (zb:Nat)(w:j0)(T:Nat)(vr:j7)(R:List Ze)(ord:Nat->Nat):Prop where
 tz:zb<=T
 bx:∃vn vp a b,w.heap[T]?=Z (Q #[vr,vn,vp,a,b] 135)/\w.ownsRow zb 9 1 vn R.length ((R.map Ze.name).map j5)/\(∃xs,w.ownsRow zb 129 1 vp (ZI R 7 ⟨0,0⟩ 0 (2^R.length-1) []).2.length xs/\∀(j m:Nat),(ZI R 7 ⟨0,0⟩ 0 (2^R.length-1) []).2[j]?=Z m->∃vj,xs[j]?=Z vj/\Z4 zb w zb vj (ZL R m (Wk R.length ord)))/\Xm w zb (ZI R 7 ⟨0,0⟩ 0 (2^R.length-1) []).1 (j9 #[a,b])
def RQ {b w c S a v l}(h:Z4 b w a v l)(f:b<=a)(d:Fr S w c)(e:∀k,S k->k<b):Z4 b c a v l:=by
 obtain⟨g,i,j⟩:=h;exact⟨g,oF i d (fun k m=>nL (e k m) f),j.keep (fun v n p o=>oF o d e)⟩
def Wl.fr {g w w' S T i R c}(h:Wl g w T i R c)(d:Fr S w w')(f:∀k,S k->k<g:=by simp):Wl g w' T i R c:=by
 have l:=h.tz;obtain⟨n,o,a,b,p,q,⟨r,s,t⟩,u⟩:=h.bx;refine⟨l,n,o,a,b,d.whole p (fun e=>aj (f T e)),oF q d f,⟨r,oF s d f,fun j m v=>?_⟩,u.keep' d (fun K A e=>aj (f K e))⟩;obtain⟨x,y,z⟩:=t j m v;exact⟨x,y,RQ z (j2 _) d f⟩
def yO {g w wc wr a T G M u J L N x h R b l i}{o:Nat}(hz:g<=w.heap.size)(q:F0 w wc)(hT:wc.heap.size=T)(hG:w.heap.size<=G)(hM:w.heap.size<=M)(X:R.map Ze.name=l)(y:F0 wc wr)(P:wr.heap[T]?=Z (Q #[J,x,U Y 0 0,O Y,I V 0] 135))(z:wr.ownsRow (T+1) 9 1 x l.length (l.map j5))(S:Pe g wr wr G M L N R b [] u)(c:u.ownBlock=Y)(A:T≠G)(B:T≠M)(ht:Xm a wr.heap.size (ZI R 7 ⟨0,0⟩ 0 (2^R.length-1) []).1 (j9 #[O i,I V o]))(hg:Pe g wr a G M L N R b (ZI R 7 ⟨0,0⟩ 0 (2^R.length-1) []).2 h)(d:Fr (fun k=>k=G\/k=M\/u.ownBlock=Z k) wr a):
  w.heap.size<=T/\Wl g (((a.setCell ⟨T,3,Y⟩ (O i)).setCell ⟨T,4,Y⟩ (I V o)).setCell ⟨T,2,Y⟩ h) T J R b/\F0 w (((a.setCell ⟨T,3,Y⟩ (O i)).setCell ⟨T,4,Y⟩ (I V o)).setCell ⟨T,2,Y⟩ h):=by
 have a0:T<wr.heap.size:=(iA.1 P).1;have C:w.heap.size<=T:=aj q.size;have r:=d.whole P (by rintro(e|e|e)<;>first|exact A e|exact B e|(rw[c]at e;cases e));have t:Fr (fun k=>k=T) a (((a.setCell ⟨T,3,Y⟩ (O i)).setCell ⟨T,4,Y⟩ (I V o)).setCell ⟨T,2,Y⟩ h):=(((Fr.refl (fun k=>k=T) a).setCell (p:=⟨T,3,Y⟩) (z8 rfl) _).setCell (p:=⟨T,4,Y⟩) (z8 rfl) _).setCell (p:=⟨T,2,Y⟩) (z8 rfl) _;have e1:=heap_setCell_same a T 3 _ _ (O i) r;have e2:=heap_setCell_same _ T 4 _ _ (I V o) e1;have e3:=heap_setCell_same _ T 2 _ _ h e2;obtain⟨D,⟨es,ck,hm,_⟩,_⟩:=S.mp;obtain⟨xs,F,H⟩:=hg.pg;refine⟨C,⟨az,x,h,O i,I V o,?_,?_,⟨xs,?_,fun j m hj=>?_⟩,?_⟩,?_⟩
 ·simpa using e3
 ·have n8:=oA z d (by
   rintro k f (e|e|e)
   ·subst e;exact oN z S.bx aB f
   ·subst e;exact MT z hm f
   rw[c]at e
   cases e)
  have W:=oS (base:=T+1) (oF n8 t (fun k f=>az)) (show g<=T+1 by omega);rw[<-X,r8]at W;exact W
 ·exact oS (base:=wr.heap.size) (oF F t (fun k f=>az)) az
 ·obtain⟨vj,a1,a2⟩:=H j m hj;refine⟨vj,a1,SA a2 t ?_⟩;rintro e s v n ys he hr k f rfl;exact oN hr r (by rcases he with rfl|rfl<;>decide) f
 ·exact Xm.low (show g<=wr.heap.size by omega) _ _ (ht.keep' t (fun K hK=>az))
 exact(((q.trans y).monoNew d (by
  rintro k (e|e|e)
  ·exact E az
  ·exact E az
  rw[c]at e
  cases e))).monoNew t (fun k f=>E az)
def Qn:(C.info? 9).map (fun i=>(i.zero,i.size,i.bytes))=Z (Z (k6 k5),1,16):=n
def Zu (R:List Ze)(i:Nat):Nat:=(R[i]?.map Ze.rank).getD 0
structure rK (wc:j0)(T:Nat)(vr:j7)(l:List ByteArray)(vn:j7)(wx:j0):Prop where
 fr:F0 wc wx
 bx:wx.heap[T]?=Z (Q #[vr,vn,U Y 0 0,O Y,I V 0] 135)
 nm:wx.ownsRow (T+1) 9 1 vn l.length (l.map j5)
def rK.more {wc q wr t c T x l r s g b y}(h:rK wc T x l (U r l.length s) q)(A:wc.heap.size<=T)(u:F0 q wr)(w:F0 wr t)(i:c.ownsRow (T+1) 9 1 (U (Z ⟨g,0,Y⟩) (l.length+1) b) (l.length+1) (l.map j5++[k6 y]))(a:t.grownBy c (j4 r l.length s).ownBlock):
  rK wc T x (l++[y]) (U (Z ⟨g,0,Y⟩) (l.length+1) b) (c.setCell ⟨T,1,Y⟩ (U (Z ⟨g,0,Y⟩) (l.length+1) b))/\c.cell? ⟨T,1,Y⟩=Z (U r l.length s)/\c.frozen? ⟨T,1,Y⟩=false/\(∀X o v,X<wr.heap.size->q.heap.size<=X->wr.cell? ⟨X,o,Y⟩=Z v->c.cell? ⟨X,o,Y⟩=Z v):=by
 have j:=u.trans w
 have d:∀k,(j4 r l.length s).ownBlock=Z k->T+1<=k/\k<q.heap.size:=fun k m=>h.nm.lt k m
 have n:=(Fr.refl _ t).grown a (fun k m=>z8 m);have f:=n.whole (j.whole h.bx) (fun e=>aj (d T e));refine⟨⟨?_,?_,?_⟩,Zc f 1,bF f 1,fun X o v z B C=>?_⟩
 ·exact((h.fr.trans j).grown a (fun k m=>E (aj (d k m)))).setCell (p:=⟨T,1,Y⟩) (E A) _
 ·have e:=heap_setCell_same c T 1 _ _ (U (Z ⟨g,0,Y⟩) (l.length+1) b) f
  simpa using e
 ·rw[lA,b2];exact oB i aA _
 exact(n.cell (p:=⟨X,o,Y⟩) (nL z w.size) (fun e=>aj (d X e))).trans ((w.cell (p:=⟨X,o,Y⟩) z).trans C)
def yP (i)(h:i<=8):c5.wrap (c5.wrap (2^i)-1)=((2^i-1:Nat):Int):=by
 have:i=0\/i=1\/i=2\/i=3\/i=4\/i=5\/i=6\/i=7\/i=8:=z
 rcases this with rfl|rfl|rfl|rfl|rfl|rfl|rfl|rfl|rfl<;>decide
def yQ {zb}(w Bk ra rn rc B n c R)(hN:R.length=n)(hn:n<=8)(n0:∀k,k<n->Zz (Zu R) n k<n)(M0:∀r,r∈R->r.mcc.length<=4000/\r.cur.length<=4000)(o0:∀r,r∈R->PF r/\r.lo<=1000000)(hz:zb<=w.heap.size)(p0:w.cell? ⟨Bk,0,Y⟩=Z (U ra rn rc))(F:w.cell? ⟨Bk,1,Y⟩=Z (U B n c))(q0:∀i r,R[i]?=Z r->∃g N P ca cc pa pc,B=Z ⟨g,0,Y⟩/\g<w.heap.size/\
   (∀o v,[j5 r.name,I V r.rank,I V r.digits,I V r.lo,I V r.hi,U N r.mcc.length P,y8 r.am.isSome,I V (r.am.getD (0,0)).1,I V (r.am.getD (0,0)).2,U ca r.cur.length cc,y8 r.decline,y8 r.cheapest,U pa r.routes.length pc,I V r.ahead][o]?=Z v->w.cell? ⟨g,i*14+o,Y⟩=Z v)/\
   w.ownsRow zb 3 1 (U N r.mcc.length P) r.mcc.length (Zg r.mcc)/\w.ownsRow zb 3 1 (U ca r.cur.length cc) r.cur.length (Zg r.cur)/\w.ownsRow zb 3 1 (U pa r.routes.length pc) r.routes.length (Zg r.routes)):
  j1 C 51 #[O (Z ⟨Bk,0,Y⟩)] w fun e w'=>(∃T,e=z9 (O (Z ⟨T,0,Y⟩))/\w.heap.size<=T/\Wl zb w' T (U ra rn rc) R (Zz (Zu R) n))/\F0 w w':=by
 have r0:y9 (∀i r,R[i]?=Z r->∃g N P ca cc pa pc,B=Z ⟨g,0,Y⟩/\g<w.heap.size/\
   (∀o v,[j5 r.name,I V r.rank,I V r.digits,I V r.lo,I V r.hi,U N r.mcc.length P,y8 r.am.isSome,I V (r.am.getD (0,0)).1,I V (r.am.getD (0,0)).2,U ca r.cur.length cc,y8 r.decline,y8 r.cheapest,U pa r.routes.length pc,I V r.ahead][o]?=Z v->w.cell? ⟨g,i*14+o,Y⟩=Z v)/\
   w.ownsRow zb 3 1 (U N r.mcc.length P) r.mcc.length (Zg r.mcc)/\w.ownsRow zb 3 1 (U ca r.cur.length cc) r.cur.length (Zg r.cur)/\w.ownsRow zb 3 1 (U pa r.routes.length pc) r.routes.length (Zg r.routes)):=q0
 have HN:=Za hN;obtain⟨rk,h0⟩:∃rk:Nat->Nat,rk=Zu R:=⟨_,rfl⟩;have N0:=Za h0;rw[<-h0]at n0
 have hr:∀i,i<n->∃g,B=Z ⟨g,0,Y⟩/\g<w.heap.size/\w.cell? ⟨g,i*14+1,Y⟩=Z (I V (rk i)):=by
  intro i hi;have e:R[i]?=Z R[i]:=gE az;obtain⟨g,N,P,ca,cc,pa,pc,d,e2,e3,_⟩:=q0 i _ e;refine⟨g,d,e2,?_⟩;rw[h0,Zu,e];exact e3 1 _ rfl
 have s0:y9 (∀W,F0 w W->j1 C 92 #[U B n c] W fun e w'=>(∃E H,e=z9 (U E n H)/\y9 (Cv w' W.heap.size E n (Zz rk n)))/\y9 (F0 W w')):=by
  intro W hW;refine EI W B n c rk hn (fun i hi=>?_);obtain⟨g,d,e2,e3⟩:=hr i hi;exact⟨g,d,nL e2 hW.size,(hW.cell (p:=⟨g,i*14+1,Y⟩) e2).trans e3⟩
 have a1:=@run_makeMap C;obtain⟨ii,t0,v0,w0,y0⟩:=info_parts Qn;have HZ:=Za hz;go_enter func51,ntmps51;go_upto_region 1 with fail
 go_cut [3] (fun v w1=>∃G M E H,v=O (Z ⟨G,0,Y⟩)/\y9 (qF w B n c (Zz rk n) G M E H w1))
 case first=>
  refine wp_region_held_drew (S:=fun W=>W.cell? ⟨Bk,1,Y⟩=Z (U B n c)) aC F (fun h=>?_)
  have u:y9 (∀W,F0 w W->W.cell? ⟨Bk,1,Y⟩=Z (U B n c)):=fun W hW=>(hW.cell (p:=⟨Bk,1,Y⟩) (bL w _ F)).trans F
  iterate 8 (refine Yy 0 h ?_;try go_frame)
  refine XA [8,9] ?_;refine Zb rfl (fun x f=>?_) ?_
  ·go_simp;refine(s0.o _ Zo.drew).mono ?_;rintro e y ⟨⟨E,H,rfl,i0⟩,a0⟩;have j:=Za ((Zo.drew).trans a0.o);refine f.out _ _ (u.o _ j.o) (fun h=>?_)
   try go_frame
   refine WI 9 (fun x f=>?_);go_simp;refine f.out _ _ (u.o _ (j.o.alloc _)) (fun h=>?_)
   try go_frame
   refine ZJ 10 h ?_
   try go_frame
   refine WI 11 (fun x f=>?_);go_simp;refine f.out _ _ (u.o _ ((j.o.alloc _).alloc _)) (fun h=>?_)
   try go_frame
   refine ZJ 12 h ?_
   try go_frame
   refine wpAnyH_done aC ?_ _;go_wp2;go_meet;refine⟨y.heap.size+1,y.heap.size,E,H,aA,⟨(j.o.alloc _).alloc _,?_,?_,fun k hk=>?_,?_⟩⟩
   ·have e:=aN (y.alloc (.map #[] 0)) (Q #[U B n c,U E n H,U Y 0 0,.map (Z y.heap.size)] 178);rw[show(y.alloc (.map #[] 0)).heap.size=y.heap.size+1 from aA]at e;exact e
   ·exact((Fr.refl (fun _=>False) _).alloc _).whole (aN y _)
   ·obtain⟨og,d,e2,e3,e4⟩:=i0.o az;refine⟨og,d,aF,az,az,?_⟩;exact((((Fr.refl (fun _=>False) y).alloc _).alloc _).cell (p:=⟨og,k,Y⟩) e3 aA).trans (e4.1 k hk)
   have:=j.o.size;omega
  refine Zb rfl (fun x f=>?_) k8
  try rw[if_pos aD]
  go_simp;refine f.out _ _ (u.o _ ((Zo.drew).alloc _)) (fun h=>?_)
  try go_frame
  refine WI 8 (fun x f=>?_);go_simp;refine(s0.o _ ((Zo.drew).alloc _)).mono ?_;rintro e y ⟨⟨E,H,rfl,i0⟩,a0⟩;have j:=Za ((((Fr.refl (fun _=>False) w).drew).alloc (.map #[] 0)).trans a0.o);refine f.out _ _ (u.o _ j.o) (fun h=>?_)
  try go_frame
  refine ZJ 10 h ?_
  try go_frame
  refine WI 11 (fun x f=>?_);go_simp;refine f.out _ _ (u.o _ (j.o.alloc _)) (fun h=>?_)
  try go_frame
  refine ZJ 12 h ?_
  try go_frame
  refine wpAnyH_done aC ?_ _;go_wp2;go_meet;have z0:y.heap[w.heap.size]?=Z (.map #[] 0):=a0.o.whole (aN w.drew (.map #[] 0));have c1:=(iA.1 z0).1;refine⟨y.heap.size,w.heap.size,E,H,rfl,⟨j.o.alloc _,aN y _,((Fr.refl (fun _=>False) _).alloc _).whole z0,fun k hk=>?_,?_⟩⟩
  ·obtain⟨og,d,e2,e3,e4⟩:=i0.o az
   have e5:w.heap.size+1<=og:=by simpa using e2
   refine⟨og,d,aF,az,az,?_⟩;exact(((Fr.refl (fun _=>False) y).alloc _).cell (p:=⟨og,k,Y⟩) e3).trans (e4.1 k hk)
  omega
 obtain⟨G,M,E,H,rfl,q⟩:=hcut;have b0:=(q.o.fr.cell (p:=⟨Bk,0,Y⟩) (bL w _ p0)).trans p0;have b1:=(q.o.fr.cell (p:=⟨Bk,1,Y⟩) (bL w _ F)).trans F;have j0:y9 (rK wc wc.heap.size _ [] _ (wc.alloc (Q #[U ra rn rc,U Y 0 0,U Y 0 0,O Y,I V 0] 135))):=⟨Zo.alloc _,aN wc _,oZ _ _ _ _⟩;go_upto_region 3 with fail;generalize wc.alloc _=W1 at*;obtain⟨T,hT⟩:=ad wc.heap.size;have HT:=Za hT;rw[hT]at j0 ⊢;have d1:=(j0.o.fr.cell (p:=⟨Bk,1,Y⟩) (bL wc _ b1)).trans b1;have A0:=Za b1;go_wp2
 go_loopg [30] n (fun m kv wx=>∃i vn,i<=n/\m=n-i/\kv=I V (i:Nat)/\y9 (rK wc T (U ra rn rc) ((R.take i).map Ze.name) vn wx))
 case atStart=>exact⟨0,_,b3 _,rfl,rfl,j0⟩
 obtain⟨i,vn,hi,rfl,rfl,t⟩:=hrel;by_cases f1:i<n
 ·have O0:=af i n;obtain⟨r,hr⟩:∃r,R[i]?=Z r:=⟨_,gE (aj HN.o)⟩;have B0:=Za hr;obtain⟨g,N,P,ca,cc,pa,pc,eg,P0,c0,_⟩:=r0.o i r hr;subst eg
  have b:∀o v,[j5 r.name,I V r.rank,I V r.digits,I V r.lo,I V r.hi,U N r.mcc.length P,y8 r.am.isSome,I V (r.am.getD (0,0)).1,I V (r.am.getD (0,0)).2,U ca r.cur.length cc,y8 r.decline,y8 r.cheapest,U pa r.routes.length pc,I V r.ahead][o]?=Z v->wr.cell? ⟨g,i*14+o,Y⟩=Z v:=fun o v ho=>((q.o.fr.trans t.o.fr).cell (p:=⟨g,i*14+o,Y⟩) P0).trans (c0 o v ho)
  have Q0:=b 0 _ rfl;have g1:=b 1 _ rfl;have v2:=b 2 _ rfl;have v3:=b 3 _ rfl;have v4:=b 4 _ rfl;have v5:=b 5 _ rfl;have v6:=b 6 _ rfl;have v7:=b 7 _ rfl;have v8:=b 8 _ rfl;have v9:=b 9 _ rfl;have h1:=b 10 _ rfl;have i1:=b 11 _ rfl;have k1:=b 12 _ rfl;have l1:=b 13 _ rfl;rw[c8]at Q0;obtain⟨z,d0⟩:=WM wr (Kh r.name r.rank r.digits r.lo r.hi N r.mcc.length P r.am.isSome (r.am.getD (0,0)).1 (r.am.getD (0,0)).2 ca r.cur.length cc r.decline r.cheapest pa r.routes.length pc r.ahead);unfold Kh at z d0;go_upto_region 6 with fail;generalize wr.alloc _=J at*;obtain⟨X,hX⟩:=ad wr.heap.size;have HX:=Za hX;rw[hX]at d0 ⊢;obtain⟨l,hl⟩:=ad ((R.take i).map Ze.name);have HL:=Za hl
  have m1:l.length<=8:=by rw[<-hl,r8,j8];omega
  rw[hl]at t;obtain⟨la,lc,e3⟩:=oL t.o.nm;subst e3;have x0:=Zc d0.o 0;have e0:=(iA.1 d0.o).1;have t1:=bC (z.o.whole t.o.bx) 1 _ rfl;have C0:=Za (oF t.o.nm z.o);have n1:T+1<=J.heap.size:=aj (iA.1 (z.o.whole t.o.bx)).1;refine wp_region_held_drew (S:=fun W=>W.cell? ⟨X,0,Y⟩=Z (k6 r.name)) aC x0 (fun h=>?_)
  iterate 4 (refine Yy 0 h ?_;try go_frame)
  iterate 2 ((first|refine Yy 0 h ?_|refine Yy 1 h ?_);try go_frame)
  refine XA [4,7] ?_;refine Zb rfl (fun x f=>?_) ?_
  ·try rw[if_pos aD]
   go_simp;refine f.out _ _ h (fun _=>?_)
   try go_frame
   refine XA [7] ?_;refine Zb rfl (fun x f=>?_) k8
   try rw[if_pos aD]
   go_simp;refine f.out _ _ ((((Fr.refl (fun _=>False) J).alloc _).cell (p:=⟨X,0,Y⟩) e0).trans x0) (fun h=>?_)
   try go_frame
   refine XA [8] ?_;refine Zb rfl (fun x f=>?_) k8;refine step_append_lies _ rfl (.tmp 38) (.tmp 41) 28 rfl (T+1) 9 ii _ 1 16 underlying28 t0 v0 w0 y0 rfl aB (U la l.length lc) l.length (l.map j5) rfl ?h1C ⟨J.heap.size,0,Y⟩ 1 1 [k6 r.name] rfl rfl ?h2C ?h3C aB ?h4C ?h5C ?h6C _ rfl ?_
   case h1C=>exact(C0.o.alloc _).drew
   case h2C=>exact j6 (aN J _)
   case h3C=>simp[k7]
   case h4C=>unfold maxLen;omega
   case h5C=>omega
   case h6C=>simp;omega
   intro g2 K w8 L s R0 _;obtain⟨k0,d2,df,l0⟩:=t.o.more (g9 HT.o) z.o (((Fr.refl (fun _=>False) J).alloc _).drew) L s;have m0:=Za k0;have x8:=l0 X 0 _ e0 (g9 HX.o) x0;refine f.out _ _ x8 (fun h=>?_)
   try go_frame
   iterate 2 (refine Yy 0 h ?_;try go_frame)
   refine WI 11 (fun x f=>?_);go_simp;refine f.out _ _ ?_ (fun _=>?_)
   ·rw[cO _ _ _ _ (by intro e;injection e with d e2;omega)];exact x8
   try go_frame
   refine wpAnyH_done aC ?_ _;go_wp2;go_roundg (n-(i+1))
   case measure=>omega
   refine⟨i+1,U (Z ⟨g2,0,Y⟩) (l.length+1) K,az,rfl,aE,?_⟩
   have e:(R.take (i+1)).map Ze.name=l++[r.name]:=by rw[b4,B0.o,b2,HL.o];rfl
   rw[e];exact m0
  refine Zb rfl (fun x f=>?_) k8
  try rw[if_pos aD]
  go_simp;refine f.out _ _ ((((Fr.refl (fun _=>False) J).alloc _).cell (p:=⟨X,0,Y⟩) e0).trans x0) (fun h=>?_)
  try go_frame
  refine XA [4] ?_;refine Zb rfl (fun x f=>?_) k8
  try rw[if_pos aD]
  have o1:(J.alloc (Q #[k6 r.name] 9)).cell? ⟨T,1,Y⟩=Z (U la l.length lc):=by rw[World.cell?_alloc_lt _ _ _ (bL J _ t1)];exact t1
  go_simp;refine f.out _ _ h (fun _=>?_)
  try go_frame
  refine XA [8] ?_;refine Zb rfl (fun x f=>?_) k8;refine step_append_lies _ rfl (.tmp 38) (.tmp 41) 28 rfl (T+1) 9 ii _ 1 16 underlying28 t0 v0 w0 y0 rfl aB (U la l.length lc) l.length (l.map j5) rfl ?h1D ⟨J.heap.size,0,Y⟩ 1 1 [k6 r.name] rfl rfl ?h2D ?h3D aB ?h4D ?h5D ?h6D _ rfl ?_
  case h1D=>exact(C0.o.alloc _).drew
  case h2D=>exact j6 (aN J _)
  case h3D=>simp[k7]
  case h4D=>unfold maxLen;omega
  case h5D=>omega
  case h6D=>simp;omega
  intro g2 K w8 L s R0 _;obtain⟨k0,d2,df,l0⟩:=t.o.more (g9 HT.o) z.o (((Fr.refl (fun _=>False) J).alloc _).drew) L s;have m0:=Za k0;have x8:=l0 X 0 _ e0 (g9 HX.o) x0;refine f.out _ _ x8 (fun h=>?_)
  try go_frame
  iterate 2 (refine Yy 0 h ?_;try go_frame)
  refine WI 11 (fun x f=>?_);go_simp;refine f.out _ _ ?_ (fun _=>?_)
  ·rw[cO _ _ _ _ (by intro e;injection e with d e2;omega)];exact x8
  try go_frame
  refine wpAnyH_done aC ?_ _;go_wp2;go_roundg (n-(i+1))
  case measure=>omega
  refine⟨i+1,U (Z ⟨g2,0,Y⟩) (l.length+1) K,az,rfl,aE,?_⟩
  have e:(R.take (i+1)).map Ze.name=l++[r.name]:=by rw[b4,B0.o,b2,HL.o];rfl
  rw[e];exact m0
 have S0:i=n:=az;subst S0;have O0:=ai i i;have T0:=Za ((t.o.fr.cell (p:=⟨Bk,1,Y⟩) (bL wc _ A0.o)).trans A0.o);have p1:=T0.o;have q1:=yP i hn
 have D0:2^i-1<256:=by
  have:2^i<=2^8:=g6 az hn;omega
 have A:y9 (Pe zb wr wr G M (U B i c) (U E i H) R (Zz rk i) [] (U Y 0 0)/\G<wr.heap.size/\M<wr.heap.size):=by
  have e:=HN.o;subst e;exact q.o.start t.o.fr HZ.o r0.o
 have V0:y9 (j1 C 93 #[O (Z ⟨G,0,Y⟩),j9 #[I V 0,I V 0],I .u64 0,I .u64 ((2^i-1:Nat):Int)] wr (Ta zb wr wr G M (U B i c) (U E i H) R (Zz rk i) (ZI R 7 ⟨0,0⟩ 0 (2^i-1) []) (U Y 0 0))):=by
  have e:=HN.o;exact Gv wr G M _ _ R (Zz rk i) A.o.2.2 A.o.2.1 az (by rw[e];exact n0) M0 o0 7 ⟨0,0⟩ 0 (2^i-1) [] (U Y 0 0) wr aA aA aA az D0 A.o.1
 go_wp2_with fail;refine V0.o.mono ?_;intro e w8 f0
 obtain⟨pp,kk,rfl⟩:∃(pp:Option Addr)(kk:Nat),e=z9 (j9 #[O pp,I V kk]):=by
  obtain⟨⟨a,bb,d,ht⟩,_⟩:=f0;obtain⟨pp,kk,rfl,rfl⟩:=ht.form;exact⟨pp,kk,d⟩
 have W0:=Za f0
 have g0:T≠G:=by
  rintro rfl;have d:=A.o.1.bx;rw[t.o.bx]at d;injection d with d;injection d with _ d _;exact absurd d aB
 have E0:T≠M:=by
  rintro rfl;obtain⟨D,⟨es,ck,d,_⟩,_⟩:=A.o.1.mp;rw[t.o.bx]at d
  cases d
 have bT:=f0.2.2.whole t.o.bx (by rintro(e|e|e)<;>first|exact g0 e|exact E0 e|simp[b6]at e);obtain⟨G0,H0,_⟩:=f0.2.1;obtain⟨s1,X0,_⟩:=H0.pg;obtain⟨I0,J0,e8⟩:=oL X0;subst e8;have c2:=Zc H0.bx 2;have z2:=Zc bT 2;have z3:=Zc bT 3;have z4:=Zc bT 4;have v1:=bF bT;have z1:=Za bT
 have A1:((w8.setCell ⟨T,3,Y⟩ (O pp)).setCell ⟨T,4,Y⟩ (I V kk)).cell? ⟨G,2,Y⟩=Z (U I0 (ZI R 7 ⟨0,0⟩ 0 (2^i-1) []).2.length J0):=by
  rw[cO _ _ _ _ (by intro e;injection e with d;exact g0 d),cO _ _ _ _ (by intro e;injection e with d;exact g0 d)];exact c2
 go_wp2;go_ret;have K0:=HN.o;subst K0;have hm:=t.o;rw[List.take_length]at hm;obtain⟨⟨a,bb,d,ht⟩,⟨G0,L0,_⟩,Y0⟩:=W0.o;injection d with d;injection d with d
 obtain⟨ea,eb⟩:Value.pointer pp=a/\Value.int V kk=bb:=by simpa using d
 subst ea eb
 have Z0:G0=U I0 (ZI R 7 ⟨0,0⟩ 0 (2^R.length-1) []).2.length J0:=by
  have:=Zc L0.bx 2;rw[c2]at this;injection this with this;exact this.symm
 subst Z0;obtain⟨r1,r2,r3⟩:=yO HZ.o q.o.fr HT.o q.o.lo.1 q.o.lo.2 rfl hm.fr hm.bx hm.nm A.o.1 rfl g0 E0 ht L0 Y0;rw[N0.o]at r2;exact⟨⟨T,rfl,r1,r2⟩,r3⟩
structure XQ where
 pan:ByteArray
 mcc:Int
 am:Int
 cur:Int
def Us (l:List Nat)(n:Int):Bool:=l.any (fun x=>decide ((x:Int)=n))
def Qo (p:XQ)(s:Zl):Bool:=
 if s.sort=0 then Us s.nums p.mcc else if s.sort=1 then decide (((s.nums.getD 0 0:Nat):Int)<=p.am)&&decide (p.am<=((s.nums.getD 1 0:Nat):Int))else Us s.nums p.cur
def MW (r:Ze)(p:XQ):Bool:=match r.am with
 |none=>true
 |some a=>decide ((a.1:Int)<=p.am)&&decide (p.am<=(a.2:Int))
def Uf (r:Ze)(p:XQ):Bool:=(decide (r.mcc=[])||Us r.mcc p.mcc)&&(MW r p&&(decide (r.cur=[])||Us r.cur p.cur))
def Ac (r p):(Z8 r).all (Qo p)=Uf r p:=by
 unfold Z8 Uf MW;rw[r9,r9]
 have a:(if r.mcc=[]then[]else[(⟨0,r.mcc,0,0⟩:Zl)]).all (Qo p)=(decide (r.mcc=[])||Us r.mcc p.mcc):=by
  split
  ·rename_i h;simp[h]
  rename_i h;simp[h,Qo]
 have b:(if r.cur=[]then[]else[(⟨2,r.cur,0,0⟩:Zl)]).all (Qo p)=(decide (r.cur=[])||Us r.cur p.cur):=by
  split
  ·rename_i h;simp[h]
  rename_i h;simp[h,Qo]
 rw[a,b]
 cases r.am with
 |none=>simp
 |some c=>simp[Qo]
def XY (b:Zl->Bool)(l:List Zl):Nat->Nat->Option Zl
 |0,_=>Y
 |n+1,a=>match l[a]? with
  |none=>Y
  |some s=>if s.sort<3 then XY b l n (if b s then a+1 else a+s.skip)else Z s
def MX (c:Zl->Bool)(b l:List Zl):∀(n a:Nat),XY c (b++l) n (b.length+a)=XY c l n a
 |0,_=>rfl
 |n+1,a=>by
  unfold XY;rw[aR z,show b.length+a-b.length=a from z]
  cases l[a]? with
  |none=>rfl
  |some s=>
   dsimp only
   split
   ·rw[show(if c s=true then b.length+a+1 else b.length+a+s.skip)=b.length+(if c s=true then a+1 else a+s.skip)from by split<;>omega];exact MX c b l n _
   rfl
def Os (m:Nat):∀(l:List Zl)(a j:Nat)(s:Zl),l[j]?=Z s->(ZP m a l)[j]?=Z {s with skip:=m-(a+j)+1}
 |[],_,_,_,h=>by simp at h
 |x::r,a,0,s,h=>by
  simp at h;subst h;simp[ZP]
 |x::r,a,j+1,s,h=>by
  rw[k9]at h;simp only[ZP,k9];rw[Os m r (a+1) j s h,show a+1+j=a+(j+1)from z]
def Gw (p s k):Qo p {s with skip:=k}=Qo p s:=rfl
def VO (m:Nat):∀(a:Nat)(l:List Zl),(ZP m a l).length=l.length
 |_,[]=>rfl
 |a,_::r=>by show(ZP m (a+1) r).length+1=r.length+1;rw[VO m (a+1) r]
def O8 (p:XQ)(b:List Zl)(d:∀s,s∈b->s.sort<3)(c:Zl)(g:¬c.sort<3)(a:List Zl)(n:Nat)(R:Option Zl)(m:XY (Qo p) a n 0=R)(o:0<n):
  ∀(k j:Nat),k+j=b.length->XY (Qo p) (ZP b.length 0 b++c::a) (n+k) j=if(b.drop j).all (Qo p)then Z c else XY (Qo p) (ZP b.length 0 b++c::a) (n+k) j
 |0,j,h=>by
  rw[dL z];simp only[List.all_nil,if_true];obtain⟨i,rfl⟩:∃i,n=i+1:=⟨n-1,z⟩;rw[c8,XY,aR (by rw[VO];omega),VO,show j-b.length=0 from z];simp[g]
 |k+1,j,h=>by
  have l:=O8 p b d c g a n R m o k (j+1) z;obtain⟨s,f⟩:∃s,b[j]?=Z s:=⟨_,gE z⟩
  have q:b.drop j=s::b.drop (j+1):=by
   obtain⟨r,t⟩:=iG.1 f;rw[dC r,t]
  rw[q,l3]
  cases u:Qo p s with
  |false=>simp
  |true=>
   rw[m1]
   split
   ·rename_i e;rw[if_pos e]at l
    show XY (Qo p) _ (n+k+1) j=_
    rw[XY,j3 (by rw[VO];omega),Os _ b 0 j s f]
    dsimp only
    rw[if_pos (d s (mG f)),Gw,u,if_pos rfl];exact l
   rfl
def Ji (p:XQ)(b:List Zl)(f:∀s,s∈b->s.sort<3)(c:Zl)(a:List Zl)(n:Nat)(R:Option Zl)(m:XY (Qo p) a n 0=R):
  ∀(k j:Nat),k+j=b.length->(b.drop j).all (Qo p)=false->∃d,XY (Qo p) (ZP b.length 0 b++c::a) d j=R
 |0,j,h,hf=>by
  rw[dL z]at hf;simp at hf
 |k+1,j,h,hf=>by
  obtain⟨s,i⟩:∃s,b[j]?=Z s:=⟨_,gE z⟩
  have o:b.drop j=s::b.drop (j+1):=by
   obtain⟨q,r⟩:=iG.1 i;rw[dC q,r]
  rw[o,l3]at hf
  have g:∀d,XY (Qo p) (ZP b.length 0 b++c::a) (d+1) j=XY (Qo p) (ZP b.length 0 b++c::a) d (if Qo p s then j+1 else j+(b.length-(0+j)+1)):=by
   intro d;rw[XY,j3 (by rw[VO];omega),Os _ b 0 j s i]
   dsimp only
   rw[if_pos (f s (mG i)),Gw]
  cases l:Qo p s with
  |true=>
   rw[l,m1]at hf;obtain⟨d,e⟩:=Ji p b f c a n R m k (j+1) z hf;exact⟨d+1,by rw[g,l];exact e⟩
  |false=>
   refine⟨n+1,?_⟩;rw[g,l,if_neg y,show j+(b.length-(0+j)+1)=(ZP b.length 0 b++[c]).length+0 from by rw[List.length_append,VO];simp;omega,show ZP b.length 0 b++c::a=(ZP b.length 0 b++[c])++a from y,MX];exact m
def O9 (r):∀s,s∈Z8 r->s.sort<3:=by
 intro s a;unfold Z8 at a;rw[g5,g5]at a;rcases a with h|h|h
 ·split at h
  ·cases h
  simp at h;subst h;simp
 ·cases b:r.am with
  |none=>rw[b]at h;cases h
  |some c=>rw[b]at h;simp at h;subst h;simp
 split at h
 ·cases h
 simp at h;subst h;simp
def PJ (i r):¬(UQ i r).sort<3:=by
 unfold UQ
 split
 ·simp
 split<;>simp
def QP (R:List Ze)(a:Nat)(p:XQ):List Nat->Option Nat
 |[]=>Y
 |i::L=>if a.testBit i&&(match R[i]? with|none=>false|some r=>Uf r p)then Z i else QP R a p L
def Rb (R:List Ze):Option Nat->Zl
 |none=>⟨6,[],0,0⟩
 |some i=>match R[i]? with
  |none=>⟨6,[],0,0⟩
  |some r=>UQ i r
def MY (R:List Ze)(a:Nat)(p:XQ):∀(L:List Nat),∃n,XY (Qo p) (ZL R a L) n 0=Z (Rb R (QP R a p L))
 |[]=>⟨1,by simp[XY,ZL,Rb,QP]⟩
 |i::L=>by
  obtain⟨n,c⟩:=MY R a p L;simp only[ZL,QP]
  cases l:a.testBit i with
  |false=>simpa using⟨n,c⟩
  |true=>
   simp only[if_true,m1]
   cases g:R[i]? with
   |none=>simpa using⟨n,c⟩
   |some r=>
    dsimp only
    have d:=Ac r p
    split
    ·rename_i h;rw[h]at d;simp at d;rw[<-d];exact⟨1,by simp[XY,PJ,Rb,g]⟩
    rename_i h
    have j:0<n:=by
     cases n with
     |zero=>simp[XY]at c
     |succ n=>omega
    by_cases b:Uf r p=true
    ·have e:=O8 p (Z8 r) (O9 r) (UQ i r) (PJ i r) (ZL R a L) n _ c j (Z8 r).length 0 z;rw[h9,d,b,if_pos rfl]at e;rw[if_pos b];exact⟨_,by rw[Sz,e];simp[Rb,g]⟩
    have f:Uf r p=false:=by simpa using b
    obtain⟨k,e⟩:=Ji p (Z8 r) (O9 r) (UQ i r) (ZL R a L) n _ c (Z8 r).length 0 z (by rw[h9,d,f]);rw[if_neg b];exact⟨k,by rw[Sz,e]⟩
def YC (a:Nat->Nat)(meets:Nat->Bool):Nat->Option Nat
 |0=>Y
 |n+1=>if meets n&&(match YC a meets n with|none=>true|some b=>decide (a b<a n))then Z n else YC a meets n
def Uy (g:Nat->Nat)(meets:Nat->Bool):∀n,match YC g meets n with
  |none=>∀j,j<n->meets j=false
  |some b=>b<n/\meets b=true/\∀j,j<n->meets j=true->j≠b->SR g b j
 |0=>by intro j h;omega
 |n+1=>by
  have d:=Uy g meets n;unfold YC
  cases l:YC g meets n with
  |none=>
   rw[l]at d
   dsimp only at d ⊢
   rw[Bool.and_true]
   cases i:meets n with
   |true=>
    simp only[if_true];refine⟨z,i,fun j h a c=>?_⟩;have:=d j z;rw[this]at a
    cases a
   |false=>
    simp only[m0,if_false];intro j h;by_cases e:j=n
    ·subst e;exact i
    exact d j z
  |some b=>
   rw[l]at d
   dsimp only at d ⊢
   obtain⟨o,m,k⟩:=d
   cases i:meets n with
   |true=>
    rw[m1];by_cases f:g b<g n
    ·simp only[f,decide_true,if_true];refine⟨z,i,fun j h a c=>?_⟩;by_cases e:j=b
     ·subst e;exact z8 f
     have:=k j z a e;unfold SR at*;omega
    simp only[f,decide_false,m0,if_false];refine⟨z,m,fun j h a c=>?_⟩;by_cases e:j=n
    ·subst e;unfold SR;omega
    exact k j z a c
   |false=>
    simp only[Bool.false_and,m0,if_false];refine⟨z,m,fun j h a c=>?_⟩;by_cases e:j=n
    ·subst e;rw[i]at a
     cases a
    exact k j z a c
def Cx {i:Nat->Nat}{meets:Nat->Bool}:∀{L:List Nat},L.Pairwise (SR i)->match L.find? meets with
  |none=>∀j,j∈L->meets j=false
  |some b=>b∈L/\meets b=true/\∀j,j∈L->meets j=true->j≠b->SR i b j
 |[],_=>by intro j a;cases a
 |x::L,h=>by
  have c:=Cx (meets:=meets) (c9.1 h).2;rw[h8]
  cases f:meets x with
  |true=>
   dsimp only
   refine⟨y,f,fun j a _ d=>?_⟩;rcases p9.1 a with e|a
   ·exact absurd e d
   exact(c9.1 h).1 j a
  |false=>
   dsimp only
   cases k:L.find? meets with
   |none=>
    rw[k]at c
    dsimp only at c ⊢
    intro j a;rcases p9.1 a with e|a
    ·rw[e];exact f
    exact c j a
   |some b=>
    rw[k]at c
    dsimp only at c ⊢
    refine⟨by simp[c.1],c.2.1,fun j a g d=>?_⟩;rcases p9.1 a with e|a
    ·subst e;rw[f]at g;cases g
    exact c.2.2 j a g d
def Ad (f meets n):(Xl f n).find? meets=YC f meets n:=by
 have d:=Cx (meets:=meets) (O6 f n);have c:=Uy f meets n
 cases h:(Xl f n).find? meets with
 |none=>
  rw[h]at d
  cases g:YC f meets n with
  |none=>rfl
  |some b=>
   rw[g]at c;have:=d b (Up.2 c.1);rw[c.2.1]at this
   cases this
 |some a=>
  rw[h]at d
  dsimp only at d
  have i:=Up.1 d.1
  cases g:YC f meets n with
  |none=>
   rw[g]at c;have:=c a i;rw[d.2.1]at this
   cases this
  |some b=>
   rw[g]at c
   dsimp only at c
   by_cases e:a=b
   ·rw[e]
   have j:=d.2.2 b (Up.2 c.1) c.2.1 (fun k=>e k.symm);have l:=c.2.2 a i d.2.1 e;unfold SR at j l;omega
def MZ (R:List Ze)(a:Nat)(p:XQ):∀L,QP R a p L=L.find? (fun i=>a.testBit i&&(match R[i]? with|none=>false|some r=>Uf r p))
 |[]=>rfl
 |i::L=>by
  rw[QP,h8,MZ R a p L]
  cases(a.testBit i&&(match R[i]? with|none=>false|some r=>Uf r p))<;>simp
def Ae (a n):Wk n (Zz a n)=Xl a n:=by
 unfold Wk;apply List.ext_getElem?;intro k;rw[List.getElem?_map];have c:=V0 a n;by_cases b:k<n
 ·rw[List.getElem?_range b,gE z];simp only[Option.map_some,Zz,if_pos b];rw[U9 z]
 rw[m8 aF,m8 z];rfl
def yR (a n k)(h:k<n):Zz a n k<n:=by
 have b:=V0 a n;unfold Zz;rw[if_pos h,U9 z];exact Up.1 (r6 _)
def YN (R:List Ze)(p:XQ)(c i:Nat):Bool:=match R[i]? with
 |none=>false
 |some r=>decide (r.lo<=c/10^(6-r.digits))&&(decide (c/10^(6-r.digits)<=r.hi)&&Uf r p)
def EN (R a p c)(f:∀i r,R[i]?=Z r->(a.testBit i=true↔Qi r.digits r.lo r.hi c)):
  QP R a p (Wk R.length (Zz (Zu R) R.length))=YC (Zu R) (YN R p c) R.length:=by
 rw[MZ,Ae,<-Ad]
 congr 1
 funext i
 unfold YN
 cases g:R[i]? with
 |none=>simp
 |some r=>
  have h:=f i r g;unfold Qi at h
  dsimp only
  cases d:a.testBit i with
  |true=>
   have:=h.1 d;simp[this.1,this.2]
  |false=>
   have j:¬(r.lo<=c/10^(6-r.digits)/\c/10^(6-r.digits)<=r.hi):=fun e=>by have:=h.2 e;rw[d]at this;cases this
   by_cases b:r.lo<=c/10^(6-r.digits)
   ·have k:¬c/10^(6-r.digits)<=r.hi:=fun e=>j ⟨b,e⟩
    simp[b,k]
   simp[b]
def YS (c:Bool)(a:Nat->Int)(d:Nat->Bool):List Nat->Option Nat->Option Nat
 |[],b=>b
 |x::r,b=>YS c a d r (if d x then b else match b with
  |none=>Z x
  |some y=>if c&&decide (a x<a y)then Z x else Z y)
def M0 (a:Nat->Int)(b:Nat->Bool):∀(l:List Nat)(y:Nat),YS false a b l (Z y)=Z y
 |[],_=>rfl
 |x::r,y=>by
  unfold YS
  have:(if b x=true then Z y else if(false&&decide (a x<a y))=true then Z x else Z y)=Z y:=by split<;>simp
  dsimp only
  rw[this];exact M0 a b r y
def XZ (a:List Zf)(b:Int)(x:Nat):Int:=match a[x]? with
 |none=>0
 |some t=>(t.base:Int)+(t.rate:Int)*b
def M3 (a:List Zf)(x:Nat):ByteArray:=match a[x]? with
 |none=>k5
 |some t=>t.name
def yS (a:List Zf)(r:Ze)(b:Nat->Bool)(c:Int):Nat×ByteArray×ByteArray:=
 if r.decline then(3,r.name,k5)
 else match YS r.cheapest (XZ a c) b r.routes Y with
  |none=>(4,r.name,k5)
  |some x=>(0,r.name,M3 a x)
def X0 (s:ByteArray):Bool:=decide (6<=s.size)&&(decide (s.size<=19)&&s.data.toList.all (fun c=>decide (48<=c.toNat)&&decide (c.toNat<=57)))
def YD (p:XQ):Bool:=X0 p.pan&&(decide (0<=p.mcc)&&decide (p.mcc<=9999))&&((decide (0<=p.am)&&decide (p.am<=1000000000))&&(decide (0<=p.cur)&&decide (p.cur<=999)))
def Zw (s:ByteArray):Nat:=ZA (s.data.toList.take 6)
def UF (rts:List Zf)(R:List Ze)(p:XQ)(a:Nat->Bool):Nat×ByteArray×ByteArray:=
 if YD p then(match YC (Zu R) (YN R p (Zw p.pan)) R.length with
  |none=>(2,k5,k5)
  |some i=>match R[i]? with
   |none=>(2,k5,k5)
   |some r=>yS rts r a p.am)
 else(1,k5,k5)
def QQ {l:List UInt8}(a:∀c,c∈l->48<=c.toNat/\c.toNat<=57):∀(m k:Nat),k+m<=l.length->ZA (l.take (k+m))/10^m=ZA (l.take k)
 |0,k,_=>y
 |m+1,k,h=>by
  have d:=QQ a m k z;obtain⟨c,b⟩:∃c,l[k+m]?=Z c:=⟨_,gE z⟩;have e:=a c (mG b);rw[show k+(m+1)=(k+m)+1 from z,b4,b,Option.toList_some,Uk,b5,Nat.mul_comm (10^m) 10,<-Nat.div_div_eq_div_mul,show(ZA (l.take (k+m))*10+(c.toNat-48))/10=ZA (l.take (k+m))from z];exact d
def EO {l:List UInt8}(a:∀c,c∈l->48<=c.toNat/\c.toNat<=57)(f:6<=l.length)(k)(g:k<6)(c)(b:l[k]?=Z c):In (ZA (l.take 6)) k=c.toNat-48:=by
 unfold In;have e:=QQ a (5-k) (k+1) z;rw[show k+1+(5-k)=6 from z]at e;have d:=a c (mG b);rw[e,b4,b,Option.toList_some,Uk];omega
