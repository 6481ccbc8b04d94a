import Derived.Test.YtccikgogjfbpeaaGreatDoorAm
import Derived.Test.YtccikgogjfbpeaaGreatDoorAo
import Derived.Lib.SliceRun
open Option renaming some->I,none->J
open Go.Value renaming slice->V,pointer->Z,string->U,int->E,bool->G,oneCell'->y8,slice->x6,string->q0,pointer->q8,ownBlock->g7,agg->m0
open Go.IntKind renaming i64->H
open Go.RowKit renaming Hid->N
open Go.Proofs.Tryz renaming prog->C
open Go.Ending renaming returned->F
open Go.World renaming news_of_block->z6
open Bool renaming and_eq_true->z7,or_eq_true->j8,or_false->b4
open Or renaming inl->z8,inr->x8
open List renaming append_nil->z9,getElem?_map->y9,mem_singleton->j1,append_assoc->j2,mem_append->j5,map_append->j9,length_map->v0,take_of_length_le->v1,getElem?_eq_none->v6,length_append->v9,getElem?_set->k8,any_eq_true->k9,length_take->g6,any_cons->p9,mem_map->b5,any_nil->b6
open Go.Obj renaming cells->y6
open Go renaming World->y7,Calls->x7,Value->j0
open Nat renaming zero_le->x9,le_refl->j4,mul_le_mul_right->v7,lt_or_ge->v8,zero_add->k0,mul_le_mul->g9,sub_self->b7,mul_pos->b9,pow_pos->c7,mul_one->c9
open Go.AllReadyH renaming nil->j3
open And renaming intro->j6
open Int renaming toNat_of_nonneg->j7
open Go.Proofs.Tryz
namespace Go.Proofs.YtccikgogjfbpeaaGreatDoor
set_option linter.defProp false
set_option maxRecDepth 30000
set_option maxHeartbeats 8000000
def rA {x}(h:x<=999999):ZS (T7 x 6)=KJ x:=by
 have b:(KJ x).size=6:=NW x 6;obtain⟨c,d⟩:=LU h
 have f:Zd ⟨0,KJ x,0⟩=x:=by
  have e:=d;rw[Zw,v1 (show(KJ x).data.toList.length<=6 from Nat.le_of_eq (NW x 6))]at e;exact e
 have e:=(Pt ⟨0,KJ x,0⟩ ⟨by show(KJ x).size<=9;omega,fun k g=>?_⟩ (by show 1<=(KJ x).size;omega)).1
 ·rw[f]at e
  dsimp only at e
  rw[b]at e;exact congrArg ZS e
 have a:k<(KJ x).data.toList.length:=by simpa using g
 have:=(UW c).2.2 _ (List.getElem_mem a)
 show 48<=Zy (KJ x) k/\Zy (KJ x) k<=57
 rw[Zy,gD,gE a,Option.getD_some];omega
def JV {l m n}(b:∀x,x∈l->x<=m)(h:((Yp l m).any fun s=>Y4 s n)=true):n<=m:=by
 obtain⟨s,c,a⟩:=k9.1 h;unfold Y4 at a;simp only[z7,decide_eq_true_eq]at a;rcases LZ c with⟨_,rfl⟩|⟨k,d,rfl⟩
 ·exact a.2
 have:=b k d;have:=a.2
 dsimp only at this
 omega
def FQ {l m n}(c:n<=m):((Yp l m).any fun s=>Y4 s n)=(decide (l=[])||Us l (n:Int)):=by
 rw[Bool.eq_iff_iff,k9,j8,Ud,decide_eq_true_eq];unfold Yp Y4
 split
 ·rename_i e;simp[e];omega
 rename_i e
 constructor
 ·rintro⟨s,a,h⟩;obtain⟨x,b,rfl⟩:=b5.1 a;simp at h;obtain rfl:x=n:=z;exact x8 b
 exact fun h=>⟨(n,n),b5.2 ⟨n,h.resolve_left e,rfl⟩,y⟩
def TJ {r}(y)(h:y.p0<=999999/\y.p1<=9999/\y.p2<=1000000000/\y.p3<=999):V8 (Ug r) 4 y=Uc r (Rf y.p0 y.p1 y.p2 y.p3):=by
 obtain⟨a,b,i,c⟩:=h;have d:XI (Ug r) 1 y.p1=(decide (r.mcc=[])||Us r.mcc (y.p1:Int)):=FQ b;have e:XI (Ug r) 3 y.p3=(decide (r.cur=[])||Us r.cur (y.p3:Int)):=FQ c
 have f:XI (Ug r) 0 y.p0=(decide (sL r<=y.p0)&&decide (y.p0<sH r)):=by
  show([WW r.digits r.lo r.hi].any fun s=>Y4 s y.p0)=_
  have:0<sH r:=b9 z (c7 aB);simp only[p9,b6,b4,Y4,WW]
  congr 1
  exact decide_eq_decide.2 (show y.p0<=sH r-1↔_ by omega)
 have g:XI (Ug r) 2 y.p2=MW r (Rf y.p0 y.p1 y.p2 y.p3):=by
  show([if r.am.isSome=true then((r.am.getD (0,0)).1,(r.am.getD (0,0)).2)else(0,1000000000)].any fun s=>Y4 s y.p2)=_
  unfold MW Y4 Rf
  cases r.am with
  |none=>simp;omega
  |some j=>
   simp only[Option.isSome_some,if_true,Option.getD_some,p9,b6,b4]
   congr 1<;>exact decide_eq_decide.2 z
 show(XI (Ug r) 0 y.p0&&(XI (Ug r) 1 y.p1&&(XI (Ug r) 2 y.p2&&(XI (Ug r) 3 y.p3&&true))))=_
 rw[UA,Uf,f,d,g,e,show(Rf y.p0 y.p1 y.p2 y.p3).pan=KJ y.p0 from rfl,(LU a).2,Bool.and_true];rfl
def JW {n r}(h:Ts n r)(e:Tt r){p}(f:V8 (Ug r) 4 p=true):p.p0<=999999/\p.p1<=9999/\p.p2<=1000000000/\p.p3<=999:=by
 have a:(XI (Ug r) 0 p.p0&&(XI (Ug r) 1 p.p1&&(XI (Ug r) 2 p.p2&&(XI (Ug r) 3 p.p3&&true))))=true:=f;simp only[z7]at a;obtain⟨g,i,j,c,_⟩:=a;refine⟨?_,JV e.mx i,?_,JV e.cx c⟩
 ·have c:Y4 (WW r.digits r.lo r.hi) p.p0=true:=by
   have:([WW r.digits r.lo r.hi].any fun s=>Y4 s p.p0)=true:=g
   simpa using this
  unfold Y4 WW at c;simp only[z7,decide_eq_true_eq]at c;have:=(LT h).2;unfold sH at this;have d:0<(r.hi+1)*10^(6-r.digits):=b9 z (c7 aB);omega
 have b:Y4 (if r.am.isSome=true then((r.am.getD (0,0)).1,(r.am.getD (0,0)).2)else(0,1000000000)) p.p2=true:=by
  have:([if r.am.isSome=true then((r.am.getD (0,0)).1,(r.am.getD (0,0)).2)else(0,1000000000)].any fun s=>Y4 s p.p2)=true:=j
  simpa using this
 unfold Y4 at b;simp only[z7,decide_eq_true_eq]at b
 cases d:r.am with
 |none=>rw[d]at b;simpa using b.2
 |some k=>
  rw[d]at b;have:=h.am k d;have l:=b.2;simp at l;omega
def uG {p}(a:YD p=true):∃y:Qb,(y.p0<=999999/\y.p1<=9999/\y.p2<=1000000000/\y.p3<=999)/\∀r,Uc r (Rf y.p0 y.p1 y.p2 y.p3)=Uc r p:=by
 rw[XH]at a;simp only[z7,V3,decide_eq_true_eq]at a;obtain⟨b,⟨c,f⟩,⟨d,g⟩,e,h⟩:=a;have i:=Iw b;refine⟨⟨Zw p.pan,p.mcc.toNat,p.am.toNat,p.cur.toNat⟩,⟨by show Zw p.pan<=_;omega,by show p.mcc.toNat<=_;omega,by show p.am.toNat<=_;omega,by show p.cur.toNat<=_;omega⟩,fun r=>?_⟩;rw[UA,UA]
 show(decide (sL r<=Zw (KJ (Zw p.pan)))&&decide (Zw (KJ (Zw p.pan))<sH r)&&Uf r (Rf _ _ _ _))=_
 rw[(LU (show Zw p.pan<=999999 by omega)).2];unfold Uf MW Rf;rw[j7 c,j7 d,j7 e]
def tG {y:Qb}(h:y.p0<=999999/\y.p1<=9999/\y.p2<=1000000000/\y.p3<=999):YD (Rf y.p0 y.p1 y.p2 y.p3)=true:=by
 rw[XH,Rf,(LU h.1).1];simp[V3];omega
def FR {n r q}(h:Ts n r)(b:Tt r){y}(d:RG (Ug r) (Ug q)=I y):YD (TW y.1)=true/\Uc r (TW y.1)=true/\Uc q (TW y.1)=true:=by
 obtain⟨c,f⟩:=JL (fun i s g=>(Q5 h b i s g).1) d;have a:=JW h b c
 have e:TW y.1=Rf y.1.p0 y.1.p1 y.1.p2 y.1.p3:=by rw[TW,Rf,rA a.1]
 rw[e];exact⟨tG a,(TJ _ a).symm.trans c,(TJ _ a).symm.trans f⟩
def C7 {a b m}(h:Q0 a b=true)(c:∀x,x∈a->x<=m)(e:∀x,x∈b->x<=m):∃x,x<=m/\(decide (a=[])||Us a (x:Int))=true/\(decide (b=[])||Us b (x:Int))=true:=by
 simp only[j8,decide_eq_true_eq,Ud];rcases(CW a b).1 h with rfl|rfl|⟨x,d,f⟩
 ·cases b with
  |nil=>exact⟨0,z,z8 rfl,z8 rfl⟩
  |cons x r=>exact⟨x,e x y,z8 rfl,x8 y⟩
 ·cases a with
  |nil=>exact⟨0,z,z8 rfl,z8 rfl⟩
  |cons x r=>exact⟨x,c x y,x8 y,z8 rfl⟩
 exact⟨x,c x d,x8 d,x8 f⟩
def C8 {a b x}(c:(decide (a=[])||Us a x)=true)(d:(decide (b=[])||Us b x)=true)(e:0<=x):Q0 a b=true:=by
 obtain⟨k,rfl⟩:=Int.eq_ofNat_of_zero_le e;simp only[j8,decide_eq_true_eq,Ud]at c d;rw[CW];rcases c with h|h
 ·exact z8 h
 exact x8 (d.imp id fun f=>⟨k,h,f⟩)
def DZ {r p}(a:0<=p.am)(b:p.am<=1000000000):MW r p=true↔((aL r:Int)<=p.am/\p.am<=(aH r:Int)):=by
 unfold MW aL aH
 cases r.am<;>simp<;>omega
def C9 {n r s}(j:Ts n r)(a:Tt r)(f:Tt s):sX r s=true↔∃y,RG (Ug r) (Ug s)=I y:=by
 constructor
 ·intro h;unfold sX at h;simp only[z7,decide_eq_true_eq]at h;obtain⟨c,b,k,z⟩:=h;obtain⟨x,l,m,o⟩:=C7 b a.mx f.mx;obtain⟨u,u1,u2,u3⟩:=C7 k a.cx f.cx
  have A:aH r<=1000000000:=by
   unfold aH
   cases e:r.am with
   |none=>simp
   |some q=>have:=j.am q e;simp;omega
  have B:=(LT j).2;have g:(max (sL r) (sL s))<=999999/\x<=9999/\max (aL r) (aL s)<=1000000000/\u<=999:=⟨az,l,az,u1⟩
  cases t:RG (Ug r) (Ug s)with
  |some y=>exact⟨y,rfl⟩
  |none=>
   refine absurd ?_ (zo (fun i s v=>(Q5 j a i s v).1) t ⟨max (sL r) (sL s),x,max (aL r) (aL s),u⟩);rw[TJ _ g,TJ _ g,UA,UA];have w:=(LU g.1).2
   have C:∀r,aL r<=max (aL r) (aL s)->True:=fun _ _=>trivial
   simp only[Uf,z7,decide_eq_true_eq];rw[show Zw (Rf (max (sL r) (sL s)) x (max (aL r) (aL s)) u).pan=max (sL r) (sL s)from w,DZ (by show(0:Int)<=((_:Nat):Int);omega) (by show((max (aL r) (aL s):Nat):Int)<=_;omega),DZ (by show(0:Int)<=((_:Nat):Int);omega) (by show((max (aL r) (aL s):Nat):Int)<=_;omega)]
   show((_/\_)/\_/\(((_:Nat):Int)<=((_:Nat):Int)/\((_:Nat):Int)<=_)/\_)/\(_/\_)/\_/\(((_:Nat):Int)<=((_:Nat):Int)/\((_:Nat):Int)<=_)/\_
   exact⟨⟨⟨az,az⟩,m,⟨az,az⟩,u2⟩,⟨az,az⟩,o,⟨az,az⟩,u3⟩
 rintro⟨y,g⟩;obtain⟨d,c,b⟩:=FR j a g;generalize TW y.1=p at*;rw[XH]at d;simp only[z7,V3,decide_eq_true_eq]at d;rw[UA,Uf]at c b;simp only[z7,decide_eq_true_eq]at c b;rw[DZ d.2.2.1.1 d.2.2.1.2]at c b;unfold sX;simp only[z7,decide_eq_true_eq];exact⟨az,C8 c.2.1 b.2.1 d.2.1.1,C8 c.2.2.2 b.2.2.2 d.2.2.2.1,az⟩
def FSq {R p j r}(d:R[j]?=I r):Q4 R p=I j↔Uc r p=true/\∀i q,R[i]?=I q->(r.rank<q.rank\/(q.rank=r.rank/\i<j))->Uc q p=false:=by
 have a:=Uy (Zu R) (YN R p (Zw p.pan)) R.length
 have g:∀{i q},R[i]?=I q->Zu R i=q.rank:=fun h=>by simp[Zu,h]
 unfold Q4
 constructor
 ·intro h;rw[h]at a
  dsimp only at a
  rw[TH R p j r d]at a;refine⟨a.2.1,fun i q c v=>?_⟩
  cases s:Uc q p with
  |false=>rfl
  |true=>
   have t:=(iG.1 c).1
   have k:i≠j:=fun e=>by subst e;rw[d]at c;injection c with c;subst c;omega
   have:=a.2.2 i t (by rw[TH R p i q c];exact s) k;unfold SR at this;rw[g c,g d]at this;omega
 rintro⟨m,u⟩;have f:=(iG.1 d).1
 cases n:YC (Zu R) (YN R p (Zw p.pan)) R.length with
 |none=>
  rw[n]at a;have:=a j f;rw[TH R p j r d,m]at this
  cases this
 |some b=>
  rw[n]at a
  dsimp only at a
  by_cases e:b=j
  ·rw[e]
  have c:=gE a.1;have o:=a.2.2 j f (by rw[TH R p j r d];exact m) (fun h=>e h.symm);have l:=a.2.1;rw[TH R p b _ c]at l;unfold SR at o;rw[g c,g d]at o;rw[u b _ c z]at l
  cases l
def uH {h R}(l:Yh h R)(m:∀r,r∈R->Tt r){j r}(a:R[j]?=I r):Qd R j=true↔∃p,YD p=true/\Q4 R p=I j:=by
 have g:=mG a;unfold Qd;rw[a]
 dsimp only
 rw[Fu (fun i s o=>(Q5 (l.rl r g) (m r g) i s o).1)]
 constructor
 ·rintro⟨y,d,k⟩;have b:=JW (l.rl r g) (m r g) d;rw[TJ y b]at d;refine⟨_,tG b,(FSq a).2 ⟨d,fun i q c e=>?_⟩⟩;rw[<-TJ y b];refine k _ ((P5 R j _ R.length).2 ⟨i,q,(iG.1 c).1,c,?_,rfl⟩);unfold zm;rw[c,a]
  simpa using e
 rintro⟨p,t,f⟩;obtain⟨d,k⟩:=(FSq a).1 f;obtain⟨y,b,n⟩:=uG t;refine⟨y,by rw[TJ y b,n];exact d,fun B u=>?_⟩;obtain⟨i,q,_,c,e,rfl⟩:=(P5 R j _ R.length).1 u;rw[TJ y b,n];refine k i q c ?_;unfold zm at e;rw[c,a]at e
 simpa using e
open Go.RowKit
def Ha (v b c d e f:j0)(a:Nat):Obj:=y6 #[v,b,c,d,e,f,E H (a:Nat)] 58
def Cl (c:Nat->Nat)(v:j0)(t:Nat):Prop:=∀k,v.ownBlock=I k->c k=t
def Y7 (w:y7)(c a:Nat->Nat):Prop:=∀k,k<w.heap.size->a k=c k
abbrev US (Q:List Nat)(c:Nat->Nat)(w a:y7):Prop:=Fr (fun k=>c k∈Q) w a
def Y7.trans {w w' c a d}(h:Y7 w c a)(k:Y7 w' a d)(e:w.heap.size<=w'.heap.size):Y7 w c d:=fun i b=>(k i (nL b e)).trans (h i b)
def US.cls {Q w a w2 c c1 S}(h:US Q c w a)(b:Y7 w c c1)(k:Fr S a w2)(d:∀i,S i->c1 i∈Q):US Q c w w2:=
 h.monoNew k fun i e=>(v8 i w.heap.size).imp (fun f=>b i f▸d i e) id
def F9 (s:Nat)(m:ByteArray):List j0:=if s=1 then[U m]else[U m,U m,U ByteArray.empty,E H 0,E H 0,E H 0]
def qD (c:Nat->Nat)(w:y7)(t:Nat)(d:TypeId)(s:Nat)(e:I9):Prop:=
 ∀k,k<e.n->∃g,e.a=I ⟨g,0,J⟩/\c g=t/\∃b,w.heap[g]?=I (y6 b d)/\∀j v,(F9 s e.m)[j]?=I v->b[k*s+j]?=I v
def qD.keep {c a w w' t b s e S}(h:qD c w t b s e)(i:Fr S w w')(j:Y7 w c a)(l:∀k,S k->c k≠t):qD a w' t b s e:=by
 intro k m;obtain⟨g,n,d,cs,f,o⟩:=h k m;exact⟨g,n,(j g (iA.1 f).1).trans d,cs,i.whole f (fun h=>l g h d),o⟩
structure KN (c:Nat->Nat)(w:y7)(L tn tm tl:Nat)(tR tE:TypeId)(s:Nat)(nv mv:j0)(es pend:List I9):Prop where
 nm:w.ownsRow (L+1) tR 1 nv (es++pend).length ((es++pend).map I9.val)
 nc:Cl c nv tn
 ma:w.ownsRow (L+1) 9 1 mv es.length (es.map fun e=>q0 e.m)
 mc:Cl c mv tm
 el:∀e,e∈es++pend->qD c w tl tE s e
def Xn {c d w e b t n s f v g S}(h:w.ownsRow b f s v n g)(i:Cl c v t)(j:Fr S w e)(l:Y7 w c d)(m:∀k,S k->c k≠t):e.ownsRow b f s v n g/\Cl d v t:=
 ⟨oA h j fun k a o=>m k o (i k a),fun k a=>(l k (h.lt k a).2).trans (i k a)⟩
def KN.keep {c l w w' L tn d f m n s o p q a S}(h:KN c w L tn d f m n s o p q a)(g:Fr S w w')(i:Y7 w c l)(j:∀k,S k->c k≠tn/\c k≠d/\c k≠f):KN l w' L tn d f m n s o p q a:=by
 obtain⟨r,t⟩:=Xn h.nm h.nc g i fun k b=>(j k b).1
 obtain⟨u,v⟩:=Xn h.ma h.mc g i fun k b=>(j k b).2.1
 exact⟨r,t,u,v,fun e x=>(h.el e x).keep g i fun k b=>(j k b).2.2⟩
def RL {c w b t g v o}(d:Cl c v t)(j:(w.alloc o).grownBy b v.ownBlock)(a:v.ownBlock=I g\/w.heap.size<=g):∃f,Y7 w c f/\f g=t/\Fr (fun k=>c k=t) w b:=by
 refine⟨fun k=>if k=g then t else c k,fun k i=>?_,if_pos rfl,(Zo.alloc o).grown j fun k i=>z8 (d k i)⟩
 dsimp only
 split
 ·rename_i e;subst e;exact(a.elim (fun h=>d k h) fun h=>z).symm
 rfl
def Pb {c g n a t}(h:c g=t):Cl c (V (I ⟨g,0,J⟩) n a) t:=fun k b=>by
 obtain rfl:k=g:=by simpa[g7]using b.symm
 exact h
def vz (c:Nat->Nat)(w:y7)(L f:Nat)(h:TypeId)(s:Nat)(b:j0)(n:Nat)(x:ByteArray)(i:List I9):Prop:=
 ∃d,w.ownsRow (L+1) h s b n d/\(∀k j v,k<n->(F9 s x)[j]?=I v->d[k*s+j]?=I v)/\Cl c b f/\∀e,e∈i->∀k,k<e.n->∀g,e.a=I ⟨g,0,J⟩->b.ownBlock=I g->e.m=x/\e.n<=n
def vz.keep {c b w w' L a d s e n x f S}(h:vz c w L a d s e n x f)(g:Fr S w w')(i:Y7 w c b)(j:∀k,S k->c k≠a):vz b w' L a d s e n x f:=by
 obtain⟨l,m,o,p,q⟩:=h;obtain⟨r,t⟩:=Xn m p g i j;exact⟨l,r,o,t,q⟩
def JX {w:y7}{b n c g s e j}(h:w.ownsRow b e s (V (I ⟨g,0,J⟩) n c) n j):∃a:Array j0,w.heap[g]?=I (y6 a e)/\∀(k:Nat) v,j[k]?=I v->a[k]?=I v:=by
 rcases h.2 with⟨f,_⟩|⟨p,l,a,f,_,m,_,_,o,d⟩
 ·simp at f
 simp only[x6.injEq,Option.some.injEq,Addr.mk.injEq,and_true,true_and]at f;obtain⟨rfl,rfl⟩:=f;refine⟨a,m,fun k v i=>?_⟩;rw[<-d,List.getElem?_take]at i
 split at i
 ·simpa using i
 cases i
def KN.step1 {c w l L tn y m z r s A H f p n a g2 i x o}(h:KN c w L tn y m z r s A H f [])(N:vz c w L m r s (V p n a) n x f)(B:tn≠y/\tn≠m)(O:(w.alloc o).grownBy l A.ownBlock)(P:l.ownsRow (L+1) z 1 (V (I ⟨g2,0,J⟩) (f.length+1) i) (f.length+1) (f.map I9.val++[V p n a]))(C:A.ownBlock=I g2\/w.heap.size<=g2):
  ∃q,Y7 w c q/\KN q l L tn y m z r s (V (I ⟨g2,0,J⟩) (f.length+1) i) H f [⟨p,n,a,x⟩]/\vz q l L m r s (V p n a) n x (f++[⟨p,n,a,x⟩])/\Fr (fun k=>c k=tn) w l:=by
 obtain⟨q,t,D,u⟩:=RL h.nc O C
 obtain⟨Q,R⟩:=Xn h.ma h.mc u t fun k d=>d▸B.1
 obtain⟨S,E,K,M,T⟩:=N.keep u t fun k d=>d▸B.2
 refine⟨q,t,⟨by rw[lA,j9];exact P,Pb D,Q,R,fun e b=>?_⟩,⟨S,E,K,M,fun e b k d g U W=>?_⟩,u⟩
 ·rcases j5.1 b with b|b
  ·exact(h.el e (by simp[b])).keep u t fun k d=>d▸B.2
  obtain rfl:=j1.1 b;intro k d;obtain⟨g,Z,e,_⟩:=E.form (by have:k<n:=d;omega);injection e with e _ X;subst e X;obtain⟨F,D,G⟩:=JX E;exact⟨g,rfl,M g rfl,F,D,fun j v Y=>G _ _ (K k j v d Y)⟩
 rcases j5.1 b with b|b
 ·exact T e b k d g U W
 obtain rfl:=j1.1 b;exact⟨rfl,j4 _⟩
def KN.step2 {c w d L tn f g y p s z t a i A n g2 b x o}(h:KN c w L tn f g y p s z t a [i])(C:vz c w L g p s A n x (a++[i]))(D:i.m=x)(u:f≠tn/\f≠g)(E:(w.alloc o).grownBy d t.ownBlock)(F:d.ownsRow (L+1) 9 1 (V (I ⟨g2,0,J⟩) (a.length+1) b) (a.length+1) ((a.map fun e=>q0 e.m)++[U x]))(v:t.ownBlock=I g2\/w.heap.size<=g2):
  ∃j,Y7 w c j/\KN j d L tn f g y p s z (V (I ⟨g2,0,J⟩) (a.length+1) b) (a++[i]) []/\vz j d L g p s A n x (a++[i])/\Fr (fun k=>c k=f) w d:=by
 obtain⟨j,q,G,r⟩:=RL h.mc E v
 obtain⟨H,K⟩:=Xn h.nm h.nc r q fun k l=>l▸u.1
 refine⟨j,q,⟨by rw[z9];exact H,K,?_,Pb G,fun e B=>?_⟩,C.keep r q fun k l=>l▸u.2,r⟩
 ·rw[lA,j9]
  simpa[D]using F
 rw[z9]at B
 exact(h.el e B).keep r q fun k l=>l▸u.2
def KN.step3 {c w p L tn E i T t s U W B C n q g2 o x D}(h:KN c w L tn E i T t s U W B [])(l1:w.ownsRow (L+1) t s (V C n q) n D)(l2:∀k j v,k<n->(F9 s x)[j]?=I v->D[k*s+j]?=I v)(X:Cl c (V C n q) i)(Y:∀e,e∈B->∀k,k<e.n->∀g,e.a=I ⟨g,0,J⟩->(x6 C n q).ownBlock=I g->e.m=x/\e.n<=n)(Z:i≠tn/\i≠E)(hs:(F9 s x).length=s)(ho:p.ownsRow (L+1) t s (V (I ⟨g2,0,J⟩) (n+1) o) (n+1) (D++F9 s x))(d:(C=I ⟨g2,0,J⟩/\Fr (fun k=>k=g2) w p)\/(w.heap.size<=g2/\F0 w p)):
  ∃F,Y7 w c F/\KN F p L tn E i T t s U W B []/\vz F p L i t s (V (I ⟨g2,0,J⟩) (n+1) o) (n+1) x B/\Fr (fun k=>c k=i) w p:=by
 have G:=l1.1
 have u:∀k j v,k<n+1->(F9 s x)[j]?=I v->(D++F9 s x)[k*s+j]?=I v:=fun k j v b H=>by
  have a0:=(iG.1 H).1;have b0:k*s+s=(k+1)*s:=(Nat.succ_mul k s).symm;by_cases y:k<n
  ·have:(k+1)*s<=n*s:=v7 _ y;rw[List.getElem?_append_left az];exact l2 k j v y H
  obtain rfl:k=n:=az;rw[aR az,G,Nat.add_sub_cancel_left];exact H
 obtain⟨K,z,M⟩:=JX ho
 have N:Fr (fun k=>c k=i) w p:=d.elim (fun⟨e,f⟩=>f.mono fun k b=>X k (by rw[e,b];rfl)) fun h=>h.2.mono
 have O:Y7 w c fun k=>if k=g2 then i else c k:=fun k b=>by
  dsimp only
  split
  ·rename_i e;subst e;rcases d with⟨e,_⟩|⟨hz,_⟩
   ·exact(X k (by rw[e];rfl)).symm
   omega
  rfl
 refine⟨fun k=>if k=g2 then i else c k,O,?_,⟨_,ho,u,Pb (if_pos rfl),fun e A k b g l P=>?_⟩,N⟩
 ·obtain⟨h1,h2⟩:=Xn h.nm h.nc N O fun k b=>b▸Z.1
  obtain⟨h3,h4⟩:=Xn h.ma h.mc N O fun k b=>b▸Z.2
  refine⟨h1,h2,h3,h4,fun e A k b=>?_⟩;obtain⟨g,l,P,cs,Q,e4⟩:=h.el e A k b;by_cases R:g=g2
  ·subst R;rcases d with⟨r,f⟩|⟨hz,f⟩
   ·obtain⟨S,hn⟩:=Y e (by simpa using A) k b g l (by rw[r];rfl);exact⟨g,l,if_pos rfl,K,z,fun j v hv=>M _ _ (u k j v az (S▸hv))⟩
   have:=(iA.1 Q).1;omega
  exact⟨g,l,(if_neg R).trans P,cs,d.elim (fun h=>h.2.whole Q R) fun h=>h.2.whole Q,e4⟩
 obtain rfl:g=g2:=by simpa[g7]using P.symm
 rcases d with⟨r,f⟩|⟨hz,f⟩
 ·obtain⟨S,hn⟩:=Y e A k b g l (by rw[r];rfl);exact⟨S,az⟩
 obtain⟨g',k1,_,cs,k3,_⟩:=h.el e (by simpa using A) k b;rw[k1]at l;injection l with l;injection l with l;have:=(iA.1 k3).1;omega
def FT (w:y7)(a T:Nat)(b:List Zf)(R:List Ze)(g:Bool):Prop:=
 ∃c d,a<=T/\w.cell? ⟨T,0,J⟩=I (Z (I ⟨c,0,J⟩))/\w.cell? ⟨T,1,J⟩=I (Z (I ⟨d,0,J⟩))/\a<=c/\
  match g with
  |true=>w.heap[c]?=I (y6 #[V J 0 0,V J 0 0] 89)/\∃e h i,G4 e w d (RH (Yi b R)) h i/\a<=d/\a<=e
  |false=>∃f j k,Bk w c f j b R k/\Wl a w d f R (Zz (Zu R) R.length)
def FT.fr {w w' a T c R g S}(h:FT w a T c R g)(b:Fr S w w')(d:∀k,S k->k<a:=by simp):FT w' a T c R g:=by
 obtain⟨s,t,i,n,o,j,q⟩:=h
 have e:∀{k:Nat},a<=k->¬S k:=fun f u=>aj (d _ u)
 refine⟨s,t,i,(b.cell (p:=⟨T,0,J⟩) (bL w _ n) (e i)).trans n,(b.cell (p:=⟨T,1,J⟩) (bL w _ o) (e i)).trans o,j,?_⟩
 cases g with
 |true=>
  obtain⟨l,v,x,y,m,r,z⟩:=q;exact⟨b.whole l (e j),v,x,y,m.fr b (fun k f=>aj (d k f)) (e r),r,z⟩
 |false=>
  obtain⟨A,B,C,l,m⟩:=q;exact⟨A,B,C,l.fr b (fun k f=>nL (d k f) j),m.fr b d⟩
def wT (c:Nat->Nat)(w:y7)(a:Nat)(b:y7):Prop:=Fr (fun k=>k<a) b w/\∀k,a<=k->k<b.heap.size->c k=0
def wT.keep {c g w w' b a S}(h:wT c w a b)(j:Fr S w w')(l:Y7 w c g)(m:∀k,S k->c k≠0):wT g w' a b:=by
 refine⟨h.1.monoNew j fun k d=>?_,fun k d i=>(l k (nL i h.1.size)).trans (h.2 k d i)⟩;rcases v8 k a with e|e
 ·exact z8 e
 rcases v8 k b.heap.size with f|f
 ·exact absurd (h.2 k e f) (m k d)
 exact x8 f
structure Bc (rts:List Zf)(R:List Ze):Prop where
 bk:Yh rts R
 ar:∀r,r∈R->Tt r
 im:zx rts R
def KO (a:Bool)(R:List Ze):List Ze:=match a with
 |true=>[]
 |false=>R
def zN (c:Nat->Nat)(w:y7)(t:Nat)(a:TypeId)(s:Nat)(v:j0)(n:Nat)(d:List j0):Prop:=Cl c v t/\∃b,w.ownsRow b a s v n d
def zN.keep {c a w w' t n s d v e S}(h:zN c w t d s v n e)(f:Fr S w w')(g:Y7 w c a)(i:∀k,S k->c k≠t):zN a w' t d s v n e:=by
 obtain⟨j,b,l⟩:=h;obtain⟨m,o⟩:=Xn l j f g i;exact⟨o,b,m⟩
def UB (R:List Ze):List XQ:=(Sl R).map fun o=>o.2.2
def KP (R:List Ze):List j0:=(List.range R.length).map fun k=>Value.bool (!Qd R k)
def JY (c:Nat->Nat)(w:y7)(R:List Ze)(d:Bool)(b a:j0):Prop:=
 (if d then zN c w 10 35 4 b (UB R).length (X3 (UB R))else b=V J 0 0)/\(a=V J 0 0\/∃D,a=V (I ⟨D,0,J⟩) R.length R.length/\zN c w 11 4 1 a R.length (KP R))
def JY.keep {c g w w' R a b d S}(h:JY c w R a b d)(i:Fr S w w')(j:Y7 w c g)(l:∀k,S k->c k≠10/\c k≠11):JY g w' R a b d:=by
 obtain⟨m,n⟩:=h;refine⟨?_,n.imp id fun⟨D,e,h⟩=>⟨D,e,h.keep i j fun k f=>(l k f).2⟩⟩
 cases a with
 |false=>exact m
 |true=>exact zN.keep m i j fun k f=>(l k f).1
def KQ (c:Nat->Nat)(w:y7)(X:Nat):Prop:=
 ∃j a q k b T g R i d e f,(∃h,Xu j a q h g R)/\FT k b T g R i/\Bc g R/\wT c w a j/\wT c w b k/\c X=9/\
  w.heap[X]?=I (y6 #[Z (I ⟨T,0,J⟩),Z (I ⟨q,0,J⟩),G i,G d,e,f] 97)/\JY c w (KO i R) d e f
def KQ.cx {c w X}(h:KQ c w X):c X=9:=by
 obtain⟨_,_,_,_,_,_,_,_,_,_,_,_,_,_,_,_,_,h,_⟩:=h;exact h
def KQ.keep {c n w w' X S}(h:KQ c w X)(j:Fr S w w')(l:Y7 w c n)(f:∀k,S k->c k≠0/\c k≠10/\c k≠11/\k≠X):KQ n w' X:=by
 obtain⟨p,a,q,r,b,T,m,R,s,d,g,i,t,u,v,x,y,z,o,A⟩:=h;exact⟨p,a,q,r,b,T,m,R,s,d,g,i,t,u,v,x.keep j l fun k e=>(f k e).1,y.keep j l fun k e=>(f k e).1,(l X (iA.1 o).1).trans z,j.whole o fun B=>(f X B).2.2.2 rfl,A.keep j l fun k e=>⟨(f k e).2.1,(f k e).2.2.1⟩⟩
structure Sn (c:Nat->Nat)(w:y7)(L:Nat)(v bv nv ov mv kv:j0)(cnt:Nat)(xs:List Nat)(es fs:List I9):Prop where
 bx:w.heap[L]?=I (Ha v bv nv ov mv kv cnt)
 bc:c L=1
 tv:w.ownsRow (L+1) 93 1 v xs.length (xs.map fun X=>q8 (I ⟨X,0,J⟩))
 tc:Cl c v 2
 few:xs.length<=20
 tb:∀X,X∈xs->KQ c w X
 n:KN c w L 3 4 7 28 9 1 nv mv es []
 o:KN c w L 5 6 8 41 44 6 ov kv fs []
def Sn.keep {c e w w' L v f g i j k a l m p}(h:Sn c w L v f g i j k a l m p)(b:F0 w w')(d:Y7 w c e):Sn e w' L v f g i j k a l m p:=by
 obtain⟨q,r⟩:=Xn h.tv h.tc b d y;exact⟨b.whole h.bx,(d L (iA.1 h.bx).1).trans h.bc,q,r,h.few,fun X s=>(h.tb X s).keep b d y,h.n.keep b d y,h.o.keep b d y⟩
def JZ (w L v q r u x y a)(h:w.heap[L]?=I (Ha v q r u x y a))(Y:a<=4611686018427387904):
  x7 C 136 #[Z (I ⟨L,0,J⟩)] w fun e B=>(∃s:ByteArray,e=F (U s))/\B.heap[L]?=I (Ha v q r u x y (a+1))/\Fr (fun k=>k=L) w B:=by
 have c6:=Zc h 6;have f6:=bF h 6
 have D:N ((w.setCell ⟨L,6,J⟩ (E H ((a:Int)+1))).heap[L]?=I (Ha v q r u x y (a+1))):=by
  have e:=heap_setCell_same w L 6 _ _ (E H ((a:Int)+1)) h
  show _=_
  simpa[Ha]using e
 have G:N (Fr (fun k=>k=L) w (w.setCell ⟨L,6,J⟩ (E H ((a:Int)+1)))):=(Fr.refl (fun k=>k=L) w).setCell (p:=⟨L,6,J⟩) (z8 rfl) _;have K:(a:Int)<=4611686018427387904:=az;clear h;go_enter func136,ntmps136;go_wp2_with fail;generalize w.setCell _ _=W at*
 go_loopg [3,4,5] 9 (fun m t n i wr=>∃k s c,k<=9/\m=9-k/\t=U s/\s.size<=1+k/\n=E H (c:Nat)/\c<=4611686018427387905/\i=E H (k:Nat)/\N (F0 W wr))
 case atStart=>exact⟨0,⟨#[35]⟩,a+1,az,rfl,rfl,aB,aA,az,rfl,Zo⟩
 obtain⟨k,s,c,hk,rfl,rfl,hs,rfl,M,rfl,b⟩:=hrel;by_cases O:k<9
 ·have z:(k:Int)<9:=az;obtain⟨m,Q⟩:=ad (c % 16);have f:m<16:=az
  have R:(c:Int).tmod 16=(m:Int):=by rw[Int.tmod_eq_emod_of_nonneg az];omega
  obtain⟨d,g⟩:=ae (UInt8.ofNat (97+m):UInt8)
  have l:(d.toNat:Int)=(97+(m:Int)):=by rw[g,UInt8.toNat_ofNat'];omega
  have S:=Fl m f;have A:=o (b.o.alloc (y6 #[E .u8 (97+(m:Int))] 5))
  have T:(convert 50 9 (V (I ⟨wr.heap.size,0,J⟩) 1 1)).run C (wr.alloc (y6 #[E .u8 (97+(m:Int))] 5))=.ok (U ⟨#[d]⟩) (wr.alloc (y6 #[E .u8 (97+(m:Int))] 5)):=by
   have e:=run_convert_bytes_back (P:=C) (wr.alloc (y6 #[E .u8 (97+(m:Int))] 5)) 50 9 5 ⟨wr.heap.size,0,J⟩ 1 [d] underlying50 underlying5 underlying9 (by
    intro j X
    have:j=0:=by simpa using X
    subst this;rw[Yf]
    exact bC (heap_alloc_new wr _) 0 _ (by simp[l]))
   simpa using e
  clear Q g l;go_wp2;go_roundg (9-(k+1))
  case measure=>omega
  exact⟨k+1,s++⟨#[d]⟩,c/16,az,rfl,rfl,by rw[ByteArray.size_append];show s.size+1<=_;omega,by congr 1,az,aE,A⟩
 have z:¬(k:Int)<9:=az;go_wp2;go_ret;exact⟨⟨s,rfl⟩,b.o.whole D.o,G.o.trans (b.o.mono)⟩
def KN.keepL {c m w o L tn f p q r s t u i b S}(h:KN c w L tn f p q r s t u i b)(j:Fr S w o)(l:Y7 w c m)(v:∀k,S k->c k≠tn/\c k≠f)(A:∀e,e∈i++b->∀k,k<e.n->∀g,e.a=I ⟨g,0,J⟩->¬S g):KN m o L tn f p q r s t u i b:=by
 obtain⟨B,C⟩:=Xn h.nm h.nc j l fun k d=>(v k d).1
 obtain⟨D,E⟩:=Xn h.ma h.mc j l fun k d=>(v k d).2
 refine⟨B,C,D,E,fun e x k d=>?_⟩;obtain⟨g,y,F,G,z,H⟩:=h.el e x k d;exact⟨g,y,(l g (iA.1 z).1).trans F,G,j.whole z (A e x k d g y),H⟩
def Y7.refl (w c):Y7 w c c:=fun _ _=>rfl
structure FU (tn tm tl:Nat)(tR tE:TypeId)(s:Nat)(B:j0->j0->Obj)(c0:Nat->Nat)(w0:y7)(L:Nat)(x:ByteArray)(c:Nat->Nat)(wr:y7)(nv mv lv:j0)(n:Nat)(es pend:List I9):Prop where
 ag:Y7 w0 c0 c
 sh:KN c wr L tn tm tl tR tE s nv mv es pend
 ls:vz c wr L tl tE s lv n x (es++pend)
 fq:US [1,tn,tm,tl] c0 w0 wr
 bx:wr.heap[L]?=I (B nv mv)
 bc:c L=1
def Vh {w L}(u i):Fr (fun k=>k=L) w (w.setCell ⟨L,i,J⟩ u):=(Fr.refl (fun k=>k=L) w).setCell (p:=⟨L,i,J⟩) (z8 rfl) _
def FU.box {tn e b q g s B h j L x c wr l m r n i u o a}(t:Y7 j h c)(y:KN c wr L tn e b q g s l m o a)(z:vz c wr L b g s r n x (o++a))(A:US [1,tn,e,b] h j wr)(f:c L=1)(v:1≠tn/\1≠e/\1≠b)(C:(wr.setCell ⟨L,i,J⟩ u).heap[L]?=I (B l m)):
  FU tn e b q g s B h j L x c (wr.setCell ⟨L,i,J⟩ u) l m r n o a:=by
 have p:=Vh (w:=wr) (L:=L) u i;exact⟨t,y.keep p (Y7.refl _ _) (fun k d=>by subst d;rw[f];exact v),z.keep p (Y7.refl _ _) (fun k d=>by subst d;rw[f];exact v.2.2),A.cls t p (fun k d=>by subst d;simp[f]),C,f⟩
def FU.s1 {tn f g p y s B z w0 L x c w w2 j q n i es l cap g2 d o}(h:FU tn f g p y s B z w0 L x c w j q (V l n cap) n es [])(m:tn≠f/\tn≠g/\1≠tn/\1≠f/\1≠g)(F:∀(W:y7) a b u,W.heap[L]?=I (B a b)->(W.setCell ⟨L,i,J⟩ u).heap[L]?=I (B u b))(G:(w.alloc o).grownBy w2 j.ownBlock)(H:w2.ownsRow (L+1) p 1 (V (I ⟨g2,0,J⟩) (es.length+1) d) (es.length+1) (es.map I9.val++[V l n cap]))(r:j.ownBlock=I g2\/w.heap.size<=g2):
  w2.heap[L]?=I (B j q)/\∃t,FU tn f g p y s B z w0 L x t (w2.setCell ⟨L,i,J⟩ (V (I ⟨g2,0,J⟩) (es.length+1) d)) (V (I ⟨g2,0,J⟩) (es.length+1) d) q (V l n cap) n es [⟨l,n,cap,x⟩]:=by
 have A:=h.ls;rw[z9]at A;obtain⟨t,C,K,v,D⟩:=h.sh.step1 A ⟨m.1,m.2.1⟩ G H r;have E:=D.whole h.bx (fun e=>m.2.2.1 (h.bc.symm.trans e));exact⟨E,t,FU.box (h.ag.trans C h.fq.size) K v (h.fq.cls h.ag D fun k M=>by simp[M]) ((C L (Array.getElem?_eq_some_iff.1 h.bx).1).trans h.bc) m.2.2 (F _ _ _ _ E)⟩
def FU.s2 {tn f g y z s B A C L x c w w2 p j D n i es q g2 d o}(h:FU tn f g y z s B A C L x c w p j D n es [q])(H:q.m=x)(l:f≠tn/\f≠g/\1≠tn/\1≠f/\1≠g)(K:∀(W:y7) a b u,W.heap[L]?=I (B a b)->(W.setCell ⟨L,i,J⟩ u).heap[L]?=I (B a u))(M:(w.alloc o).grownBy w2 j.ownBlock)(N:w2.ownsRow (L+1) 9 1 (V (I ⟨g2,0,J⟩) (es.length+1) d) (es.length+1) ((es.map fun e=>q0 e.m)++[U x]))(r:j.ownBlock=I g2\/w.heap.size<=g2):
  w2.heap[L]?=I (B p j)/\∃t,FU tn f g y z s B A C L x t (w2.setCell ⟨L,i,J⟩ (V (I ⟨g2,0,J⟩) (es.length+1) d)) p (V (I ⟨g2,0,J⟩) (es.length+1) d) D n (es++[q]) []:=by
 obtain⟨t,E,O,v,F⟩:=h.sh.step2 h.ls H ⟨l.1,l.2.1⟩ M N r;have G:=F.whole h.bx (fun e=>l.2.2.2.1 (h.bc.symm.trans e));exact⟨G,t,FU.box (h.ag.trans E h.fq.size) O (by rw[z9];exact v) (h.fq.cls h.ag F fun k P=>by simp[P]) ((E L (Array.getElem?_eq_some_iff.1 h.bx).1).trans h.bc) l.2.2 (K _ _ _ _ G)⟩
def FU.s3 {tn f b p d s B q r L x c w w2 t u n es g cap g2 a i}(h:FU tn f b p d s B q r L x c w t u (V g n cap) n es [])(l:b≠tn/\b≠f/\1≠b)(C:(F9 s x).length=s)(D:w.ownsRow (L+1) d s (V g n cap) n i)(E:∀k j v,k<n->(F9 s x)[j]?=I v->i[k*s+j]?=I v)(F:w2.ownsRow (L+1) d s (V (I ⟨g2,0,J⟩) (n+1) a) (n+1) (i++F9 s x))(m:(g=I ⟨g2,0,J⟩/\Fr (fun k=>k=g2) w w2)\/(w.heap.size<=g2/\F0 w w2)):
  ∃o,FU tn f b p d s B q r L x o w2 t u (V (I ⟨g2,0,J⟩) (n+1) a) (n+1) es []:=by
 obtain⟨_,_,_,G,y⟩:=h.ls;rw[z9]at y;obtain⟨o,z,H,K,A⟩:=h.sh.step3 D E G y ⟨l.1,l.2.1⟩ C F m;exact⟨o,h.ag.trans z h.fq.size,H,by rw[z9];exact K,h.fq.cls h.ag A fun k M=>by simp[M],A.whole h.bx (fun e=>l.2.2 (h.bc.symm.trans e)),(z L (Array.getElem?_eq_some_iff.1 h.bx).1).trans h.bc⟩
def Sn.taken {c f w g L v n o p r s i d u x Q}(h:Sn c w L v n o p r s i d u x)(j:US Q c w g)(l:Y7 w c f)(a:2∉Q/\0∉Q/\9∉Q/\10∉Q/\11∉Q):
  (g.ownsRow (L+1) 93 1 v d.length (d.map fun X=>q8 (I ⟨X,0,J⟩))/\Cl f v 2)/\∀X,X∈d->KQ f g X:=by
 have q:∀{k t:Nat},c k∈Q->t∉Q->c k≠t:=fun y a e=>a (e▸y)
 refine⟨Xn h.tv h.tc j l fun k b=>q b a.1,fun X m=>(h.tb X m).keep j l fun k b=>⟨q b a.2.1,q b a.2.2.2.1,q b a.2.2.2.2,fun e=>q b a.2.2.1 (e▸(h.tb X m).cx)⟩⟩
def ql (d:y7)(L:Nat)(a:Option Addr)(n b:Nat)(x:ByteArray)(i:Nat)(wr:y7):Prop:=
 ∃c,wr.ownsRow (L+1) 9 1 (V a n b) n c/\(∀k,k<i->c[k]?=I (U x))/\Fr (fun k=>(x6 a n b).ownBlock=I k) d wr
def ql.step {b wr L A n c x i}(h:ql b L (I ⟨A,0,J⟩) n c x i wr)(j:i<n):ql b L (I ⟨A,0,J⟩) n c x (i+1) (wr.setCell ⟨A,i,J⟩ (U x))/\(∃u,wr.cell? ⟨A,i,J⟩=I u)/\wr.frozen? ⟨A,i,J⟩=false:=by
 obtain⟨l,a,d,f⟩:=h;have m:=a.1;obtain⟨g,_⟩:=a.stored i (U x);refine⟨⟨_,g,fun k o=>?_,f.setCell (p:=⟨A,i,J⟩) (z8 rfl) _⟩,?_,a.frozenAt i⟩
 ·by_cases e:k=i
  ·subst e;rw[List.getElem?_set_self z]
  rw[List.getElem?_set_ne z];exact d k z
 rw[a.cellAt i z,gE z];exact⟨_,rfl⟩
def NJ (w:y7)(c:Nat->Nat)(d:y7)(L:Nat)(v e f g h i:j0)(a:Nat)(j:List Nat)(k l:List I9):Prop:=∃b,Y7 w c b/\Sn b d L v e f g h i a j k l
def Kc (c w L v bv nv ov mv kv s xs D fs la n c0 ys)(h:Sn c w L v bv nv ov mv kv s xs D fs)(hl:w.ownsRow (L+1) 9 1 (V la n c0) n ys)(k0:Cl c (V la n c0) 7)(l0:∀e,e∈D->∀k,k<e.n->∀g,e.a=I ⟨g,0,J⟩->(x6 la n c0).ownBlock≠I g)(hc:s<=4611686018427387904)(hE:(D.length+4)*24<=140737488355328)(hN:(n+4)*16<=140737488355328):
  x7 C 84 #[Z (I ⟨L,0,J⟩),V la n c0] w fun e w'=>e=F (.tuple #[])/\∃y z f,NJ w c w' L v bv y ov z kv (s+1) xs f fs/\f.length=D.length+4/\(∀e,e∈f->e∈D\/e.n<=8796093022208)/\US [1,3,4,7] c w w':=by
 obtain⟨ij,G,d0,e0,f0⟩:=info_parts Ut;have HS:=o h;have m0:=o (JZ w L v bv nv ov mv kv s h.bx hc);have HL:=o hl;have S:=o k0;have n0:=o l0;have HE:=o hE;have V0:n<=8796093022204:=az;have G0:=o hN;clear h hl k0 l0 hc hE hN;go_enter func84,ntmps84;go_wp2_with fail;refine m0.o.mono ?_;rintro e w1 ⟨⟨x,rfl⟩,a0,g0⟩;have o0:=o a0;have p0:=o g0;have r0:N (ql w1 L la n c0 x 0 w1):=⟨ys,oF HL.o g0 (fun k p=>az),fun k p=>az,Zo⟩;clear a0 g0 m0;go_wp2
 go_loopg [5] n (fun m kv wr=>∃i,i<=n/\m=n-i/\kv=E H (i:Nat)/\N (ql w1 L la n c0 x i wr))
 case atStart=>exact⟨0,x9 _,rfl,rfl,r0⟩
 obtain⟨i,hi,rfl,rfl,HM⟩:=hrel;by_cases H0:i<n
 ·have I0:=af i n;obtain⟨_,h1,_⟩:=HM.o;obtain⟨A,_,e,_⟩:=h1.form az;injection e with e _ e3;subst e e3;obtain⟨s0,⟨u,hu⟩,W0⟩:=HM.o.step H0;have J0:=o s0;clear s0 h1;go_wp2;go_roundg (n-(i+1))
  case measure=>omega
  exact⟨i+1,az,rfl,aE,J0⟩
 have I0:=ai i n;obtain rfl:i=n:=az
 have K0:N (FU 3 4 7 28 9 1 (fun a b=>Ha v bv a ov b kv (s+1)) c w L x c wr nv mv (V la i c0) i D []):=by
  obtain⟨zs,z1,z2,z3⟩:=HM.o;have K:=HS.o;have hF:=(p0.o.mono fun k p=>z8 p).trans (z3.mono fun k p=>x8 p);refine⟨Y7.refl _ _,K.n.keepL hF (Y7.refl _ _) (fun k p=>?_) (fun e he k p g eg=>?_),⟨zs,z1,fun k j u p hj=>?_,S.o,fun e he k p g e1 e2=>?_⟩,hF.mono fun k p=>?_,z3.whole o0.o fun e=>?_,K.bc⟩
  ·rcases p with e|e
   ·rw[e,K.bc];decide
   rw[S.o k e];decide
  ·rintro(e|e)
   ·obtain⟨g',k1,k2,_⟩:=K.n.el _ he k p;rw[k1]at eg;injection eg with eg;injection eg with eg;rw[eg,e,K.bc]at k2
    cases k2
   exact n0.o _ (by simpa using he) k p g eg e
  ·have G:=(iG.1 hj).1
   obtain rfl:j=0:=by simpa[F9]using G
   have:q0 x=u:=by simpa[F9]using hj
   rw[<-this,c9];exact z2 k p
  ·exact absurd e2 (n0.o e (by simpa using he) k p g e1)
  ·rcases p with e|e
   ·rw[e,K.bc];decide
   rw[S.o k e];decide
  have:=S.o L e;rw[K.bc]at this
  cases this
 clear HM r0 p0 o0;go_wp2
 go_loopg [1,6] 4 (fun m lv jv wr=>∃j c' f y z,j<=4/\m=4-j/\jv=E H (j:Nat)/\N (FU 3 4 7 28 9 1 (fun a b=>Ha v bv a ov b kv (s+1)) c w L x c' wr y z lv (i+j) f [])/\N (f.length=D.length+j/\∀e,e∈f->e∈D\/e.n<=8796093022208))
 case atStart=>exact⟨0,c,D,nv,mv,az,rfl,rfl,K0,⟨rfl,fun e he=>z8 he⟩⟩
 obtain⟨j,c',f,y,z,hj,rfl,rfl,HT,M⟩:=hrel;by_cases X0:j<4
 ·have L0:(j:Int)<4:=az;obtain⟨_,O,_⟩:=HT.o.ls;obtain⟨lb,T,el⟩:=oL O;subst el;have X:=HT.o.sh.nm;rw[z9]at X;obtain⟨na,nc,en⟩:=oL X;subst en;obtain⟨ma,mc,em⟩:=oL HT.o.sh.ma;subst em;have M0:=o X;have N0:(f.length+1)*24<=140737488355328:=ak HE.o M.o.1;obtain⟨q,hq⟩:=ad f.length;have HQ:=o hq
  have c2:wr.cell? ⟨L,2,J⟩=I (V na q nc):=by rw[<-hq];exact Zc HT.o.bx 2
  have Y0:L+1<=wr.heap.size:=(iA.1 HT.o.bx).1;have Z0:q<=5864062014805:=az;rw[hq]at N0;clear O X hq
  go_wp2_with (at_builtin;refine ao (L+1) LW underlying55 (V na q nc) q (f.map I9.val) ?h1 ⟨wr.heap.size,0,J⟩ [V lb (i+j) T] ?h2 ?_)
  case h1=>rw[<-HQ.o];exact M0.o.alloc _
  case h2=>exact z6 (aN wr _)
  intro g2 R0 w2 d l r _;rw[<-HQ.o]at d l r;obtain⟨h0,c1,t0⟩:=HT.o.s1 (i:=2) aB (fun W a b u hW=>by have e:=heap_setCell_same W L 2 _ _ u hW;simpa[Ha]using e) l d (r.imp id az);have d2:=Zc h0 2;have O0:=bF h0 2;rw[HQ.o]at d2;have P:=o t0;rw[HQ.o]at P;clear t0 d l r c2 h0;go_upto_region 9 with fail;generalize w2.setCell _ _=W3 at*;have c4:=Zc P.o.bx 4;have a1:L+1<=W3.heap.size:=(iA.1 P.o.bx).1;clear d2 O0
  go_wp2_with (at_builtin;refine ao (L+1) Ut underlying28 (V ma q mc) q (f.map fun e=>q0 e.m) ?k1 ⟨W3.heap.size,0,J⟩ [U x] ?k2 ?_)
  case k1=>have e:=P.o.sh.ma;rw[HQ.o]at e;exact e.alloc _
  case k2=>exact z6 (aN W3 _)
  intro g5 S0 w5 d l r _;rw[<-HQ.o]at d;obtain⟨i0,c5,v0⟩:=P.o.s2 (i:=4) rfl aB (fun W a b u hW=>by have e:=heap_setCell_same W L 4 _ _ u hW;simpa[Ha]using e) l d (r.imp id az);have d4:=Zc i0 4;have P0:=bF i0 4;have Q:=o v0;rw[HQ.o]at Q;clear v0 d l r c4 i0;go_upto_region 10 with fail;generalize w5.setCell _ _=W6 at*;have b1:L+1<=W6.heap.size:=(iA.1 Q.o.bx).1;obtain⟨w0,O,x0,_⟩:=Q.o.ls;have B:=o (j6 O x0);have T0:(i+j+1)*16<=140737488355328:=aj G0.o;have y0:N ((f++[(⟨lb,i+j,T,x⟩:I9)]).length=D.length+(j+1)/\∀e,e∈f++[(⟨lb,i+j,T,x⟩:I9)]->e∈D\/e.n<=8796093022208):=⟨by rw[v9,M.o.1];simp;omega,fun e he=>(j5.1 he).elim (M.o.2 e) (fun h=>by rw[j1.1 h];exact x8 (by show i+j<=_;omega))⟩;clear d4 P0 O x0;rcases B.o.1.2.symm with⟨g,_,_,el,_⟩|⟨el,hz⟩
  ·injection el with el _ Q0;subst el Q0
   go_wp2_with (at_builtin;refine TI rfl (.tmp 43) (.tmp 45) 28 rfl (L+1) 9 ij _ 1 16 underlying28 G d0 e0 f0 rfl g (i+j) T w0 rfl ?q1 ⟨W6.heap.size,0,J⟩ 1 1 [U x] rfl rfl ?q2 ?q3 ?q4 ?q5 ?q6 _ rfl ?_)
   case q1=>exact B.o.1.alloc _
   try case q2=>exact z6 (aN W6 _)
   case q3=>simp[y8]
   case q4=>unfold maxLen;omega
   try case q5=>omega
   case q6=>first|omega|(simp;omega)
   intro g8 z0 w8 d r
   obtain⟨c8,R⟩:=Q.o.s3 aB rfl B.o.1 B.o.2 d (by
    rcases r with⟨e,hg⟩|⟨e,hg⟩
    ·exact z8 ⟨by rw[e],(Zo.alloc _).grown hg fun k p=>z8 (by injection p with p;omega)⟩
    exact x8 ⟨az,(Zo.alloc _).grown hg fun k p=>by cases p⟩)
   have j0:=o R;clear R d r;go_wp2;go_roundg (4-(j+1))
   case measure=>omega
   exact⟨j+1,c8,_,_,_,az,rfl,aE,j0,y0⟩
  injection el with e1 e2 e3;subst e1 e3;clear e2 hz
  go_wp2_with (at_builtin;refine ao (L+1) Ut underlying28 (V J (i+j) 0) (i+j) w0 ?p1 ⟨W6.heap.size,0,J⟩ [U x] ?p2 ?_)
  case p1=>exact B.o.1.alloc _
  case p2=>exact z6 (aN W6 _)
  intro g8 z0 w8 d l r _
  have b0:((J:Option Addr)=I ⟨g8,0,J⟩/\Fr (fun k=>k=g8) W6 w8)\/(W6.heap.size<=g8/\F0 W6 w8):=by
   rcases r with e|e
   ·cases e
   exact x8 ⟨az,(Zo.alloc _).grown l fun k p=>by cases p⟩
  obtain⟨c8,R⟩:=Q.o.s3 (w2:=w8) aB rfl B.o.1 B.o.2 d b0;have j0:=o R;clear R d r l b0;go_wp2;go_roundg (4-(j+1))
  case measure=>omega
  exact⟨j+1,c8,_,_,_,az,rfl,aE,j0,y0⟩
 have L0:¬(j:Int)<4:=az;obtain rfl:j=4:=az
 have A0:N (∃y z f,NJ w c wr L v bv y ov z kv (s+1) xs f fs/\f.length=D.length+4/\(∀e,e∈f->e∈D\/e.n<=8796093022208)/\US [1,3,4,7] c w wr):=by
  have Y:=HT.o;have K:=HS.o;obtain⟨⟨t1,t2⟩,t3⟩:=K.taken Y.fq Y.ag aB
  have q:∀{k t:Nat},c k∈[1,3,4,7]->t∉[1,3,4,7]->c k≠t:=fun h1 h2 e=>h2 (e▸h1)
  exact⟨y,z,f,⟨c',Y.ag,Y.bx,Y.bc,t1,t2,K.few,t3,Y.sh,K.o.keep Y.fq Y.ag fun k p=>⟨q p aB,q p aB,q p aB⟩⟩,M.o.1,M.o.2,Y.fq⟩
 go_wp2
 go_end0
 exact⟨rfl,A0.o⟩
def KQ.kq {c d w f X Q}(h:KQ c w X)(g:US Q c w f)(i:Y7 w c d)(a:0∉Q/\9∉Q/\10∉Q/\11∉Q):KQ d f X:=by
 have q:∀{k t:Nat},c k∈Q->t∉Q->c k≠t:=fun j a e=>a (e▸j)
 exact h.keep g i fun k b=>⟨q b a.1,q b a.2.2.1,q b a.2.2.2,fun e=>q b a.2.1 (e▸h.cx)⟩
def Sn.more {c w f L X g a v p r s u x i b es z o}(h:Sn c w L v p r s u x i b es z)(C:KQ c w X)(D:(w.alloc o).grownBy f v.ownBlock)(E:f.ownsRow (L+1) 93 1 (V (I ⟨g,0,J⟩) (b.length+1) a) (b.length+1) ((b.map fun X=>q8 (I ⟨X,0,J⟩))++[Z (I ⟨X,0,J⟩)]))(y:v.ownBlock=I g\/w.heap.size<=g)(F:b.length<20):
  f.heap[L]?=I (Ha v p r s u x i)/\∃l,Y7 w c l/\Sn l (f.setCell ⟨L,0,J⟩ (V (I ⟨g,0,J⟩) (b.length+1) a)) L (V (I ⟨g,0,J⟩) (b.length+1) a) p r s u x i (b++[X]) es z/\US [1,2] c w (f.setCell ⟨L,0,J⟩ (V (I ⟨g,0,J⟩) (b.length+1) a)):=by
 obtain⟨l,j,G,A⟩:=RL h.tc D y;have B:=A.whole h.bx (fun e=>by rw[h.bc]at e;cases e);have m:US [1,2] c w (f.setCell ⟨L,0,J⟩ (V (I ⟨g,0,J⟩) (b.length+1) a)):=(A.mono fun k d=>by simp[d]).trans ((Vh _ 0).mono fun k d=>by subst d;simp[h.bc])
 have q:∀{k t:Nat},c k∈[1,2]->t∉[1,2]->c k≠t:=fun H K e=>K (e▸H)
 refine⟨B,l,j,⟨?_,(j L (iA.1 h.bx).1).trans h.bc,?_,Pb G,aF,fun Y M=>?_,h.n.keep m j fun k d=>⟨q d aB,q d aB,q d aB⟩,h.o.keep m j fun k d=>⟨q d aB,q d aB,q d aB⟩⟩,m⟩
 ·have e:=heap_setCell_same f L 0 _ _ (V (I ⟨g,0,J⟩) (b.length+1) a) B
  simpa[Ha]using e
 ·rw[lA,j9];exact oB E aA _
 exact((j5.1 M).elim (h.tb Y) fun e=>j1.1 e▸C).kq m j aB
def QC (c w L v bv nv ov mv kv x K es fs s)(h:Sn c w L v bv nv ov mv kv x K es fs):
  x7 C 25 #[Z (I ⟨L,0,J⟩),U s] w fun e w'=>e=F (G true)/\(∃v' y,NJ w c w' L v' bv nv ov mv kv x y es fs)/\US [1,2] c w w':=by
 have HL:=o h;obtain⟨ii,hi,f0,g0,h0⟩:=info_parts Sj;go_enter func25,ntmps25;go_wp2_with fail;refine(TG s w).mono ?_;intro e l M;have z:=o (IW s l)
 cases A:Xc s with
 |error f=>
  rw[A]at z;obtain⟨rfl,g⟩:=(SX.err A).1 M;have HF:N (F0 w l):=Fr.of_below g;obtain⟨f1,f2⟩:=f
  as_aux_lemma=>
  go_wp2_with fail;refine z.o.mono ?_;intro e b M;obtain⟨rfl,g⟩:=(Vq.err rfl).1 M;have a:=o (HF.o.trans g);go_wp2;go_ret;exact⟨rfl,⟨v,K,c,Y7.refl _ _,HL.o.keep a.o (Y7.refl _ _)⟩,a.o.mono⟩
 |ok p=>
  rw[A]at z;have i0:=o (Bc.mk (QK A) (Ft A) (FO A));obtain⟨⟨T,O,P,Q,vl,ys,rfl,j0,k0,R,l0,m0,n0⟩,g⟩:=(SX.ok A).1 M;have HF:N (F0 w l):=Fr.of_below g;have j:N (w.heap.size<=T/\l.cell? ⟨T,0,J⟩=I (Z (I ⟨O,0,J⟩))/\w.heap.size<=O/\Bk l O Q vl p.1 p.2 ys):=⟨j0,k0,l0,m0⟩;have B:N (l.cell? ⟨T,1,J⟩=I (Z (I ⟨P,0,J⟩))/\Wl w.heap.size l P Q p.2 (Zz (Zu p.2) p.2.length)):=⟨R,n0⟩
  as_aux_lemma=>
  go_wp2_with fail;refine z.o.mono ?_;intro e b M;obtain⟨⟨q,W,rfl,hq⟩,g⟩:=(Vq.ok rfl).1 M;have a:=o (HF.o.trans g);have HQ:=o (hq.less HF.o.size);have r:N (b.cell? ⟨T,0,J⟩=I (Z (I ⟨O,0,J⟩))/\Bk b O Q vl p.1 p.2 ys):=⟨(g.cell (p:=⟨T,0,J⟩) (bL l _ j.o.2.1)).trans j.o.2.1,j.o.2.2.2.fr g⟩;have t:N (b.cell? ⟨T,1,J⟩=I (Z (I ⟨P,0,J⟩))/\Wl w.heap.size b P Q p.2 (Zz (Zu p.2) p.2.length)):=⟨(g.cell (p:=⟨T,1,J⟩) (bL l _ B.o.1)).trans B.o.1,B.o.2.fr g⟩;have d:=o (HL.o.keep a.o (Y7.refl _ _));obtain⟨va,vc,hv⟩:=oL d.o.tv;subst hv;have c0:=Zc d.o.bx 0;have fz:=bF d.o.bx;obtain⟨n,hn⟩:=ad K.length;have z:=o hn;rw[hn]at c0 d;have v0:n<=20:=aj d.o.few;have o0:=o ((iA.1 HL.o.bx).1);by_cases p0:n<20
  ·have Y:(n:Int)<20:=az;have x0:L+1<=b.heap.size:=ak o0.o a.o.size
   as_aux_lemma=>
   go_wp2_with (at_builtin;refine ao (L+1) Sj underlying53 (V va n vc) n (K.map fun X=>q8 (I ⟨X,0,J⟩)) ?h1 ⟨b.heap.size+1,0,J⟩ [Z (I ⟨b.heap.size,0,J⟩)] ?h2 ?_)
   case h1=>have e:=d.o.tv;rw[z.o]at e;exact(e.alloc _).alloc _
   case h2=>exact z6 (by have e:=aN (b.alloc (y6 #[Z (I ⟨T,0,J⟩),Z (I ⟨q,0,J⟩),G false,G false,V J 0 0,V J 0 0] 97)) (y6 #[Z (I ⟨b.heap.size,0,J⟩)] 93);simpa using e)
   intro g2 u w8 a0 D q0 _;generalize E:b.alloc _=W3 at*;have m:=DG (S:=fun _=>False) E;have hX:=zM E
   have H:Y7 w c fun k=>if k=b.heap.size then 9 else if w.heap.size<=k then 0 else c k:=fun k hk=>by
    have:=a.o.size
    dsimp only
    rw[if_neg az,if_neg az]
   have w0:Y7 W3 (fun k=>if k=b.heap.size then 9 else if w.heap.size<=k then 0 else c k) (fun k=>if k=b.heap.size then 9 else if w.heap.size<=k then 0 else c k):=Y7.refl _ _;have r0:=HL.o.keep (a.o.trans m) H
   have b0:KQ (fun k=>if k=b.heap.size then 9 else if w.heap.size<=k then 0 else c k) W3 b.heap.size:=by
    have hz:wT (fun k=>if k=b.heap.size then 9 else if w.heap.size<=k then 0 else c k) W3 w.heap.size b:=⟨m.mono,fun k h1 h2=>by dsimp only;rw[if_neg az,if_pos h1]⟩;exact⟨b,w.heap.size,q,b,w.heap.size,T,p.1,p.2,false,false,V J 0 0,V J 0 0,⟨W,HQ.o⟩,⟨O,P,j.o.1,r.o.1,t.o.1,j.o.2.2.1,Q,vl,ys,r.o.2,t.o.2⟩,i0.o,hz,hz,if_pos rfl,hX,rfl,z8 rfl⟩
   have hn:=z.o;subst hn;obtain⟨e1,c',s0,d0,t0⟩:=r0.more b0 D a0 (q0.imp id fun h=>by have:=qA E;first|omega|(rw[h];simp)) p0;have c0:=Zc e1 0;have fz:=bF e1;have e0:N ((∃v' y,NJ w c (w8.setCell ⟨L,0,J⟩ (V (I ⟨g2,0,J⟩) (K.length+1) u)) L v' bv nv ov mv kv x y es fs)/\US [1,2] c w (w8.setCell ⟨L,0,J⟩ (V (I ⟨g2,0,J⟩) (K.length+1) u))):=⟨⟨_,_,c',H.trans s0 (a.o.trans m).size,d0⟩,US.cls ((a.o.trans m).mono) H t0 fun i hi=>hi⟩;go_wp2;go_ret;exact⟨rfl,e0.o⟩
  have Y:¬(n:Int)<20:=az
  as_aux_lemma=>
  go_wp2;go_ret;exact⟨rfl,⟨_,_,c,Y7.refl _ _,d.o⟩,a.o.mono⟩
def D0 (w:y7)(T:Nat)(a:List Zf)(R:List Ze):Bool->Prop
 |true=>KH w T (RH (Yi a R))
 |false=>zq w T a R
section
variable {w W:y7} {a T q:Nat} {rts:List Zf} {R:List Ze} {lo:Bool}
def FT.tq (h:FT w a T rts R lo)(c:Bc rts R):D0 w T rts R lo:=by
 obtain⟨i,j,_,k,l,_,m⟩:=h
 cases lo with
 |true=>
  obtain⟨b,n,d,f,g,_,_⟩:=m;exact⟨⟨i,k,b⟩,j,n,d,f,l,g.1⟩
 |false=>
  obtain⟨q,o,p,b,g⟩:=m;obtain⟨d,f,e⟩:=oL b.ro;subst e;exact⟨⟨a,j,d,f,l,g,oS b.ro (x9 _),c.bk⟩,⟨i,_,o,p,k,b⟩,c.bk,c.ar⟩
def D0.fr (h:D0 w T rts R lo)(a:F0 w W):D0 W T rts R lo:=by
 cases lo<;>exact h.fr a
def Pc (a:List Zf)(R:List Ze):ByteArray:=⟨(Wy (XK (Yi a R))).toArray⟩
def Bc.load (h:Bc rts R):TE (Pc rts R).data.toList=I (RH (Yi rts R)):=by
 obtain⟨a,b⟩:=NZ h.bk h.ar h.im;exact DA a z
def D0.overlaps (h:D0 w T rts R lo)(b:QL w):x7 C 20 #[Z (I ⟨T,0,J⟩)] w fun e a=>(∃v,e=F v/\a.ownsRow w.heap.size 44 6 v (Sl (KO lo R)).length (XO (Sl (KO lo R))))/\F0 w a:=by
 cases lo with
 |true=>exact(LM w T h.1).mono fun e a ⟨c,d⟩=>⟨⟨_,c,oZ _ _ _ _⟩,d▸Zo⟩
 |false=>exact KM w T rts R h b
def D0.dead (h:D0 w T rts R lo):x7 C 89 #[Z (I ⟨T,0,J⟩)] w fun e a=>(∃v,e=F v/\a.ownsRow w.heap.size 9 1 v (KL (KO lo R)).length (SY (KL (KO lo R))))/\F0 w a:=by
 cases lo with
 |true=>exact(Dx w T h.1).mono fun e a ⟨b,c⟩=>⟨⟨_,b,oZ _ _ _ _⟩,c▸Zo⟩
 |false=>exact(zr w T rts R h).mono fun e a ⟨⟨v,b,c,_⟩,d⟩=>⟨⟨v,b,c⟩,d⟩
def D0.text (h:D0 w T rts R lo)(a:QL w):x7 C 17 #[Z (I ⟨T,0,J⟩)] w fun e b=>e=F (U (ZS (if lo then[]else VN rts R)))/\F0 w b:=by
 cases lo with
 |true=>exact Dz w T h.1
 |false=>
  obtain⟨_,⟨c,d,f,g,i,j⟩,k,_⟩:=h;exact ze w T c d f rts R g i j k a
def D0.decide (h:D0 w T rts R lo)(d:Bc rts R)(b c l)(a:ZX w b l)(f:l.length<=maxLen)(p)(g:p.pan.size<=maxLen):
  x7 C 19 #[Z (I ⟨T,0,J⟩),X4 p,V b l.length c] w fun e w'=>e=F (Rc (UF rts R p (UX rts l)))/\F0 w w':=by
 cases lo with
 |true=>exact KH.same h (IU d.load) d.bk b c l a f p g
 |false=>exact KI.decide h.1 b c l a f p g
def D0.image (h:D0 w T rts R lo)(a:Bc rts R)(b:OG w):x7 C 23 #[Z (I ⟨T,0,J⟩)] w fun e d=>e=F (U (Pc rts R))/\F0 w d:=by
 obtain⟨c,f⟩:=NZ a.bk a.ar a.im
 cases lo with
 |true=>
  have e:=JH w T _ (KH.ti h) (uF c (IU a.load)) (by rw[JU];omega) b;rw[JU]at e;exact e
 |false=>exact JH w T _ (KI.ti h.1) c z b
end
def KQ.now {c w X}(h:KQ c w X):∃T q i R o e l m,Bc i R/\w.heap[X]?=I (y6 #[Z (I ⟨T,0,J⟩),Z (I ⟨q,0,J⟩),G o,G e,l,m] 97)/\c X=9/\JY c w (KO o R) e l m/\(∀W,Fr (fun k=>k=X) w W->D0 W T i R o/\∃a j,Xu W a q j i R)/\
  (∀W n d f g,Fr (fun k=>k=X) w W->Y7 w c n->W.heap[X]?=I (y6 #[Z (I ⟨T,0,J⟩),Z (I ⟨q,0,J⟩),G o,G d,f,g] 97)->JY n W (KO o R) d f g->KQ n W X)/\
  ∀W n t b Y u,F0 w W->Y7 w c n->FT t b u i R true->wT n W b t->n Y=9->W.heap[Y]?=I (y6 #[Z (I ⟨u,0,J⟩),Z (I ⟨q,0,J⟩),G true,G false,V J 0 0,V J 0 0] 97)->KQ n W Y:=by
 obtain⟨B,a,q,t,b,T,i,R,o,e,l,m,⟨j,y⟩,C,v,z,D,A,E,F⟩:=h
 have x:∀k,k=X->c k≠0:=fun k r=>by rw[r,A];decide
 refine⟨T,q,i,R,o,e,l,m,v,E,A,F,fun W p=>?_,fun W n d f g p s H K=>⟨B,a,q,t,b,T,i,R,o,d,f,g,⟨j,y⟩,C,v,z.keep p s x,D.keep p s x,(s X (iA.1 E).1).trans A,H,K⟩,fun W n L M Y u p s g1 g2 g3 N=>⟨B,a,q,L,M,u,i,R,true,false,V J 0 0,V J 0 0,⟨j,y⟩,g1,v,z.keep p s aA,g2,g3,N,rfl,z8 rfl⟩⟩;exact⟨(C.fr (D.keep p (Y7.refl _ _) x).1 fun k r=>r).tq v,a,j,y.frS (z.keep p (Y7.refl _ _) x).1 fun k r=>r⟩
def KQ.both {c w W X}(h:KQ c w X)(p)(o:p.pan.size<=maxLen)(j:F0 w W):∃T q,∃g:List ByteArray->Nat×ByteArray×ByteArray,
  W.cell? ⟨X,0,J⟩=I (Z (I ⟨T,0,J⟩))/\W.cell? ⟨X,1,J⟩=I (Z (I ⟨q,0,J⟩))/\
  (∀a b c l,F0 W a->ZX a b l->l.length<=maxLen->x7 C 19 #[Z (I ⟨T,0,J⟩),X4 p,V b l.length c] a fun e k=>e=F (Rc (g l))/\F0 a k)/\
  (∀a b c l,F0 W a->ZX a b l->l.length<=maxLen->x7 C 56 #[Z (I ⟨q,0,J⟩),X4 p,V b l.length c] a fun e k=>e=F (Rc (g l))/\F0 a k):=by
 obtain⟨T,q,d,R,_,_,_,_,r,s,_,_,t,_⟩:=h.now;obtain⟨u,_,_,v⟩:=t w Zo;have i:=j.whole s;exact⟨T,q,fun l=>UF d R p (UX d l),Zc i 0,Zc i 1,fun a b c l m f n=>(u.fr (j.trans m)).decide r b c l f n p o,fun a b c l m f n=>Nl a q d R b c l p ((TV.of v).fr (j.trans m)) r.bk o f n⟩
def Sn.tells {c g w W L X v j l m p r b s u x}(h:Sn c w L v j l m p r b s u x)(y:c X=9)(d:Fr (fun k=>k=X) w W)(f:Y7 w c g)(z:KQ g W X):Sn g W L v j l m p r b s u x:=by
 have q:∀{k t:Nat},k=X->t≠9->c k≠t:=fun e i A=>i (by rw[<-A,e,y])
 obtain⟨B,i⟩:=Xn h.tv h.tc d f fun k a=>q a aB
 refine⟨d.whole h.bx fun e=>q e aB h.bc,(f L (iA.1 h.bx).1).trans h.bc,B,i,h.few,fun Y C=>?_,h.n.keep d f fun k a=>⟨q a aB,q a aB,q a aB⟩,h.o.keep d f fun k a=>⟨q a aB,q a aB,q a aB⟩⟩;by_cases e:Y=X
 ·rw[e];exact z
 exact(h.tb Y C).keep d f fun k a=>⟨q a aB,q a aB,q a aB,fun D=>e (D.symm.trans a)⟩
open Go.Maps Go.WideMaps
structure D2 (c:Nat->Nat)(w:y7)(t B X M TT n:Nat)(D:DataW Unit)(q:Nat)(dv:j0)(l:List ByteArray)(rts:List Zf)(R:List Ze):Prop where
 bx:w.heap[B]?=I (.cells #[.pointer (I ⟨X,0,J⟩),.pointer (I ⟨q,0,J⟩),dv] 73)
 bc:c B=t
 sw:OQ w X M TT n D
 xc:c X=t+1
 mc:c M=t+2
 ru:∃w0 a body,Xu w0 a q body rts R/\wT c w a w0
 bk:Bc rts R
 tr:∃w1 b T,RJ b w1 TT T/\rq T rts R/\wT c w b w1
 dw:zN c w (t+3) 9 1 dv l.length (l.map q0)
 dl:DX D l
def D2.keep {c u w w' t B X M v n D q x l f R S}(h:D2 c w t B X M v n D q x l f R)(g:Fr S w w')(d:Y7 w c u)(e:∀k,S k->c k≠0/\c k≠t/\c k≠t+1/\c k≠t+2/\c k≠t+3):D2 u w' t B X M v n D q x l f R:=by
 obtain⟨y,z,A,C,E,⟨G,a,i,H,I⟩,J,⟨K,b,T,L,m,o⟩,p,r⟩:=h;have F:=A.lt;exact⟨g.whole y fun s=>(e B s).2.1 z,(d B (iA.1 y).1).trans z,A.fr g (fun s=>(e X s).2.2.1 C) (fun s=>(e M s).2.2.2.1 E),(d X F.1).trans C,(d M F.2).trans E,⟨G,a,i,H,I.keep g d fun k j=>(e k j).1⟩,J,⟨K,b,T,L,m,o.keep g d fun k j=>(e k j).1⟩,p.keep g d fun k j=>(e k j).2.2.2.2,r⟩
def D2.rf {c w t B X M f n D q i l d R}(h:D2 c w t B X M f n D q i l d R):TV w q d R/\∃b T,RJ b w f T/\rq T d R:=by
 obtain⟨s,a,g,j,m⟩:=h.ru;obtain⟨u,b,T,o,p,r⟩:=h.tr;exact⟨TV.of (j.frS m.1 fun k e=>e),b,T,o.fr r.1 fun k e=>e,p⟩
def zN.strs {c w t a i l}(h:zN c w t 9 1 (V a l.length i) l.length (l.map q0)):ZX w a l:=fun k s d=>by
 obtain⟨b,f⟩:=h.2;have j:=(iG.1 d).1;obtain⟨g,_,e,_⟩:=f.form z;injection e with e;subst e;refine⟨g,0,rfl,?_⟩;rw[k0,f.cellAt k z,y9,d];rfl
def D2.strs {c w t B X M i n D q g l d R}(h:D2 c w t B X M i n D q g l d R):∃a f,g=V a l.length f/\ZX w a l:=by
 obtain⟨b,j⟩:=h.dw.2;obtain⟨a,f,e⟩:=oL j;subst e;exact⟨a,f,rfl,h.dw.strs⟩
def I5 (c:Nat->Nat)(w:y7)(t B m:Nat):Prop:=∃X M b n D q d l a R,D2 c w t B X M b n D q d l a R/\n<=m/\l.length<=m
def tH (w:y7)(c:Nat->Nat)(b:y7)(t B m:Nat):Prop:=∃a,Y7 w c a/\I5 a b t B m
def I5.keep {c b w w' t B m S}(h:I5 c w t B m)(d:Fr S w w')(e:Y7 w c b)(f:∀k,S k->c k≠0/\c k≠t/\c k≠t+1/\c k≠t+2/\c k≠t+3):I5 b w' t B m:=by
 obtain⟨X,M,g,n,D,q,i,l,a,R,j,o⟩:=h;exact⟨X,M,g,n,D,q,i,l,a,R,j.keep d e f,o⟩
def uI (w:y7)(c:Nat->Nat)(k:Nat):Nat:=if w.heap.size<=k then 0 else c k
def To (w c):Y7 w c (uI w c):=fun k a=>if_neg z
def D3 (c w L v bv nv ov mv kv y M es fs X)(h:Sn c w L v bv nv ov mv kv y M es fs)(hX:X∈M)(a:OG w):
  x7 C 49 #[Z (I ⟨L,0,J⟩),Z (I ⟨X,0,J⟩)] w fun e w'=>e=F (G true)/\(∃v' z,NJ w c w' L v' bv nv ov mv kv y z es fs)/\US [1,2] c w w':=by
 obtain⟨ii,hi,l0,m0,n0⟩:=info_parts Sj;obtain⟨T,q,l,R,lo,o0,G0,H0,m,hx,J0,_,p0,_,P⟩:=(h.tb X hX).now;have O:=Za h;have HB:=Za m;have HX:=Za hx;have q0:=Za P;have r0:=Za hX
 have s0:N (X≠L):=fun e=>by have x:=(h.tb X hX).cx;rw[e,h.bc]at x;cases x
 have HH:=Za a
 have HI:N (∀W,F0 w W->x7 C 23 #[Z (I ⟨T,0,J⟩)] W fun e w'=>e=F (U (Pc l R))/\F0 W w'):=fun W hf=>(p0 W (hf.mono)).1.image m (a.fr hf)
 have t0:=Za m.load
 have K0:(Pc l R).size<=200000:=by
  have e:(Pc l R).size=(Wy (XK (Yi l R))).length:=by simp[Pc,ByteArray.size]
  have:=(NZ m.bk m.ar m.im).2;rw[e,OL];omega
 have x0:=Zc hx 0;go_enter func49,ntmps49;go_wp2_with fail;refine(HI.o w Zo).mono ?_;rintro e w1 ⟨rfl,Q⟩;have x0:=bC (Q.whole HX.o) 0 _ rfl;have Y:=Za Q;go_wp2_with fail;refine(HI.o w1 Y.o).mono ?_;rintro e w2 ⟨rfl,v0⟩;have A:=Za (Y.o.trans v0);go_wp2_with fail;refine(LK (Pc l R) w2 az (HH.o.fr A.o)).mono ?_;intro e w3 hT;rw[t0.o]at hT;obtain⟨⟨T',Bb,zb,TT,ra,rc,rfl,l1,l2,l3,l4,l5,l6,l7,l8⟩,w0⟩:=hT;have a0:N (FT w3 w2.heap.size T' l R true):=⟨Bb,TT,l7,l1,l2,l8,l3,zb,ra,rc,l4,l5,az⟩;have b0:=Za (A.o.trans w0);have HI:=Za ((a0.o.tq HB.o).image HB.o (HH.o.fr b0.o));generalize Pc l R=S at*;have L0:=ai 200000 S.size;go_wp2_with fail;refine HI.o.mono ?_;rintro e j ⟨rfl,f0⟩;have g:=Za (b0.o.trans f0);have g0:=Za f0;obtain⟨va,vc,hv⟩:=oL O.o.tv;subst hv;have B:=Za (O.o.keep g.o.drew (Y7.refl _ _));have c0:=bC (g.o.whole O.o.bx) 0 _ rfl;have x1:=bC (g.o.whole HX.o) 1 _ rfl;obtain⟨n,hn⟩:=ad M.length;have HN:=Za hn;rw[hn]at c0 B;have I0:n<=20:=aj B.o.few;have M0:=(iA.1 O.o.bx).1;have N0:L+1<=j.heap.size:=aj g.o.size;by_cases y0:n<20
 ·have h0:(n:Int)<20:=az
  have z0:N (∀g2 b s,((j.drew.alloc (y6 #[Z (I ⟨T',0,J⟩),Z (I ⟨q,0,J⟩),G true,G false,V J 0 0,V J 0 0] 97)).alloc (y6 #[Z (I ⟨j.heap.size,0,J⟩)] 93)).grownBy s (x6 va n vc).ownBlock->s.ownsRow (L+1) 93 1 (V (I ⟨g2,0,J⟩) (n+1) b) (n+1) ((M.map fun X=>q8 (I ⟨X,0,J⟩))++[Z (I ⟨j.heap.size,0,J⟩)])->((x6 va n vc).ownBlock=I g2\/j.heap.size+1<=g2)->
    s.cell? ⟨L,0,J⟩=I (V va n vc)/\s.cell? ⟨X,1,J⟩=I (Z (I ⟨q,0,J⟩))/\(∀o,s.frozen? ⟨L,o,J⟩=false)/\N ((∃v' z,NJ w c (s.setCell ⟨L,0,J⟩ (V (I ⟨g2,0,J⟩) (n+1) b)) L v' bv nv ov mv kv y z es fs)/\US [1,2] c w (s.setCell ⟨L,0,J⟩ (V (I ⟨g2,0,J⟩) (n+1) b)))):=by
   intro g2 b s f p t;have hn:=HN.o;subst hn;obtain⟨i0,A0⟩:=Kk j.drew (y6 #[Z (I ⟨T',0,J⟩),Z (I ⟨q,0,J⟩),G true,G false,V J 0 0,V J 0 0] 97);have r:=g.o.drew.trans i0
   have u:Y7 w c fun k=>if k=j.heap.size then 9 else if w.heap.size<=k then 0 else c k:=fun k hk=>by
    have:=g.o.size
    dsimp only
    rw[if_neg az,if_neg az]
   have hT:=q0.o _ _ w3 w2.heap.size j.heap.size T' r u a0.o ⟨(g0.o.drew.trans i0).mono,fun k h1 h2=>by
    have:=A.o.size;have:=g0.o.size
    dsimp only
    rw[if_neg az,if_pos az]⟩ (if_pos rfl) A0
   have D:=O.o.keep r u;obtain⟨x,c',B0,j0,C0⟩:=D.more hT f p (t.imp id fun h=>by simpa using h) y0;have e2:=(RL D.tc f (t.imp id fun h=>by simpa using h));obtain⟨_,_,_,D0⟩:=e2
   refine⟨Zc x 0,bC (D0.whole (r.whole HX.o) (fun e=>by
    have:=D.tb X r0.o;rw[this.cx]at e
    cases e)) 1 _ rfl,bF x,⟨_,_,c',u.trans B0 r.size,j0⟩,US.cls (r.mono) u C0 fun i hi=>hi⟩
  have E0:N (j.drew.ownsRow (L+1) 93 1 (V va n vc) n (M.map fun X=>q8 (I ⟨X,0,J⟩))):=by have e:=B.o.tv;rw[HN.o]at e;exact e
  go_upto_region 8 with fail
  have d0:=fun o=>(Kk j o).1.get c0
  have d1:=fun o o'=>(Hc j o o').1.get c0
  have E:=fun o=>(Kk j o).1.get x1
  have y2:=fun o o'=>(Hc j o o').1.get x1
  refine wp_region_held_drew (S:=fun W=>W.cell? ⟨X,1,J⟩=I (Z (I ⟨q,0,J⟩))) aC x1 (fun a=>?_)
  iterate 4 (refine Yy 0 a ?_;try go_frame)
  iterate 4 (refine Yy 1 a ?_;try go_frame)
  refine XA [4,9] ?_;refine Zb rfl (fun K d=>?_) (Zb rfl (fun K d=>?_) j3)
  all_goals
   rw[if_pos aD];go_simp;refine d.out _ _ (by first|exact a|exact E _|exact y2 _ _) (fun a=>?_)
   try go_frame
  focus
   refine WI 9 (fun K d=>?_);go_simp;refine d.out _ _ (by first|exact a|exact E _|exact y2 _ _) (fun a=>?_)
   try go_frame
  all_goals
   refine ZJ 10 a ?_
   try go_frame
  rotate_left
  focus
   refine XA [4,11] ?_;refine Zb rfl (fun K d=>?_) (Zb rfl (fun K d=>?_) j3)
   all_goals
    rw[if_pos aD];go_simp;refine d.out _ _ (by first|exact a|exact E _|exact y2 _ _) (fun a=>?_)
    try go_frame
  rotate_left
  focus
   refine XA [4,12] ?_;refine Zb rfl (fun K d=>?_) (Zb rfl (fun K d=>?_) j3)
   all_goals
    rw[if_pos aD];go_simp;refine d.out _ _ (by first|exact a|exact E _|exact y2 _ _) (fun a=>?_)
    try go_frame
  rotate_left 2
  iterate 2
   focus
    refine WI 11 (fun K d=>?_);go_simp;refine d.out _ _ (by first|exact a|exact E _|exact y2 _ _) (fun a=>?_)
    try go_frame
   rotate_left
  rotate_left
  focus
   refine WI 4 (fun K d=>?_);go_simp;refine d.out _ _ (by first|exact a|exact E _|exact y2 _ _) (fun a=>?_)
   try go_frame
  rotate_left
  iterate 3
   focus
    refine WI 12 (fun K d=>?_);go_simp;refine d.out _ _ (by first|exact a|exact E _|exact y2 _ _) (fun a=>?_)
    try go_frame
   rotate_left
  all_goals
   refine XA [13] ?_;refine Zb rfl (fun K d=>?_) j3;refine step_append_lies _ rfl (.tmp 53) (.tmp 61) 53 rfl (L+1) 93 ii _ 1 8 underlying53 hi l0 m0 n0 rfl aB (V va n vc) n (M.map fun X=>q8 (I ⟨X,0,J⟩)) rfl (by exact(E0.o.alloc _).alloc _) ⟨j.heap.size+1,0,J⟩ 1 1 [Z (I ⟨j.heap.size,0,J⟩)] rfl rfl (by exact z6 (Hc j _ _).2.2) (by simp[y8]) aB aM az aF _ rfl (fun g2 b s p f t _=>?_);obtain⟨e0,x,fz,k0⟩:=z0.o g2 b s f p (t.imp id fun h=>by first|omega|(rw[h];simp));refine d.out _ _ x (fun a=>?_)
   try go_frame
   refine ZJ 14 a ?_
   try go_frame
   refine ZJ 15 a ?_
   try go_frame
   refine WI 16 (fun K d=>?_);go_simp;refine d.out _ _ (by rw[cO _ _ _ _ (by intro e;injection e with e;exact s0.o e.symm)];exact x) (fun _=>?_)
   try go_frame
   refine wpAnyH_done aC ?_ _;go_wp2;go_ret;exact⟨aA,k0.o⟩
 have h0:¬(n:Int)<20:=az;go_wp2;go_ret;exact⟨aA,⟨_,_,c,Y7.refl _ _,O.o.keep g.o (Y7.refl _ _)⟩,g.o.mono⟩
def FV (R:List Ze)(a:Nat):∀d,∃t,W7 R (a+d)=W7 R a++t
 |0=>⟨[],y⟩
 |d+1=>by
  obtain⟨t,h⟩:=FV R a d;refine⟨t++(match R[a+d]? with|some r=>if Qd R (a+d)then[]else[r.name]|none=>[]),?_⟩
  show W7 R (a+d)++(match R[a+d]? with|some r=>if Qd R (a+d)then[]else[r.name]|none=>[])=_
  rw[h,j2]
def Kd {R i r}(a:R[i]?=I r):W7 R (i+1)=W7 R i++(if Qd R i then[]else[r.name]):=by
 show W7 R i++_=_
 rw[a]
def wU {R i r}(a:R[i]?=I r)(b:Qd R i=false):(KL R)[(W7 R i).length]?=I r.name:=by
 obtain⟨t,e⟩:=FV R (i+1) (R.length-(i+1));rw[show i+1+(R.length-(i+1))=R.length from aj (iG.1 a).1,Kd a,b]at e;unfold KL;rw[e,j2,aR (j4 _),b7];rfl
def Be {R i}(a:i<R.length):(KP R)[i]?=I (G (!Qd R i)):=by
 unfold KP;rw[y9,List.getElem?_range a];rfl
def F5.ded {w W D a R}(h:F5 w W D R.length fun k b=>b=false↔∃p,YD p=true/\Q4 R p=I k)(l:Yh a R)(m:∀r,r∈R->Tt r):W.ownsRow w.heap.size 4 1 (V (I ⟨D,0,J⟩) R.length R.length) R.length (KP R)/\F0 w W:=by
 obtain⟨d,f,n,o⟩:=h
 have t:d.length=R.length:=by rw[f.1,c9]
 have e:d=KP R:=List.ext_getElem? fun i=>by
  by_cases c:i<R.length
  ·obtain⟨b,q,g⟩:=n i c;have j:=uH l m (gE c);rw[q,Be c]
   cases b with
   |false=>rw[j.2 (g.1 rfl)];rfl
   |true=>
    cases s:Qd R i with
    |false=>rfl
    |true=>have:=g.2 (j.1 s);cases this
  rw[v6 z,v6 (by simp[KP];omega)]
 rw[<-e];exact⟨f,o⟩
def FW (c w L v bv nv ov mv kv j xs x fs X)(h:Sn c w L v bv nv ov mv kv j xs x fs)(hX:X∈xs)(hc:j<=4611686018427387904)(hE:(x.length+4)*24<=140737488355328):
  x7 C 48 #[Z (I ⟨L,0,J⟩),Z (I ⟨X,0,J⟩)] w fun e w'=>e=F (G true)/\(∃y A l,NJ w c w' L v bv y ov A kv (j+1) xs l fs/\l.length=x.length+4/\∀e,e∈l->e∈x\/e.n<=8796093022208)/\US [1,3,4,7,9,11] c w w':=by
 obtain⟨T,q,p0,R0,lo,p,B,q0,r0,hx,J0,K,s0,c0,_⟩:=(h.tb X hX).now;obtain⟨R,hR⟩:=ad (KO lo R0)
 have b1:R.length<=8:=by rw[<-hR];have:=r0.bk.l8;cases lo<;>simp[KO];omega
 have HR:=o hR;rw[hR]at K c0;have HS:=o h;have t0:=o s0;have M:=o r0;have HX:=o hx;have v0:=o J0;have d0:=o K;have K0:=o c0;have w0:=o (j6 hc hE);have e0:=o (s0 w Zo).1.dead;rw[hR]at e0;have x0:=Zc hx 0;obtain⟨O,f0⟩:=ad (KL R).length;have y0:=o f0;obtain⟨n,hn⟩:=ad R.length;have u:=o hn;have f1:n<=8:=az
 have a1:O<=8:=by have:=L0 R R.length;unfold KL at f0;omega
 rw[f0]at e0;go_enter func48,ntmps48;go_wp2_with fail;refine e0.o.mono ?_;rintro e s ⟨⟨lv,rfl,P⟩,z0⟩;obtain⟨oa,oc,e⟩:=oL P;subst e;have g0:=o P;have f:=o z0
 have M0:N (∃c1,Y7 w c c1/\Cl c1 (V oa O oc) 7/\Sn c1 s L v bv nv ov mv kv j xs x fs):=by
  have ha:Y7 w c fun k=>if(x6 oa O oc).ownBlock=I k then 7 else c k:=fun k m=>if_neg fun e=>aj (P.lt k e).1
  exact⟨_,ha,fun k m=>if_pos m,HS.o.keep z0 ha⟩
 obtain⟨c1,Q⟩:=M0.o;have HC:=o Q
 have g1:∀(w:y7)(a:Option Addr)(n c:Nat),(binOp .eql 95 (V a n c) (V J 0 0)).run C w=.ok (G a.isNone) w:=fun w a n c=>Go.Lib.run_eql_slice_nil w _ _ a n c 0 0 underlying95
 obtain⟨da,dl,dc,N0⟩:∃da dl dc,q0=V da dl dc:=d0.o.2.elim (fun e=>⟨_,_,_,e⟩) fun⟨D,e,_⟩=>⟨_,_,_,e⟩
 subst N0;have Y:=f.o.whole HX.o;have b0:=o Y;have x5:=Zc Y 5;have x2:=Zc Y 2;go_upto_region 3 with fail
 go_cut [25] (fun bv wz=>bv=G (da.isNone&&!lo)/\wz=s)
 case first=>
  rcases da with _|z<;>rcases lo with _|_
  all_goals
   go_wp2;go_meet;exact⟨rfl,rfl⟩
 case rest=>
 obtain⟨rfl,hw⟩:=hcut;replace hw:=hw.symm;subst hw
 go_upto_if 25 with fail
 go_cut [] (fun wz=>N (Fr (fun k=>k=X) s wz)/\N (NJ s c1 wz L v bv nv ov mv kv j xs x fs)/\N (∃a2 t2 da dc,wz.heap[X]?=I (y6 #[Z (I ⟨T,0,J⟩),Z (I ⟨q,0,J⟩),G lo,G a2,t2,V da n dc] 97)/\∃b,wz.ownsRow b 4 1 (V da n dc) n (KP R)))
 case first=>
  have Y:=b0.o;rcases d0.o.2 with e|⟨D,e,_,b,t⟩
  ·injection e with e1 e2 e3;subst e1 e2 e3;have x1:=Zc Y 1
   cases lo with
   |true=>
    obtain rfl:n=0:=by rw[<-u.o,<-HR.o];rfl
    obtain rfl:R=[]:=HR.o.symm;go_wp2;go_meet;exact⟨Zo,⟨c1,Y7.refl _ _,HC.o.2.2⟩,_,_,_,_,b0.o,0,oZ _ _ _ _⟩
   |false=>
   obtain rfl:R=R0:=HR.o.symm;have A0:=o (DJ s q p0 R (by obtain⟨_,_,_,h⟩:=t0.o s (f.o.mono);exact TV.of h) M.o.bk fun r hr=>⟨(M.o.ar r hr).m4,(M.o.ar r hr).c4⟩);rw[u.o]at A0;go_wp2_with fail;refine A0.o.mono ?_;rintro e w2 ⟨D,rfl,B0⟩;rw[<-u.o]at B0;obtain⟨d1,d2⟩:=B0.ded M.o.bk M.o.ar;rw[u.o]at d1;have h0:=d2.whole b0.o;have e5:=Zc h0 5;have f5:=bF h0 5
   have d:N (Fr (fun k=>k=X) s (w2.setCell ⟨X,5,J⟩ (V (I ⟨D,0,J⟩) n n))/\NJ s c1 (w2.setCell ⟨X,5,J⟩ (V (I ⟨D,0,J⟩) n n)) L v bv nv ov mv kv j xs x fs/\(w2.setCell ⟨X,5,J⟩ (V (I ⟨D,0,J⟩) n n)).heap[X]?=I (y6 #[Z (I ⟨T,0,J⟩),Z (I ⟨q,0,J⟩),G false,G p,B,V (I ⟨D,0,J⟩) n n] 97)/\(w2.setCell ⟨X,5,J⟩ (V (I ⟨D,0,J⟩) n n)).ownsRow s.heap.size 4 1 (V (I ⟨D,0,J⟩) n n) n (KP R)):=by
    have hf:Fr (fun k=>k=X) s (w2.setCell ⟨X,5,J⟩ (V (I ⟨D,0,J⟩) n n)):=(d2.mono).trans (Vh _ 5)
    have ha:Y7 s c1 fun k=>if k=D then 11 else c1 k:=fun k m=>if_neg fun e=>aj (d1.lt D rfl).1
    have i0:=(iA.1 HX.o).1;have C0:=(HC.o.1 X i0).trans v0.o;have e:=heap_setCell_same w2 X 5 _ _ (V (I ⟨D,0,J⟩) n n) h0
    have e':(w2.setCell ⟨X,5,J⟩ (V (I ⟨D,0,J⟩) n n)).heap[X]?=I (y6 #[Z (I ⟨T,0,J⟩),Z (I ⟨q,0,J⟩),G false,G p,B,V (I ⟨D,0,J⟩) n n] 97):=by simpa using e
    have hr:=oF d1 (Vh (w:=w2) (L:=X) (V (I ⟨D,0,J⟩) n n) 5) fun k m=>aj f.o.size
    refine⟨hf,⟨_,ha,HC.o.2.2.tells C0 hf ha ?_⟩,e',hr⟩
    have O0:=(d0.o.keep f.o HC.o.1 aA).keep hf ha fun k m=>by rw[m,C0];decide
    refine K0.o _ _ p B _ ((f.o.mono).trans hf) (HC.o.1.trans ha f.o.size) e' ⟨O0.1,x8 ⟨D,by rw[u.o],Pb (if_pos rfl),s.heap.size,by rw[u.o];exact hr⟩⟩
   go_wp2;go_meet;exact⟨d.o.1,d.o.2.1,_,_,_,_,d.o.2.2.1,_,d.o.2.2.2⟩
  rw[u.o]at e;injection e with e1 e2 e3;replace e2:=e2.symm;replace e3:=e3.symm;subst e1 e2 e3
  have d:N (NJ s c1 s L v bv nv ov mv kv j xs x fs/\s.ownsRow b 4 1 (V (I ⟨D,0,J⟩) n n) n (KP R)):=⟨⟨c1,Y7.refl _ _,HC.o.2.2⟩,by
   rw[u.o]at t
   exact oF t f.o⟩
  simp only[Option.isNone_some,Bool.false_and];go_wp2;go_meet;exact⟨Zo,d.o.1,_,_,_,_,b0.o,_,d.o.2⟩
 obtain⟨j0,P0,Q0⟩:=hcut;generalize wc=W at*;obtain⟨a2,t2,da,dc,S0,b,t⟩:=Q0.o;have i0:=(iA.1 HX.o).1
 have T0:N (∀W',F0 W W'->W'.cell? ⟨X,1,J⟩=I (Z (I ⟨q,0,J⟩))/\W'.cell? ⟨X,5,J⟩=I (V da n dc)/\(TV W' q p0 R0)/\W'.ownsRow w.heap.size 9 1 (V oa O oc) O (SY (KL R))/\W'.ownsRow b 4 1 (V da n dc) n (KP R)):=fun W' hf=>by
  have e:=hf.whole S0;exact⟨Zc e 1,Zc e 5,(by obtain⟨_,_,_,h⟩:=t0.o W' (((f.o.mono).trans j0.o).trans (hf.mono));exact TV.of h),oF (oF g0.o j0.o fun k m=>az) hf,oF t hf⟩
 go_wp2
 go_loopg [6,7] n (fun mm av iv wr=>∃i a:Nat,i<=n/\mm=n-i/\av=E H (a:Nat)/\iv=E H (i:Nat)/\a<=8/\N (a=(W7 R i).length)/\N (F0 W wr))
 case atStart=>exact⟨0,0,az,rfl,rfl,rfl,az,rfl,Zo⟩
 obtain⟨i,a,h1,rfl,rfl,rfl,ha,HA,a0⟩:=hrel;obtain⟨y1,y5,V0,k0,D0⟩:=T0.o wr a0.o;by_cases i1:i<n
 ·have W0:=af i n
  obtain rfl:R=R0:=by
   cases lo with
   |false=>exact HR.o.symm
   |true=>have:=u.o;rw[<-HR.o]at this;simp[KO]at this;omega
  obtain⟨D,_,e,_⟩:=D0.form az;injection e with e _ e2;subst e e2;obtain⟨r,hr⟩:∃r,R[i]?=I r:=⟨_,gE (show i<R.length by have:=u.o;omega)⟩;have j1:=o hr;have E0:=(D0.cellAt i az).trans (Be (aj u.o))
  cases hl:Qd R i with
  |true=>
   rw[hl]at E0
   have l0:N (a=(W7 R (i+1)).length):=by show _=_;rw[Kd hr,hl,if_pos rfl,z9,HA.o]
   go_wp2;go_roundg (n-(i+1))
   case measure=>omega
   exact⟨i+1,a,az,rfl,rfl,aE,ha,l0,a0⟩
  |false=>
   rw[hl]at E0
   have l0:N (a+1=(W7 R (i+1)).length):=by show _=_;rw[Kd hr,hl,HA.o,lA];rfl
   have m0:=wU hr hl;rw[<-HA.o]at m0;have l1:a<O:=ak (iG.1 m0).1 y0.o;obtain⟨la,lc,h2,h3⟩:=V0.c2;rw[u.o]at h2;obtain⟨g,ma,mc,ca,cc,pa,pc,rfl,n0,_⟩:=h3 i r hr;obtain⟨og,_,e,_⟩:=k0.form az;injection e with e _ e2;subst e e2;have o0:wr.cell? ⟨og,a,J⟩=I (U r.name):=(k0.cellAt a az).trans (by unfold SY;rw[y9,m0];rfl);have u0:wr.cell? ⟨g,i*13,J⟩=I (U r.name):=n0 0 _ rfl;have m1:=af a O;have n1:decide ((O:Int)<=(a:Int))=false:=aF;go_upto_region 9 with fail
   go_quiet (fail)
   have X0:N (F0 W (wr.drewN nq)):=a0.o.trans ⟨rfl,rfl,rfl,j4 _,fun _ _ _=>rfl⟩;go_wp2;go_roundg (n-(i+1))
   case measure=>omega
   exact⟨i+1,a+1,az,rfl,aE,aE,az,l0,X0⟩
 have W0:=ai i n;obtain rfl:i=n:=az
 obtain rfl:a=O:=by
  rw[HA.o,<-y0.o,<-u.o];rfl
 have HT:N (x7 C 84 #[Z (I ⟨L,0,J⟩),V oa a oc] wr fun e w'=>e=F (.tuple #[])/\(∃y A l,NJ w c w' L v bv y ov A kv (j+1) xs l fs/\l.length=x.length+4/\∀e,e∈l->e∈x\/e.n<=8796093022208)/\US [1,3,4,7,9,11] c w w'):=by
  obtain⟨c2,G0,Y0⟩:=P0.o;obtain⟨Q,Z0,_⟩:=HC.o;have o1:=(iA.1 HS.o.bx).1;have H0:=Q.trans G0 f.o.size;have I0:US [1,3,4,7,9,11] c w wr:=US.cls (c1:=c) (US.cls (c1:=c1) (f.o.mono) Q j0.o fun k m=>by rw[m,Q X i0,v0.o];decide) (Y7.refl _ _) (S:=fun _=>False) a0.o aA;refine(Kc c2 wr L v bv nv ov mv kv j xs x fs oa a oc _ (Y0.keep a0.o (Y7.refl _ _)) (oS k0 az) (fun k m=>(G0 k (g0.o.lt k m).2).trans (Z0 k m)) (fun e he k m g e1 e2=>?_) w0.o.1 w0.o.2 az).mono ?_
  ·obtain⟨g',k1,_,cs,k3,_⟩:=HS.o.n.el e (by simpa using he) k m;rw[k1]at e1;injection e1 with e1;injection e1 with e1;have:=(iA.1 k3).1;have:=(g0.o.lt g e2).1;omega
  rintro e w' ⟨he,y,A,l,⟨c',q1,q2⟩,q3,q4,q5⟩;exact⟨he,⟨y,A,l,⟨c',H0.trans q1 I0.size,q2⟩,q3,q4⟩,I0.cls H0 q5 fun k m=>by revert m;simp;omega⟩
 go_wp2_with fail;refine HT.o.mono ?_;rintro e w7 ⟨rfl,h7,h8⟩;have H7:=o (j6 h7 h8);go_wp2;go_ret;exact⟨rfl,H7.o⟩
def qn (d:y7)(L:Nat)(a:Option Addr)(n b:Nat)(x:ByteArray)(i:Nat)(wr:y7):Prop:=
 ∃c,wr.ownsRow (L+1) 44 6 (V a n b) n c/\(∀k j v,k<i->(F9 6 x)[j]?=I v->c[k*6+j]?=I v)/\Fr (fun k=>(x6 a n b).ownBlock=I k) d wr
def qn.step {c wr L A n d x i}(h:qn c L (I ⟨A,0,J⟩) n d x i wr)(q:i<n):
  qn c L (I ⟨A,0,J⟩) n d x (i+1) ((((((wr.setCell ⟨A,i*6,J⟩ (U x)).setCell ⟨A,i*6+1,J⟩ (U x)).setCell ⟨A,i*6+2,J⟩ (U ByteArray.empty)).setCell ⟨A,i*6+3,J⟩ (E H 0)).setCell ⟨A,i*6+4,J⟩ (E H 0)).setCell ⟨A,i*6+5,J⟩ (E H 0)):=by
 obtain⟨r,f,g,l⟩:=h;have m:=f.1;have o:=(((((f.stored (i*6) (U x)).1.stored (i*6+1) (U x)).1.stored (i*6+2) (U ByteArray.empty)).1.stored (i*6+3) (E H 0)).1.stored (i*6+4) (E H 0)).1.stored (i*6+5) (E H 0);refine⟨_,o.1,fun k j v s a=>?_,?_⟩
 ·have b:=(iG.1 a).1;simp[F9]at b;by_cases e:k=i
  ·subst e;have:j=0\/j=1\/j=2\/j=3\/j=4\/j=5:=z
   rcases this with rfl|rfl|rfl|rfl|rfl|rfl<;>simp[F9]at a<;>subst a<;>simp[k8,m]<;>omega
  simp only[k8];rw[if_neg z,if_neg z,if_neg z,if_neg z,if_neg z,if_neg z];exact g k j v z a
 exact(((((l.setCell (p:=⟨A,i*6,J⟩) (z8 rfl) _).setCell (p:=⟨A,i*6+1,J⟩) (z8 rfl) _).setCell (p:=⟨A,i*6+2,J⟩) (z8 rfl) _).setCell (p:=⟨A,i*6+3,J⟩) (z8 rfl) _).setCell (p:=⟨A,i*6+4,J⟩) (z8 rfl) _).setCell (p:=⟨A,i*6+5,J⟩) (z8 rfl) _
def NK:(C.info? 41).map (fun i=>(i.zero,i.size,i.bytes))=I (I (V J 0 0),1,24):=n
def D4 (c w L v bv nv ov mv kv B xs es M la n c0 ys)(h:Sn c w L v bv nv ov mv kv B xs es M)(hl:w.ownsRow (L+1) 44 6 (V la n c0) n ys)(w0:Cl c (V la n c0) 8)(x0:∀e,e∈M->∀k,k<e.n->∀g,e.a=I ⟨g,0,J⟩->(x6 la n c0).ownBlock≠I g)(hc:B<=4611686018427387904)(hE:(M.length+4)*24<=140737488355328)(hN:(n+4)*72<=140737488355328):
  x7 C 88 #[Z (I ⟨L,0,J⟩),V la n c0] w fun e w'=>e=F (.tuple #[])/\∃j0 k0 D,NJ w c w' L v bv nv j0 mv k0 (B+1) xs es D/\D.length=M.length+4/\(∀e,e∈D->e∈M\/e.n<=8796093022208)/\US [1,5,6,8] c w w':=by
 obtain⟨iv,A0,B0,C0,D0⟩:=info_parts QB;have HS:=o h;have E0:=o (JZ w L v bv nv ov mv kv B h.bx hc);have HL:=o hl;have l0:=o w0;have G0:=o x0;have HE:=o hE;have I1:n<=1954687338264:=az;have i1:=o hN;clear h hl w0 x0 hc hE hN;go_enter func88,ntmps88;go_wp2_with fail;refine E0.o.mono ?_;rintro e w1 ⟨⟨x,rfl⟩,i0,d0⟩;have H0:=o i0;have m0:=o d0;go_upto_region 2 with fail;generalize hW:w1.alloc _=W1 at*;have n0:=o (zM hW);have e0:N (F0 w1 W1):=DG hW;obtain⟨O,hO⟩:=ad w1.heap.size;have J1:=o hO
 have I0:N (w.heap.size<=O):=by have:=d0.size;show _<=_;omega
 rw[hO]at n0 ⊢;have J0:N (qn W1 L la n c0 x 0 W1):=⟨ys,oF (oF HL.o d0 (fun k l=>az)) e0.o,fun k j v l=>az,Zo⟩;clear i0 d0 E0 hW hO;go_wp2
 go_loopg [6] n (fun m kv wr=>∃i,i<=n/\m=n-i/\kv=E H (i:Nat)/\N (qn W1 L la n c0 x i wr))
 case atStart=>exact⟨0,x9 _,rfl,rfl,J0⟩
 obtain⟨i,hi,rfl,rfl,HM⟩:=hrel;by_cases l1:i<n
 ·have m1:=af i n;obtain⟨_,h1,_⟩:=HM.o;obtain⟨A,_,e,_⟩:=h1.form az;injection e with e _ e3;subst e e3;have n1:=o (HM.o.step l1);obtain⟨zs,q1,_,q3⟩:=HM.o;have G:=q3.whole n0.o (fun e=>ak (HL.o.lt O e).2 I0.o);obtain⟨o0,o1,o2,o3,o4,o5⟩:=ax G
  have hx:∀r,r<6->∃u,wr.cell? ⟨A,i*6+r,J⟩=I u:=fun r hr=>⟨_,by rw[q1.cellAt (i*6+r) az];exact gE (by have:zs.length=n*6:=q1.1;omega)⟩
  obtain⟨y0,z0⟩:=hx 0 az;obtain⟨y1,z1⟩:=hx 1 az;obtain⟨y2,z2⟩:=hx 2 az;obtain⟨y3,z3⟩:=hx 3 az;obtain⟨y4,z4⟩:=hx 4 az;obtain⟨y5,z5⟩:=hx 5 az;rw[Nat.add_zero]at z0;have f0:=q1.frozenAt (i*6);have f1:=q1.frozenAt (i*6+1);have f2:=q1.frozenAt (i*6+2);have f3:=q1.frozenAt (i*6+3);have f4:=q1.frozenAt (i*6+4);have f5:=q1.frozenAt (i*6+5);clear q1 q3 G hx h1;go_wp2;go_roundg (n-(i+1))
  case measure=>omega
  exact⟨i+1,az,rfl,aE,n1⟩
 have m1:=ai i n;obtain rfl:i=n:=az;obtain⟨cz,Q,K0⟩:∃cz:Nat->Nat,Y7 w c cz/\cz O=0:=⟨fun k=>if k=O then 0 else c k,fun k l=>if_neg (aj I0.o),if_pos rfl⟩;have L0:=o Q;have r1:=o K0;clear K0
 have M0:N (US [1,5,6,8] c w W1):=(m0.o.trans (e0.o.mono)).mono fun k l=>by rw[l,HS.o.bc];decide
 have v1:N (FU 5 6 8 41 44 6 (fun a b=>Ha v bv nv a mv b (B+1)) cz W1 L x cz wr ov kv (V la i c0) i M []):=by
  obtain⟨zs,z1,z2,z3⟩:=HM.o;have R:=HS.o;have x1:=(iA.1 R.bx).1
  have N0:Cl cz (V la i c0) 8:=fun k l=>(Q k (HL.o.lt k l).2).trans (l0.o k l)
  have hF:=((m0.o.trans (e0.o.mono)).mono fun k l=>z8 l).trans (z3.mono fun k l=>x8 l);refine⟨Y7.refl _ _,R.o.keepL hF Q (fun k l=>?_) (fun e he k l g eg=>?_),⟨zs,z1,z2,N0,fun e he k l g e1 e2=>?_⟩,z3.mono fun k l=>?_,z3.whole (e0.o.whole H0.o) fun e=>?_,(Q L x1).trans R.bc⟩
  ·rcases l with e|e
   ·rw[e,R.bc];decide
   rw[l0.o k e];decide
  ·rintro(e|e)
   ·obtain⟨g',k1,k2,_⟩:=R.o.el _ he k l;rw[k1]at eg;injection eg with eg;injection eg with eg;rw[eg,e,R.bc]at k2
    cases k2
   exact G0.o _ (by simpa using he) k l g eg e
  ·exact absurd e2 (G0.o e (by simpa using he) k l g e1)
  ·rw[N0 k l];decide
  have:=l0.o L e;rw[R.bc]at this
  cases this
 clear HM J0 m0 H0 Q;go_wp2
 go_loopg [1,7] 4 (fun m lv jv wr=>∃j c' s p0 r0,j<=4/\m=4-j/\jv=E H (j:Nat)/\N (FU 5 6 8 41 44 6 (fun a b=>Ha v bv nv a mv b (B+1)) cz W1 L x c' wr p0 r0 lv (i+j) s [])/\N (s.length=M.length+j/\∀e,e∈s->e∈M\/e.n<=8796093022208))
 case atStart=>exact⟨0,_,M,ov,kv,az,rfl,rfl,v1,⟨rfl,fun e he=>z8 he⟩⟩
 obtain⟨j,c',s,p0,r0,hj,rfl,rfl,HT,S⟩:=hrel;by_cases K1:j<4
 ·have A1:(j:Int)<4:=az;obtain⟨_,T,_⟩:=HT.o.ls;obtain⟨lb,g0,el⟩:=oL T;subst el;have h0:=HT.o.sh.nm;rw[z9]at h0;obtain⟨na,nc,en⟩:=oL h0;subst en;obtain⟨ma,mc,em⟩:=oL HT.o.sh.ma;subst em;have B1:=o h0;have C1:(s.length+1)*24<=140737488355328:=ak HE.o S.o.1;obtain⟨q,hq⟩:=ad s.length;have HQ:=o hq
  have c2:wr.cell? ⟨L,3,J⟩=I (V na q nc):=by rw[<-hq];exact Zc HT.o.bx 3
  have L1:L+1<=wr.heap.size:=(iA.1 HT.o.bx).1;have M1:q<=5864062014805:=az;rw[hq]at C1;clear T h0 hq
  go_wp2_with (at_builtin;refine ao (L+1) NK underlying56 (V na q nc) q (s.map I9.val) ?h1 ⟨wr.heap.size,0,J⟩ [V lb (i+j) g0] ?h2 ?_)
  case h1=>rw[<-HQ.o];exact B1.o.alloc _
  case h2=>exact z6 (aN wr _)
  intro g2 G1 w2 d f p _;rw[<-HQ.o]at d f p;obtain⟨s0,c1,O0⟩:=HT.o.s1 (i:=3) aB (fun W a b u hW=>by have e:=heap_setCell_same W L 3 _ _ u hW;simpa[Ha]using e) f d (p.imp id az);have d2:=Zc s0 3;have D1:=bF s0 3;rw[HQ.o]at d2;have X:=o O0;rw[HQ.o]at X;clear O0 d f p c2 s0;go_upto_region 10 with fail;generalize w2.setCell _ _=W3 at*;have c4:=Zc X.o.bx 5;have N1:L+1<=W3.heap.size:=(iA.1 X.o.bx).1;clear d2 D1
  go_wp2_with (at_builtin;refine ao (L+1) Ut underlying28 (V ma q mc) q (s.map fun e=>q0 e.m) ?k1 ⟨W3.heap.size,0,J⟩ [U x] ?k2 ?_)
  case k1=>have e:=X.o.sh.ma;rw[HQ.o]at e;exact e.alloc _
  case k2=>exact z6 (aN W3 _)
  intro g5 H1 w5 d f p _;rw[<-HQ.o]at d;obtain⟨t0,c5,P0⟩:=X.o.s2 (i:=5) rfl aB (fun W a b u hW=>by have e:=heap_setCell_same W L 5 _ _ u hW;simpa[Ha]using e) f d (p.imp id az);have d4:=Zc t0 5;have E1:=bF t0 5;have P:=o P0;rw[HQ.o]at P;clear P0 d f p c4 t0;go_upto_region 11 with fail;generalize w5.setCell _ _=Y at*;have O1:L+1<=Y.heap.size:=(iA.1 P.o.bx).1;obtain⟨Q0,T,R0,_⟩:=P.o.ls;have K:=o (j6 T R0);have a0:(i+j+1)*72<=140737488355328:=Nat.le_trans (v7 72 (show i+j+1<=i+4 by omega)) i1.o;have S0:N ((s++[(⟨lb,i+j,g0,x⟩:I9)]).length=M.length+(j+1)/\∀e,e∈s++[(⟨lb,i+j,g0,x⟩:I9)]->e∈M\/e.n<=8796093022208):=⟨by rw[v9,S.o.1];simp;omega,fun e he=>(j5.1 he).elim (S.o.2 e) (fun h=>by rw[j1.1 h];exact x8 (by show i+j<=_;omega))⟩;have G:=P.o.fq.whole n0.o (by rw[r1.o];decide);obtain⟨o0,o1,o2,o3,o4,o5⟩:=ax G;clear d4 E1 T R0 G;rcases K.o.1.2.symm with⟨g,_,_,el,_⟩|⟨el,hz⟩
  ·injection el with el _ F1;subst el F1
   go_wp2_with (at_builtin;refine TI rfl (.tmp 47) (.tmp 49) 41 rfl (L+1) 44 iv _ 6 72 underlying41 A0 B0 C0 D0 rfl g (i+j) g0 Q0 rfl ?q1 ⟨Y.heap.size,0,J⟩ 1 1 [U x,U x,U ⟨#[]⟩,E H 0,E H 0,E H 0] rfl rfl ?q2 ?q3 ?q4 ?q5 ?q6 _ rfl ?_)
   case q1=>exact K.o.1.alloc _
   try case q2=>exact z6 (aN Y _)
   case q3=>simp[y8]
   case q4=>unfold maxLen;omega
   try case q5=>first|exact a0|omega
   case q6=>first|exact a0|omega|(simp;omega)
   intro g8 T0 w8 d p
   have z:(I (⟨g,0,J⟩:Addr)=I ⟨g8,0,J⟩/\Fr (fun k=>k=g8) Y w8)\/(Y.heap.size<=g8/\F0 Y w8):=by
    rcases p with⟨e,hg⟩|⟨e,hg⟩
    ·exact z8 ⟨by rw[e],(Zo.alloc _).grown hg fun k l=>z8 (by injection l with l;omega)⟩
    exact x8 ⟨az,(Zo.alloc _).grown hg fun k l=>by cases l⟩
   have y:=d;obtain⟨c8,b0⟩:=P.o.s3 (w2:=w8) aB rfl K.o.1 K.o.2 y z;have v0:=o b0;clear b0 d p y z;go_wp2;go_roundg (4-(j+1))
   case measure=>omega
   exact⟨j+1,c8,_,_,_,az,rfl,aE,v0,S0⟩
  injection el with e1 e2 e3;subst e1 e3;clear e2 hz
  go_wp2_with (at_builtin;refine ao (L+1) QB underlying41 (V J (i+j) 0) (i+j) Q0 ?p1 ⟨Y.heap.size,0,J⟩ [U x,U x,U ⟨#[]⟩,E H 0,E H 0,E H 0] ?p2 ?_ (k3:=?p5))
  case p1=>exact K.o.1.alloc _
  case p2=>exact z6 (aN Y _)
  case p5=>first|exact a0|omega
  intro g8 T0 w8 d f p _
  have z:((J:Option Addr)=I ⟨g8,0,J⟩/\Fr (fun k=>k=g8) Y w8)\/(Y.heap.size<=g8/\F0 Y w8):=by
   rcases p with e|e
   ·cases e
   exact x8 ⟨az,(Zo.alloc _).grown f fun k l=>by cases l⟩
  have y:=d;obtain⟨c8,b0⟩:=P.o.s3 (w2:=w8) aB rfl K.o.1 K.o.2 y z;have v0:=o b0;clear b0 d p f y z;go_wp2;go_roundg (4-(j+1))
  case measure=>omega
  exact⟨j+1,c8,_,_,_,az,rfl,aE,v0,S0⟩
 have A1:¬(j:Int)<4:=az;obtain rfl:j=4:=az
 have V0:N (∃j0 k0 D,NJ w c wr L v bv nv j0 mv k0 (B+1) xs es D/\D.length=M.length+4/\(∀e,e∈D->e∈M\/e.n<=8796093022208)/\US [1,5,6,8] c w wr):=by
  have ht:=HT.o;have R:=HS.o
  have hf:=M0.o.cls L0.o ht.fq fun i hi=>hi
  have ha:=L0.o.trans ht.ag M0.o.size;obtain⟨⟨t1,t2⟩,t3⟩:=R.taken hf ha aB
  have q:∀{k t:Nat},c k∈[1,5,6,8]->t∉[1,5,6,8]->c k≠t:=fun h1 h2 e=>h2 (e▸h1)
  exact⟨p0,r0,s,⟨c',ha,ht.bx,ht.bc,t1,t2,R.few,t3,R.n.keep hf ha fun k l=>⟨q l aB,q l aB,q l aB⟩,ht.sh⟩,S.o.1,S.o.2,hf⟩
 go_wp2
 go_end0
 exact⟨rfl,V0.o⟩
def Bf (R:List Ze)(i a:Nat):∀d,∃t,So R i (a+d)=So R i a++t
 |0=>⟨[],y⟩
 |d+1=>by
  obtain⟨t,h⟩:=Bf R i a d;refine⟨t++F6 R i (i+1+(a+d)),?_⟩
  show So R i (a+d)++F6 R i (i+1+(a+d))=_
  rw[h,j2]
def Bg (R:List Ze)(a:Nat):∀d,∃t,Sk R (a+d)=Sk R a++t
 |0=>⟨[],y⟩
 |d+1=>by
  obtain⟨t,h⟩:=Bg R a d;refine⟨t++So R (a+d) (R.length-(a+d+1)),?_⟩
  show Sk R (a+d)++So R (a+d) (R.length-(a+d+1))=_
  rw[h,j2]
def uJ {R i j r q y}(d:R[i]?=I r)(a:R[i+1+j]?=I q)(f:RG (Ug r) (Ug q)=I y):(Sl R)[(Sk R i++So R i j).length]?=I (r.name,q.name,TW y.1):=by
 have g:=(iG.1 a).1;obtain⟨t1,b⟩:=Bg R (i+1) (R.length-(i+1));obtain⟨h,c⟩:=Bf R i (j+1) (R.length-(i+1)-(j+1));rw[show i+1+(R.length-(i+1))=R.length from z]at b;rw[show j+1+(R.length-(i+1)-(j+1))=R.length-(i+1)from z]at c
 have k:F6 R i (i+1+j)=[(r.name,q.name,TW y.1)]:=by simp only[F6,d,a,f]
 have e:Sl R=(Sk R i++So R i j)++(F6 R i (i+1+j)++(h++t1)):=by
  unfold Sl;rw[b,show Sk R (i+1)=Sk R i++So R i (R.length-(i+1))from rfl,c,show So R i (j+1)=So R i j++F6 R i (i+1+j)from rfl];simp only[j2]
 rw[e,aR (j4 _),b7,k];rfl
def tI (n:Nat):Code->Bool
 | .region m _ _=>m==n
 | .seq a _=>tI n a
 |_=>false
def tJ (n:Nat):Code->Option Code
 | .seq a b=>if tI n a then I (.seq a b)else tJ n b
 |_=>J
def qo (f:Func)(n:Nat):Code:=(f.body.bind (tJ n)).getD .skip
def Bh:∀i,Sk [] i=[]
 |0=>rfl
 |i+1=>by rw[Sk,Bh i];simp[So]
set_option maxRecDepth 1000000 in
def zy (c c1 w w1 W L v bv nv ov mv kv A xs es fs X T q B R u oa M oc n a2 tv E0)(h:Sn c w L v bv nv ov mv kv A xs es fs)(G0:Yh B R/\∀r,r∈R->Tt r)(N4:X<w.heap.size)(O4:c X=9)(P4:A<=4611686018427387904/\(fs.length+4)*24<=140737488355328)(Q4:∀W,Fr (fun k=>k=X) w W->TV W q B R)(s0:w1.ownsRow w.heap.size 44 6 (V oa M oc) M (XO (Sl (KO u R))))(H0:F0 w w1)(O:Y7 w c c1/\Cl c1 (V oa M oc) 8)(v0:Fr (fun k=>k=X) w1 W)(R4:NJ w1 c1 W L v bv nv ov mv kv A xs es fs)(S4:W.heap[X]?=I (y6 #[Z (I ⟨T,0,J⟩),Z (I ⟨q,0,J⟩),G u,G a2,tv,E0] 97))(I0:(Sl (KO u R)).length=M)(hn:R.length=n)(t2 t3 t4 t8 t9 T4 V4 W4 X4 Y4 Z4 a5 b5 c5 d5 e5 f5 g5 i5 j5 k5 l5 m5 n5 p5 r5 s5 t5 x5 y5 z5 A5 B5 C5 D5 E5 F5 G5 H5 I5 J5 K5 L5 M5 N5 O5 P5 Q5 R5 S5 T5 V5 W5 X5 Y5 Z5 a6 b6 c6 d6 e6 f6 g6 h6 i6 k6 l6 m6 n6 o6 p6 q6 r6 s6 t6 v6 w6 x6 z6 A6 B6 C6 D6 E6 G6 H6 I6 J6 K6 L6 M6 N6 O6 P6 Q6 J0 K0 L0 M0 N0 O0 P0 Q0 R0 S0 T0 V0 W0 Y0 Z0 a1 b1 d1 f1 g1 h1 i1 j1 l1 m1 n1 r1 s1 t1 v1 x1 z1 A1 B1 C1 D1 E1 F1 G1 H1 I1 J1 K1 L1 M1 N1 O1 P1 Q1 R1 S1 T1 V1 W1 X1 Y1 Z1 b2 d2 f2 g2 i2 j2 k2 l2 m2 n2 r2 s2 x2 z2 A2 B2 C2 D2 E2 F2 G2 H2 I2 J2 K2 L2 M2 N2 O2 P2 Q2 R2 S2 T2 V2 W2 X2 Y2 Z2 a3 b3 c3 d3 f3 g3 i3 j3 l3 m3 n3 r3 s3 x3 y3 z3 A3 B3 C3 D3 E3 F3 G3 H3 I3 J3 K3 L3 M3 N3 O3 P3 Q3 R3 S3 T3 V3 W3 X3 Y3 Z3 a4 b4 c4 d4 e4 f4 g4 i4 k4 l4 m4 n4 p4 r4 s4 x4 y4 z4):
  Code.wp C (qo f47 16) (bodyPost C f47 fun e f=>e=F (G true)/\(∃Q Y t,NJ w c f L v bv nv Q mv Y (A+1) xs es t/\t.length=fs.length+4/\∀e,e∈t->e∈fs\/e.n<=8796093022208)/\US [1,5,6,8,9,10] c w f) ⟨#[Z (I ⟨L,0,J⟩),Z (I ⟨X,0,J⟩),t2,t3,t4,V oa M oc,E H 0,G true,t8,t9,T4,V4,W4,X4,Y4,Z4,a5,b5,c5,d5,e5,f5,g5,i5,j5,k5,l5,m5,n5,p5,r5,s5,t5,x5,y5,z5,A5,B5,C5,D5,E5,F5,G5,H5,I5,J5,K5,L5,M5,N5,O5,P5,Q5,R5,S5,T5,V5,W5,X5,Y5,Z5,a6,b6,c6,d6,e6,f6,g6,h6,i6,k6,l6,m6,n6,o6,p6,q6,r6,s6,t6,v6,w6,x6,z6,A6,B6,C6,D6,E6,G6,H6,I6,J6,K6,L6,M6,N6,O6,P6,Q6,J0,K0,L0,M0,N0,O0,P0,Q0,R0,S0,T0,V0,W0,Y0,Z0,a1,b1,d1,f1,g1,h1,i1,j1,l1,m1,n1,r1,s1,t1,v1,x1,z1,A1,B1,C1,D1,E1,F1,G1,H1,I1,J1,K1,L1,M1,N1,O1,P1,Q1,R1,S1,T1,V1,W1,X1,Y1,Z1,b2,d2,f2,g2,i2,j2,k2,l2,m2,n2,r2,s2,x2,z2,A2,B2,C2,D2,E2,F2,G2,H2,I2,J2,K2,L2,M2,N2,O2,P2,Q2,R2,S2,T2,V2,W2,X2,Y2,Z2,a3,b3,c3,d3,f3,g3,i3,j3,l3,m3,n3,r3,s3,x3,y3,z3,A3,B3,C3,D3,E3,F3,G3,H3,I3,J3,K3,L3,M3,N3,O3,P3,Q3,R3,S3,T3,V3,W3,X3,Y3,Z3,a4,b4,c4,d4,e4,f4,g4,i4,k4,l4,m4,n4,p4,r4,s4,x4,y4,z4],[]⟩ W:=by
 conv=>arg 2;whnf
 have HS:=o h;have l:=o G0;have A4:=o P4;have w0:=o s0;have B4:=o H0;have HC:=o O;have R6:=o v0;have S6:=o R4;have i0:=o I0;have HN:=o hn;have C4:=o (j6 N4 O4);have v7:n<=8:=aj G0.1.l8
 have T6:M<=64:=by
  have e0:(KO u R).length<=8:=by cases u<;>simp[KO];omega
  have:=NX (KO u R) (KO u R).length;have e3:=g9 e0 e0;unfold Sl at I0;omega
 have b0:N (∀b,F0 W b->b.cell? ⟨X,1,J⟩=I (Z (I ⟨q,0,J⟩))/\b.cell? ⟨X,2,J⟩=I (G u)/\TV b q B R/\b.ownsRow w.heap.size 44 6 (V oa M oc) M (XO (Sl (KO u R)))):=fun b m=>by
  have e:=m.whole S4;exact⟨Zc e 1,Zc e 2,Q4 b (((H0.mono).trans v0).trans (m.mono)),oF (oF s0 v0 fun k hk=>az) m⟩
 go_wp2
 go_loopg [6,7,12] n (fun mm av bv iv wr=>∃i a:Nat,i<=n/\mm=n-i/\av=E H (a:Nat)/\bv=G true/\iv=E H (i:Nat)/\a<=64/\N (a=(Sk (KO u R) i).length)/\N (F0 W wr))
 case atStart=>exact⟨0,0,az,rfl,rfl,rfl,rfl,az,rfl,Zo⟩
 obtain⟨i,a0,y7,rfl,rfl,rfl,rfl,V6,x0,c0⟩:=hrel;obtain⟨y1,y2,D,_⟩:=b0.o wr c0.o;obtain⟨la,lc,h2,_⟩:=D.c2;rw[HN.o]at h2;by_cases j0:i<n/\u=false
 ·obtain⟨j0,rfl⟩:=j0;simp only[KO]at x0 i0 b0 w0;have k0:=af i n;go_wp2
  go_loopg [6,7,13] (n-(i+1)) (fun mm av bv kv wx=>∃j k a:Nat,k<=n/\mm=n-k/\av=E H (a:Nat)/\bv=G true/\kv=E H (k:Nat)/\a<=64/\N (k=i+1+j)/\N (a=(Sk R i++So R i j).length)/\N (F0 W wx))
  case atStart=>exact⟨0,i+1,a0,az,rfl,rfl,rfl,aE,V6,rfl,by show _=_;rw[x0.o];simp[So],c0⟩
  obtain⟨j,k,a,A7,rfl,rfl,rfl,rfl,ha,HK,HA,y0⟩:=hrel;generalize wr=wx at*;obtain⟨y1,y2,D,l0⟩:=b0.o wx y0.o;obtain⟨la,lc,h2,h3⟩:=D.c2;rw[HN.o]at h2;by_cases B7:k<n
  ·have W6:=af k n;obtain⟨r,hr⟩:∃r,R[i]?=I r:=⟨_,gE (show i<R.length by have:=HN.o;omega)⟩;obtain⟨s,hs⟩:∃s,R[k]?=I s:=⟨_,gE (show k<R.length by have:=HN.o;omega)⟩;have d:N (R[i]?=I r/\R[k]?=I s):=⟨hr,hs⟩;have X6:=o (IZ wx q B R i k r s D l.o.1 hr hs);go_wp2_with fail;refine X6.o.mono ?_;rintro e w2 ⟨rfl,Y6⟩;have z0:=o (y0.o.trans Y6)
   cases E4:sX r s with
   |false=>
    have d0:N (a=(Sk R i++So R i (j+1)).length):=by
     have e0:RG (Ug r) (Ug s)=J:=by
      cases hy:RG (Ug r) (Ug s)with
      |none=>rfl
      |some y=>
       have:=(C9 (l.o.1.rl r (mG d.o.1)) (l.o.2 r (mG d.o.1)) (l.o.2 s (mG d.o.2))).2 ⟨y,hy⟩;rw[E4]at this
       cases this
     have e1:F6 R i (i+1+j)=[]:=by
      have e:=d.o.2;rw[HK.o]at e;simp only[F6,d.o.1,e,e0]
     show _=_
     rw[HA.o,show So R i (j+1)=So R i j++F6 R i (i+1+j)from rfl,e1,z9]
    go_wp2;go_roundg (n-(k+1))
    case measure=>omega
    exact⟨j+1,k+1,a,az,rfl,rfl,rfl,aE,ha,by show _=_;have:=HK.o;omega,d0,z0⟩
   |true=>
    obtain⟨y,hy⟩:=(C9 (l.o.1.rl r (mG d.o.1)) (l.o.2 r (mG d.o.1)) (l.o.2 s (mG d.o.2))).1 E4;obtain⟨p,hp⟩:=ad (TW y.1);have A0:=uJ d.o.1 (by rw[<-HK.o];exact d.o.2) hy;rw[<-HA.o,hp]at A0;have x:=FR (l.o.1.rl r (mG d.o.1)) (l.o.2 r (mG d.o.1)) hy;rw[hp]at x;have B0:=o x
    have Z6:p.pan.size<=maxLen:=by
     have e:=x.1;unfold YD X0 at e;simp only[z7,decide_eq_true_eq]at e;unfold maxLen;omega
    have t0:X0 p.pan=true:=by
     have e:=x.1;unfold YD at e;simp only[z7]at e;exact e.1.1
    have C7:a<M:=ak (iG.1 A0).1 i0.o
    have d0:N (a+1=(Sk R i++So R i (j+1)).length):=by
     have e:=d.o.2;rw[HK.o]at e
     have e1:F6 R i (i+1+j)=[(r.name,s.name,TW y.1)]:=by simp only[F6,d.o.1,e,hy]
     show _=_
     rw[HA.o,show So R i (j+1)=So R i j++F6 R i (i+1+j)from rfl,e1];simp[Nat.add_assoc]
    obtain⟨y1,y2,D,l0⟩:=b0.o w2 z0.o;obtain⟨la,lc,h2,h3⟩:=D.c2;rw[HN.o]at h2;obtain⟨g,ma,mc,ca,cc,pa,pc,rfl,f0,a7,b7,_⟩:=h3 i r d.o.1;obtain⟨g',c7,d7,e7,f7,g7,i7,e,z,F4,G4,_⟩:=h3 k s d.o.2;injection e with e;injection e with e _ _;subst e;obtain⟨og,e,K⟩:=wv l0 i0.o A0;subst e;have o0:w2.cell? ⟨og,a*6,J⟩=I (U r.name):=K 0 _ rfl;have o1:=K 1 _ rfl;have o2:=K 2 _ rfl;have o3:=K 3 _ rfl;have o4:=K 4 _ rfl;have o5:=K 5 _ rfl;have u0:w2.cell? ⟨g,i*13,J⟩=I (U r.name):=f0 0 _ rfl;have u1:w2.cell? ⟨g,k*13,J⟩=I (U s.name):=z 0 _ rfl;have D7:=af a M;have E7:decide ((M:Int)<=(a:Int))=false:=aF
    have j7:N (∀b,x7 C 86 #[m0 #[U p.pan,E H p.mcc,E H p.am,E H p.cur]] b fun e f=>e=F (G true)/\F0 b f):=fun b=>by have e:=SK b p Z6;rw[B0.o.1]at e;exact e
    have g0:N (∀P b,b.heap[P]?=I (R7 p)->F0 w2 b->b.cell? ⟨X,1,J⟩=I (Z (I ⟨q,0,J⟩))/\b.cell? ⟨q,2,J⟩=I (V (I ⟨g,0,J⟩) n lc)/\b.cell? ⟨P,0,J⟩=I (U p.pan)/\b.cell? ⟨P,1,J⟩=I (E H p.mcc)/\b.cell? ⟨P,2,J⟩=I (E H p.am)/\b.cell? ⟨P,3,J⟩=I (E H p.cur)):=fun P b hP m=>⟨m.get y1,m.get h2,Zc hP 0,Zc hP 1,Zc hP 2,Zc hP 3⟩
    have k7:N (∀b,F0 w2 b->x7 C 87 #[Z (I ⟨g,i*13,J⟩),m0 #[U p.pan,E H p.mcc,E H p.am,E H p.cur]] b fun e f=>e=F (G true)/\F0 b f):=fun b m=>by
     have e:=QZ b g (i*13) r ma mc ca cc pa pc B.length p (fun j v hv=>m.get (f0 j v hv)) (a7.fr m) (b7.fr m) (l.o.1.rl r (mG d.o.1)) t0;rw[B0.o.2.1]at e;exact e
    have l7:N (∀b,F0 w2 b->x7 C 87 #[Z (I ⟨g,k*13,J⟩),m0 #[U p.pan,E H p.mcc,E H p.am,E H p.cur]] b fun e f=>e=F (G true)/\F0 b f):=fun b m=>by
     have e:=QZ b g (k*13) s c7 d7 e7 f7 g7 i7 B.length p (fun j v hv=>m.get (z j v hv)) (F4.fr m) (G4.fr m) (l.o.1.rl s (mG d.o.2)) t0;rw[B0.o.2.2]at e;exact e
    go_upto_region 24 with fail
    go_quiet (fail)
    have h0:N (F0 w2 (w2.drewN nq)):=⟨rfl,rfl,rfl,j4 _,fun _ _ _=>rfl⟩;have v2:=h0.o.get o2;have v3:=h0.o.get o3;have v4:=h0.o.get o4;have v5:=h0.o.get o5;generalize w2.drewN nq=w3 at*;go_upto_region 27 with fail;generalize hP:w3.alloc _=w4 at*;have H4:=o (h0.o.trans (DG hP));have C0:=o (zM hP);obtain⟨P,m7⟩:=ad w3.heap.size;rw[m7]at C0 ⊢;obtain⟨_,_,p0,p1,p2,p3⟩:=g0.o P w4 C0.o H4.o;go_wp2_with fail;refine(j7.o _).mono ?_;rintro e w5 ⟨rfl,I4⟩;have n0:=o (H4.o.trans I4);have D0:=o (I4.whole C0.o)
    have n7:N (∀b,N (F0 w5 b)->x7 C 87 #[Z (I ⟨g,i*13,J⟩),m0 #[U p.pan,E H p.mcc,E H p.am,E H p.cur]] b fun e f=>e=F (G true)/\N (F0 w5 f)/\f.cell? ⟨X,1,J⟩=I (Z (I ⟨q,0,J⟩))/\f.cell? ⟨q,2,J⟩=I (V (I ⟨g,0,J⟩) n lc)/\f.cell? ⟨P,0,J⟩=I (U p.pan)/\f.cell? ⟨P,1,J⟩=I (E H p.mcc)/\f.cell? ⟨P,2,J⟩=I (E H p.am)/\f.cell? ⟨P,3,J⟩=I (E H p.cur)):=fun b m=>(k7.o b (n0.o.trans m.o)).mono (by
     rintro e f ⟨he,h4⟩;have h5:=m.o.trans h4
     exact⟨he,h5,g0.o P f (h5.whole D0.o) (n0.o.trans h5)⟩)
    have hS:=g0.o P w5 D0.o n0.o;have o7:N (F0 w5 w5.drew):=Zo.drew;go_upto_region 30 with fail
    go_region_held3 (fun b=>b.cell? ⟨X,1,J⟩=I (Z (I ⟨q,0,J⟩))/\b.cell? ⟨q,2,J⟩=I (V (I ⟨g,0,J⟩) n lc)/\b.cell? ⟨P,0,J⟩=I (U p.pan)/\b.cell? ⟨P,1,J⟩=I (E H p.mcc)/\b.cell? ⟨P,2,J⟩=I (E H p.am)/\b.cell? ⟨P,3,J⟩=I (E H p.cur)) (first|assumption|go_keep) (first
     |(go_at_call 87;refine(n7.o _ aG).mono ?_;rintro e w7 ⟨rfl,q0,F7⟩))
    have r0:=o (n0.o.trans q0.o);have J4:=o (q0.o.whole D0.o)
    have p7:N (∀b,N (F0 w7 b)->x7 C 87 #[Z (I ⟨g,k*13,J⟩),m0 #[U p.pan,E H p.mcc,E H p.am,E H p.cur]] b fun e f=>e=F (G true)/\N (F0 w7 f)/\f.cell? ⟨X,1,J⟩=I (Z (I ⟨q,0,J⟩))/\f.cell? ⟨q,2,J⟩=I (V (I ⟨g,0,J⟩) n lc)/\f.cell? ⟨P,0,J⟩=I (U p.pan)/\f.cell? ⟨P,1,J⟩=I (E H p.mcc)/\f.cell? ⟨P,2,J⟩=I (E H p.am)/\f.cell? ⟨P,3,J⟩=I (E H p.cur)):=fun b m=>(l7.o b (r0.o.trans m.o)).mono (by
     rintro e f ⟨he,h4⟩;have h5:=m.o.trans h4
     exact⟨he,h5,g0.o P f (h5.whole J4.o) (r0.o.trans h5)⟩)
    have hS:=g0.o P w7 J4.o r0.o;have o7:N (F0 w7 w7.drew):=Zo.drew;go_upto_region 31 with fail
    go_region_held3 (fun b=>b.cell? ⟨X,1,J⟩=I (Z (I ⟨q,0,J⟩))/\b.cell? ⟨q,2,J⟩=I (V (I ⟨g,0,J⟩) n lc)/\b.cell? ⟨P,0,J⟩=I (U p.pan)/\b.cell? ⟨P,1,J⟩=I (E H p.mcc)/\b.cell? ⟨P,2,J⟩=I (E H p.am)/\b.cell? ⟨P,3,J⟩=I (E H p.cur)) (first|assumption|go_keep) (first
     |(go_at_call 87;refine(p7.o _ aG).mono ?_;rintro e w9 ⟨rfl,q0,G7⟩))
    have q7:=o (z0.o.trans (r0.o.trans q0.o));go_wp2;go_roundg (n-(k+1))
    case measure=>omega
    exact⟨j+1,k+1,a+1,az,rfl,aE,rfl,aE,az,by show _=_;have:=HK.o;omega,d0,q7⟩
  have W6:=ai k n
  have d0:N (a=(Sk R (i+1)).length):=by
   show _=_
   rw[HA.o,show Sk R (i+1)=Sk R i++So R i (R.length-(i+1))from rfl,HN.o,show n-(i+1)=j from aj HK.o]
  go_wp2;go_roundg (n-(i+1))
  case measure=>omega
  exact⟨i+1,a,az,rfl,rfl,rfl,aE,ha,d0,y0⟩
 have r7:i<n/\u=true\/¬i<n:=by cases u<;>simp at j0 ⊢<;>omega
 obtain rfl:a0=M:=by
  rw[x0.o,<-i0.o]
  cases u with
  |true=>show(Sk [] i).length=0;rw[Bh];rfl
  |false=>rw[show i=n by simp at j0;omega,<-HN.o];rfl
 have HT:N (x7 C 88 #[Z (I ⟨L,0,J⟩),V oa a0 oc] wr fun e f=>e=F (.tuple #[])/\(∃Q Y t,NJ w c f L v bv nv Q mv Y (A+1) xs es t/\t.length=fs.length+4/\∀e,e∈t->e∈fs\/e.n<=8796093022208)/\US [1,5,6,8,9,10] c w f):=by
  obtain⟨c2,K4,s7⟩:=S6.o;obtain⟨O,t7⟩:=HC.o;obtain⟨_,_,_,l0⟩:=b0.o wr c0.o;have I7:=(iA.1 HS.o.bx).1;have L4:=O.trans K4 B4.o.size;have M4:US [1,5,6,8,9,10] c w wr:=US.cls (c1:=c) (US.cls (c1:=c1) (B4.o.mono) O R6.o fun k hk=>by rw[hk,O X C4.o.1,C4.o.2];decide) (Y7.refl _ _) (S:=fun _=>False) c0.o aA;refine(D4 c2 wr L v bv nv ov mv kv A xs es fs oa a0 oc _ (s7.keep c0.o (Y7.refl _ _)) (oS l0 az) (fun k hk=>(K4 k (w0.o.lt k hk).2).trans (t7 k hk)) (fun e he k hk g e1 e2=>?_) A4.o.1 A4.o.2 az).mono ?_
  ·obtain⟨g',k1,_,cs,k3,_⟩:=HS.o.o.el e (by simpa using he) k hk;rw[k1]at e1;injection e1 with e1;injection e1 with e1;have:=(iA.1 k3).1;have:=(w0.o.lt g e2).1;omega
  rintro e f ⟨he,Q,Y,t,⟨c',q1,q2⟩,q3,q4,q5⟩;exact⟨he,⟨Q,Y,t,⟨c',L4.trans q1 M4.size,q2⟩,q3,q4⟩,M4.cls L4 q5 fun k hk=>by revert hk;simp;omega⟩
 rcases r7 with⟨k0,rfl⟩|k0
 case' inl=>have k0:=af i n
 case' inr=>have k0:=ai i n
 all_goals
  go_wp2_with fail;refine HT.o.mono ?_;rintro e w7 ⟨rfl,h7,h8⟩;have H7:=o (j6 h7 h8);go_wp2;go_ret;exact⟨rfl,H7.o⟩
def qp (d:Bool)(b:y7)(X T q:Nat)(a:j0)(R:List Ze)(i:Nat)(c:j0)(wr:y7):Prop:=
 wr.heap[X]?=I (y6 #[Z (I ⟨T,0,J⟩),Z (I ⟨q,0,J⟩),G d,G false,c,a] 97)/\wr.ownsRow b.heap.size 35 4 c ((UB R).take i).length (X3 ((UB R).take i))/\Fr (fun k=>k=X) b wr
def qp.more {l c wr d X T q i g2 a g h b R p o}(t:wr.heap[X]?=I (y6 #[Z (I ⟨T,0,J⟩),Z (I ⟨q,0,J⟩),G l,G false,V h i g,b] 97))(m:wr.ownsRow c.heap.size 35 4 (V h i g) i (X3 ((UB R).take i)))(u:Fr (fun k=>k=X) c wr)(n:(UB R)[i]?=I p)(x:X<c.heap.size)(v:(wr.drew.alloc o).grownBy d (x6 h i g).ownBlock)(f:d.ownsRow c.heap.size 35 4 (V (I ⟨g2,0,J⟩) (i+1) a) (i+1) (X3 ((UB R).take i)++[U p.pan,E H p.mcc,E H p.am,E H p.cur])):
  d.heap[X]?=I (y6 #[Z (I ⟨T,0,J⟩),Z (I ⟨q,0,J⟩),G l,G false,V h i g,b] 97)/\qp l c X T q b R (i+1) (V (I ⟨g2,0,J⟩) (i+1) a) (d.setCell ⟨X,4,J⟩ (V (I ⟨g2,0,J⟩) (i+1) a)):=by
 have r:=(((Fr.refl _ wr).drew).alloc o).grown v fun k j=>z8 j
 have s:=r.whole t fun e=>aj (m.lt X e).1
 have y:=(iG.1 n).1;have e:=heap_setCell_same d X 4 _ _ (V (I ⟨g2,0,J⟩) (i+1) a) s;refine⟨s,by simpa using e,?_,(u.monoNew r fun k j=>x8 (m.lt k j).1).trans (Vh _ 4)⟩
 have w:((UB R).take (i+1)).length=i+1:=by rw[g6];omega
 rw[w,show X3 ((UB R).take (i+1))=X3 ((UB R).take i)++[U p.pan,E H p.mcc,E H p.am,E H p.cur]from by rw[List.take_add_one,n];simp[X3]]
 exact oF f (Vh _ 4) fun k j=>z
def I6 (c w L v z nv ov mv kv t xs es fs X)(h:Sn c w L v z nv ov mv kv t xs es fs)(hX:X∈xs)(ht:QL w)(hc:t<=4611686018427387904)(hE:(fs.length+4)*24<=140737488355328):
  x7 C 47 #[Z (I ⟨L,0,J⟩),Z (I ⟨X,0,J⟩)] w fun e w'=>e=F (G true)/\(∃M0 N0 l0,NJ w c w' L v z nv M0 mv N0 (t+1) xs es l0/\l0.length=fs.length+4/\∀e,e∈l0->e∈fs\/e.n<=8796093022208)/\US [1,5,6,8,9,10] c w w':=by
 obtain⟨ij,O0,P0,Q0,S0⟩:=info_parts QA;obtain⟨T,q,T0,R0,lo,f,O,g,g0,hx,B0,A,m0,d0,_⟩:=(h.tb X hX).now;obtain⟨R,hR⟩:=ad (KO lo R0)
 have n0:R.length<=8:=by rw[<-hR];have:=g0.bk.l8;cases lo<;>simp[KO];omega
 have HR:=Za hR;rw[hR]at A d0;have HS:=Za h;have V0:=Za m0;have C0:=Za g0;have HX:=Za hx;have o0:=Za B0;have p0:=Za A;have W0:=Za d0;have X0:=Za (j6 hc hE);have h0:=Za ((m0 w (Fr.refl _ _)).1.overlaps ht);rw[hR]at h0;have x0:=bC hx 0 _ rfl;obtain⟨d,e0⟩:=ad (Sl R).length;have B:=Za e0;obtain⟨n,hn⟩:=ad R0.length;have HN:=Za hn;have y1:n<=8:=aj g0.bk.l8
 have Y0:d<=64:=by
  have:=NX R R.length;have e3:=g9 n0 n0;unfold Sl at e0;omega
 rw[e0]at h0
 have q0:N ((UB R).length=d):=by show _=_;rw[UB,v0];exact e0
 clear h hX ht hc hE g0 hx B0 A m0 d0 e0 hn hR n0;go_enter func47,ntmps47;go_wp2_with fail;refine h0.o.mono ?_;rintro e r ⟨⟨lv,rfl,j⟩,r0⟩;obtain⟨oa,oc,e⟩:=oL j;subst e;have s0:=Za j;have u:=Za r0
 have D0:N (∃c1,Y7 w c c1/\Cl c1 (V oa d oc) 8/\Sn c1 r L v z nv ov mv kv t xs es fs):=by
  have Q:Y7 w c fun k=>if(x6 oa d oc).ownBlock=I k then 8 else c k:=fun k hk=>if_neg fun e=>aj (j.lt k e).1
  exact⟨_,Q,fun k hk=>if_pos hk,HS.o.keep r0 Q⟩
 obtain⟨c1,E0⟩:=D0.o;have HC:=Za E0;clear D0 E0 j r0 h0 x0
 have G0:N (f=true->∃ta tc b,O=V ta d tc/\∀W,F0 r W->W.ownsRow b 35 4 (V ta d tc) d (X3 (UB R))):=fun e=>by
  subst e;obtain⟨_,b,s⟩:zN c w 10 35 4 O (UB R).length (X3 (UB R)):=p0.o.1;rw[q0.o]at s;obtain⟨ta,tc,e⟩:=oL s;subst e;exact⟨ta,tc,b,rfl,fun W hf=>oF s (u.o.trans hf) aA⟩
 have M:N (∀W,F0 r W->W.heap[X]?=I (y6 #[Z (I ⟨T,0,J⟩),Z (I ⟨q,0,J⟩),G lo,G f,O,g] 97)/\W.ownsRow w.heap.size 44 6 (V oa d oc) d (XO (Sl R))):=fun W hf=>⟨(u.o.trans hf).whole HX.o aA,oF s0.o hf aA⟩
 go_upto_region 3 with fail
 go_cut [7] (fun z wz=>z=G true/\wz=r)
 case first=>
  have Y:=(M.o r (Fr.refl _ _)).1;have x3:=bC Y 3 _ rfl;have x4:=bC Y 4 _ rfl;clear Y
  cases f with
  |true=>
   obtain⟨ta,tc,b,rfl,_⟩:=G0.o rfl;go_wp2;go_meet;exact⟨rfl,rfl⟩
  |false=>
   go_wp2;go_meet;exact⟨rfl,rfl⟩
 case rest=>
 obtain⟨rfl,hw⟩:=hcut;replace hw:=hw.symm;subst hw
 go_upto_block 0 with fail
 go_cut [7] (fun z wz=>z=G true/\N (F0 r wz))
 case first=>
  cases f with
  |true=>
   obtain⟨ta,tc,b,rfl,s⟩:=G0.o rfl;have H0:=Za s;clear s;go_wp2
   go_loopg [7,8] d (fun m z iv wr=>∃i,i<=d/\m=d-i/\z=G true/\iv=E H (i:Nat)/\N (F0 r wr))
   case atStart=>exact⟨0,x9 _,rfl,rfl,rfl,Fr.refl _ _⟩
   obtain⟨i,hi,rfl,rfl,rfl,i0⟩:=hrel;obtain⟨r3,r2⟩:=M.o wr i0.o;have r1:=H0.o wr i0.o;have x3:=bC r3 3 _ rfl;by_cases Z0:i<d
   ·have w0:=af i d;obtain⟨x,hx⟩:∃x,(Sl R)[i]?=I x:=⟨_,gE (aj B.o)⟩;obtain⟨n1,n2,p⟩:=x;obtain⟨tg,e,_⟩:=I1 r1 q0.o (show(UB R)[i]?=I p by rw[UB,y9,hx];rfl);subst e;obtain⟨og,e,l⟩:=wv r2 B.o hx;subst e;have o2:=l 2 _ rfl;have o3:=l 3 _ rfl;have o4:=l 4 _ rfl;have o5:=l 5 _ rfl
    have y0:N ((UB R)[i]?=I p):=by rw[UB,y9,hx];rfl
    clear l r1 r2 r3 hx;go_upto_region 8 with fail;clear x3 o2 o3 o4 o5;generalize hA:wr.alloc _=WA at*;have z0:=Za (i0.o.trans (DG hA));have I0:=Za (zM hA);obtain⟨PA,J0⟩:=ad wr.heap.size;rw[J0]at I0 ⊢;obtain⟨r3,r2⟩:=M.o WA z0.o;have r1:=H0.o WA z0.o;have x4:=bC r3 4 _ rfl;obtain⟨z1,e,t0,t1,t2,t3⟩:=I1 r1 q0.o y0.o;injection e with e;injection e with e _ _;subst e;clear hA J0 r1 r2 r3;go_upto_region 9 with fail;clear x4 t0 t1 t2 t3;generalize hB:WA.alloc _=WB at*;have d1:=Za (z0.o.trans (DG hB));have hb:=zM hB;have Q:=DI hB I0.o;have a0:=bC Q 0 _ rfl;have a1:=bC Q 1 _ rfl;have a2:=bC Q 2 _ rfl;have a3:=bC Q 3 _ rfl;have b0:=bC hb 0 _ rfl;have b1:=bC hb 1 _ rfl;have b2:=bC hb 2 _ rfl;have b3:=bC hb 3 _ rfl;clear Q hb hB;go_wp2;go_roundg (d-(i+1))
    case measure=>omega
    exact⟨i+1,az,rfl,rfl,aE,d1⟩
   have w0:=ai i d;clear r1 r2 r3;go_wp2;go_meet;exact⟨rfl,i0⟩
  |false=>
   have Y:=(M.o r (Fr.refl _ _)).1;have x3:=bC Y 3 _ rfl;clear Y;go_wp2
   go_loopg [7,8] 0 (fun _ z iv wr=>z=G true/\iv=E H 0/\N (wr=r))
   case atStart=>exact⟨rfl,rfl,rfl⟩
   obtain⟨rfl,rfl,HW⟩:=hrel;have e:=HW.o;subst e;go_wp2;go_meet;exact⟨rfl,Fr.refl _ _⟩
 case rest=>
 obtain⟨rfl,c0⟩:=hcut;generalize wc=w2 at*;have x3:=bC (M.o w2 c0.o).1 3 _ rfl
 go_upto_if 96 with fail
 go_cut [] (fun wz=>N (Fr (fun k=>k=X) r wz)/\N (NJ r c1 wz L v z nv ov mv kv t xs es fs)/\N (∃a2 t2,wz.heap[X]?=I (y6 #[Z (I ⟨T,0,J⟩),Z (I ⟨q,0,J⟩),G lo,G a2,t2,g] 97)))
 case first=>
  clear x3
  cases f with
  |true=>
   have y:N (Fr (fun k=>k=X) r w2/\NJ r c1 w2 L v z nv ov mv kv t xs es fs):=⟨c0.o.mono aA,c1,Y7.refl _ _,HC.o.2.2.keep c0.o (Y7.refl _ _)⟩;go_wp2;go_meet;exact⟨y.o.1,y.o.2,_,_,(M.o w2 c0.o).1⟩
  |false=>
   obtain rfl:O=V J 0 0:=p0.o.1;have f1:N (qp lo r X T q g R 0 (V J 0 0) w2):=⟨(M.o w2 c0.o).1,oZ _ _ _ _,c0.o.mono aA⟩;go_wp2
   go_loopg [11] d (fun m iv wr=>∃i tv,i<=d/\m=d-i/\iv=E H (i:Nat)/\N (qp lo r X T q g R i tv wr))
   case atStart=>exact⟨0,_,x9 _,rfl,rfl,f1⟩
   obtain⟨i,tv,hi,rfl,rfl,HM⟩:=hrel;by_cases Z0:i<d
   ·have w0:=af i d;obtain⟨x,hx⟩:∃x,(Sl R)[i]?=I x:=⟨_,gE (aj B.o)⟩;obtain⟨n1,n2,p⟩:=x
    have y0:N ((UB R)[i]?=I p):=by rw[UB,y9,hx];rfl
    obtain⟨m1,m2,m3⟩:=HM.o
    have k0:((UB R).take i).length=i:=by rw[g6,UB,v0,B.o];omega
    rw[k0]at m2;obtain⟨ta,tc,e⟩:=oL m2;subst e;have m4:=oF s0.o m3 (fun k hk=>aj (iA.1 HX.o).1);obtain⟨og,e,l⟩:=wv m4 B.o hx;subst e;have j0:=Za (j6 m2 m3);have g1:=Za m1;have x4:=bC m1 4 _ rfl;have o2:=l 2 _ rfl;have o3:=l 3 _ rfl;have o4:=l 4 _ rfl;have o5:=l 5 _ rfl
    have y4:∀o,(wr.alloc o).cell? ⟨X,4,J⟩=I (V ta i tc):=fun o=>(World.cell?_alloc_some wr ⟨X,4,J⟩ o (by simp[x4])).trans x4
    clear l hx m1 m2 m3 m4 k0;go_upto_region 14 with fail;refine wp_region_held_drew (S:=fun _=>True) aC trivial (fun P=>?_)
    iterate 4 (refine Yy 0 P ?_;try go_frame)
    iterate 4 ((first|refine Yy 0 P ?_|refine Yy 1 P ?_);try go_frame)
    refine XA [4,9] ?_;refine Zb rfl (fun K a=>?p1) (Zb rfl (fun K a=>?p2) j3)
    case' p1=>
     try rw[if_pos aD]
     go_simp;refine a.out _ _ P (fun _=>?_);clear a K
     try go_frame
     refine WI 9 (fun K a=>?_);go_simp;refine a.out _ _ P (fun _=>?_);clear a K
     try go_frame
     refine WI 10 (fun K a=>?_);go_simp;refine a.out _ _ trivial (fun P=>?_);clear a K
     try go_frame
    case' p2=>
     try rw[if_pos aD]
     go_simp;refine a.out _ _ P (fun _=>?_);clear a K
     try go_frame
     refine XA [4,10] ?_;refine Zb rfl (fun K a=>?p3) (Zb rfl (fun K a=>?p4) j3)
    case' p3=>
     try rw[if_pos aD]
     go_simp;refine a.out _ _ P (fun _=>?_);clear a K
     try go_frame
     refine WI 10 (fun K a=>?_);go_simp;refine a.out _ _ trivial (fun P=>?_);clear a K
     try go_frame
    case' p4=>
     try rw[if_pos aD]
     go_simp;refine a.out _ _ trivial (fun P=>?_);clear a K
     try go_frame
     refine WI 4 (fun K a=>?_);have z4:=y4;go_simp;refine a.out _ _ P (fun _=>?_);clear a K z4
     try go_frame
    all_goals
     refine WI 11 (fun K a=>?_);refine wp_append_lies _ (.tmp 107) (.tmp 113) 94 rfl r.heap.size 35 ij _ 4 40 underlying94 O0 P0 Q0 S0 rfl aB (V ta i tc) i (X3 ((UB R).take i)) rfl ?h1 ⟨wr.drew.heap.size,0,J⟩ 1 1 [U p.pan,E H p.mcc,E H p.am,E H p.cur] rfl rfl ?h2 ?h3 aB ?h4 ?h5 ?h6 _ rfl ?_
     case h1=>exact(oF j0.o.1 ((Fr.refl (fun _=>False) wr).drew) aA).alloc _
     case h2=>exact z6 (aN wr.drew (y6 #[U p.pan,E H p.mcc,E H p.am,E H p.cur] 35))
     case h3=>simp[y8]
     case h4=>unfold maxLen;omega
     case h5=>omega
     case h6=>have:=j0.o.2.size;simp;exact Nat.le_succ_of_le this
     intro g2 x1 w8 j f0 i1 _;obtain⟨A0,K0⟩:=qp.more g1.o j0.o.1 j0.o.2 y0.o (nL (iA.1 HX.o).1 u.o.size) f0 j;have j1:=Za K0;have e4:=bC A0 4 _ rfl;have f4:=bF A0 4;clear j f0 i1 K0 A0;refine a.out _ _ trivial (fun P=>?_);clear a K
     try go_frame
     iterate 2 (refine Yy 0 P ?_;try go_frame)
     refine WI 14 (fun K a=>?_);go_simp;refine a.out _ _ trivial (fun P=>?_);clear a K
     try go_frame
     refine wpAnyH_done aC ?_ _;clear e4 f4;go_wp2;go_roundg (d-(i+1))
     case measure=>omega
     exact⟨i+1,_,az,rfl,aE,j1⟩
   have w0:=ai i d;obtain rfl:i=d:=az;obtain⟨m1,m2,m3⟩:=HM.o;have e3:=bC m1 3 _ rfl;have f3:=bF m1 3
   have y:N (Fr (fun k=>k=X) r (wr.setCell ⟨X,3,J⟩ (G true))/\NJ r c1 (wr.setCell ⟨X,3,J⟩ (G true)) L v z nv ov mv kv t xs es fs):=by
    have hf:Fr (fun k=>k=X) r (wr.setCell ⟨X,3,J⟩ (G true)):=m3.trans (Vh _ 3)
    have Q:Y7 r c1 fun k=>if tv.ownBlock=I k then 10 else c1 k:=fun k hk=>if_neg fun e=>aj (m2.lt k e).1
    have L0:=(iA.1 HX.o).1;refine⟨hf,_,Q,HC.o.2.2.tells ((HC.o.1 X L0).trans o0.o) hf Q ?_⟩;have e:=heap_setCell_same wr X 3 _ _ (G true) m1;refine W0.o _ _ true tv g ((u.o.mono aA).trans hf) (HC.o.1.trans Q u.o.size) (by simpa using e) ⟨⟨fun k hk=>if_pos hk,r.heap.size,?_⟩,p0.o.2.imp id fun⟨D,e1,e2⟩=>⟨D,e1,(e2.keep (u.o) HC.o.1 aA).keep hf Q fun k hk=>?_⟩⟩
    ·have hl:(UB R).length=i:=by rw[UB,v0];exact B.o
     rw[v1 az]at m2;exact oF m2 (Vh _ 3) (fun k hk=>aj u.o.size)
    rw[hk,HC.o.1 X L0,o0.o]
    decide
   have k1:N ((wr.setCell ⟨X,3,J⟩ (G true)).heap[X]?=I (y6 #[Z (I ⟨T,0,J⟩),Z (I ⟨q,0,J⟩),G lo,G true,tv,g] 97)):=by
    have e:=heap_setCell_same wr X 3 _ _ (G true) m1
    show _=_
    simpa using e
   clear m1 m2 m3;go_wp2;go_meet;exact⟨y.o.1,y.o.2,_,_,k1.o⟩
 clear x3;obtain⟨l1,o1,q1⟩:=hcut;generalize wc=W at*;obtain⟨a2,t2,s1⟩:=q1.o
 apply_assumption
 exact zy c c1 w r W L v z nv ov mv kv t xs es fs X T q T0 R0 lo oa d oc n a2 t2 g HS.o ⟨C0.o.bk,C0.o.ar⟩ (iA.1 HX.o).1 o0.o X0.o (fun W hf=>by obtain⟨_,_,_,h⟩:=V0.o W hf;exact TV.of h) (by rw[HR.o];exact s0.o) u.o ⟨HC.o.1,HC.o.2.1⟩ l1.o o1.o s1 (by rw[HR.o];exact B.o) HN.o _ _ _ _ _ _ _ _ _ _ _ _ _ _ _ _ _ _ _ _ _ _ _ _ _ _ _ _ _ _ _ _ _ _ _ _ _ _ _ _ _ _ _ _ _ _ _ _ _ _ _ _ _ _ _ _ _ _ _ _ _ _ _ _ _ _ _ _ _ _ _ _ _ _ _ _ _ _ _ _ _ _ _ _ _ _ _ _ _ _ _ _ _ _ _ _ _ _ _ _ _ _ _ _ _ _ _ _ _ _ _ _ _ _ _ _ _ _ _ _ _ _ _ _ _ _ _ _ _ _ _ _ _ _ _ _ _ _ _ _ _ _ _ _ _ _ _ _ _ _ _ _ _ _ _ _ _ _ _ _ _ _ _ _ _ _ _ _ _ _ _ _ _ _ _ _ _ _ _ _ _ _ _ _ _ _ _ _ _ _ _ _ _ _ _ _ _ _ _ _ _ _ _ _ _ _ _ _ _ _ _ _ _ _ _ _ _ _ _ _ _ _ _ _ _ _ _ _ _ _ _ _ _ _ _ _ _ _ _ _ _ _ _ _ _ _ _ _ _ _
def KN.at {c w W L tn u x y z s q A B r t es}(h:KN c w L tn u x y z s (V r q A) (V t q B) es [])(C:F0 w W){i e}(hi:es[i]?=I e):
  ∃b d,r=I ⟨b,0,J⟩/\t=I ⟨d,0,J⟩/\W.cell? ⟨b,i,J⟩=I (V e.a e.n e.c)/\W.cell? ⟨d,i,J⟩=I (U e.m)/\∀k,k<e.n->∃g,e.a=I ⟨g,0,J⟩/\∀j v,(F9 s e.m)[j]?=I v->W.cell? ⟨g,k*s+j,J⟩=I v:=by
 have f:=h.keep C (Y7.refl _ _) aA;have l:=f.nm;rw[z9]at l;have K:=(iG.1 hi).1;obtain⟨b,_,o,_,_⟩:=l.form az;obtain⟨d,_,p,_,_⟩:=f.ma.form az;injection o with o _ _;injection p with p _ _;subst o p;refine⟨b,d,rfl,rfl,?_,?_,fun k D=>?_⟩
 ·have:=l.cells (g:=b) rfl i _ (by rw[y9,hi];rfl);rw[Yf,k0]at this;exact this
 ·have:=f.ma.cells (g:=d) rfl i _ (by rw[y9,hi];rfl);rw[Yf,k0]at this;exact this
 obtain⟨g,E,_,cs,F,G⟩:=f.el e (by simpa using mG hi) k D;exact⟨g,E,fun j v H=>bC F _ _ (G j v H)⟩
def D5 (c w L v bv nv ov mv B R xs D K)(h:Sn c w L v bv nv ov mv B R xs D K)(hE:D.length<=8796093022208)(S:K.length<=8796093022208)(hn:∀e,e∈D\/e∈K->e.n<=maxLen):
  x7 C 29 #[Z (I ⟨L,0,J⟩)] w fun e w'=>e=F (G true)/\F0 w w':=by
 have M:=o hn;have h1:=h.n.nm;have h2:=h.o.nm;rw[z9]at h1 h2;obtain⟨na,nc,e⟩:=oL h1;subst e;obtain⟨ma,mc,e⟩:=oL h.n.ma;subst e;obtain⟨oa,oc,e⟩:=oL h2;subst e;obtain⟨ka,kc,e⟩:=oL h.o.ma;subst e;obtain⟨q,T⟩:=ad D.length;have HQ:=o T;obtain⟨u,X⟩:=ad K.length;have HU:=o X;have A:=o h;rw[T,X]at A
 have Q:N (∀W,F0 w W->W.cell? ⟨L,2,J⟩=I (V na q nc)/\W.cell? ⟨L,4,J⟩=I (V ma q mc)/\W.cell? ⟨L,3,J⟩=I (V oa u oc)/\W.cell? ⟨L,5,J⟩=I (V ka u kc)):=fun W hf=>by
  have b:=hf.whole A.o.bx;exact⟨Zc b 2,Zc b 4,Zc b 3,Zc b 5⟩
 rw[T]at hE;rw[X]at S;go_enter func29,ntmps29;go_wp2
 go_loopg [3,4] q (fun m Y _ wr=>∃i,i<=q/\m=q-i/\Y=E H (i:Nat)/\N (F0 w wr))
 case atStart=>exact⟨0,x9 _,rfl,rfl,(Fr.refl _ _)⟩
 obtain⟨i,hi,rfl,rfl,j⟩:=hrel;obtain⟨c2,c4,c3,c5⟩:=Q.o wr j.o;by_cases a0:i<q
 ·have l:=af i q;obtain⟨e,p⟩:∃e,D[i]?=I e:=⟨_,gE (aj HQ.o)⟩;have r:=o p;have s:=M.o e (z8 (mG p));unfold maxLen at s;have O:(e.n:Int)<=9223372036854775807:=az;obtain⟨gn,gm,d,f,s1,_⟩:=A.o.n.at j.o p;subst d f;go_wp2
  go_loopg [4] e.n (fun m B wr=>∃k,k<=e.n/\m=e.n-k/\B=E H (k:Nat)/\N (F0 w wr))
  case atStart=>exact⟨0,x9 _,rfl,rfl,j⟩
  obtain⟨k,hk,rfl,rfl,a⟩:=hrel;obtain⟨d2,d4,d3,d5⟩:=Q.o wr a.o;obtain⟨b0,c0,d,f,r1,r2,P⟩:=A.o.n.at a.o r.o;injection d with d;injection d with d _ _;injection f with f;injection f with f _ _;subst d f;by_cases t:k<e.n
  ·have x:=af k e.n;obtain⟨g,ea,y⟩:=P k t;rw[ea]at r1
   (have t0:wr.cell? ⟨g,k,J⟩=I (U e.m):=(by simpa using y 0 _ rfl);clear P y;go_upto_region 7 with fail)
   go_quiet (fail)
   have z:N (F0 w (wr.drewN nq)):=a.o.trans ⟨rfl,rfl,rfl,j4 _,fun _ _ _=>rfl⟩;go_wp2;go_roundg (e.n-(k+1))
   case measure=>omega
   exact⟨k+1,az,rfl,aE,z⟩
  have x:=ai k e.n;go_wp2;go_roundg (q-(i+1))
  case measure=>omega
  exact⟨i+1,az,rfl,aE,a⟩
 have l:=ai i q;go_wp2
 go_loopg [5,6] u (fun m Y _ wr=>∃i,i<=u/\m=u-i/\Y=E H (i:Nat)/\N (F0 w wr))
 case atStart=>exact⟨0,x9 _,rfl,rfl,j⟩
 obtain⟨i,hi,rfl,rfl,j⟩:=hrel;obtain⟨c2,c4,c3,c5⟩:=Q.o wr j.o;by_cases a0:i<u
 ·have l:=af i u;obtain⟨e,p⟩:∃e,K[i]?=I e:=⟨_,gE (aj HU.o)⟩;have r:=o p;have s:=M.o e (x8 (mG p));unfold maxLen at s;have O:(e.n:Int)<=9223372036854775807:=az;obtain⟨gn,gm,d,f,s1,_⟩:=A.o.o.at j.o p;subst d f;go_wp2
  go_loopg [6] e.n (fun m B wr=>∃k,k<=e.n/\m=e.n-k/\B=E H (k:Nat)/\N (F0 w wr))
  case atStart=>exact⟨0,x9 _,rfl,rfl,j⟩
  obtain⟨k,hk,rfl,rfl,a⟩:=hrel;obtain⟨d2,d4,d3,d5⟩:=Q.o wr a.o;obtain⟨b0,c0,d,f,r1,r2,P⟩:=A.o.o.at a.o r.o;injection d with d;injection d with d _ _;injection f with f;injection f with f _ _;subst d f;by_cases t:k<e.n
  ·have x:=af k e.n;obtain⟨g,ea,y⟩:=P k t;rw[ea]at r1
   (have t0:wr.cell? ⟨g,k*6,J⟩=I (U e.m):=y 0 _ rfl;have t1:wr.cell? ⟨g,k*6+1,J⟩=I (U e.m):=y 1 _ rfl;have t2:wr.cell? ⟨g,k*6+2,J⟩=I (U ⟨#[]⟩):=y 2 _ rfl;clear P y;go_upto_region 15 with fail)
   go_quiet (fail)
   have z:N (F0 w (wr.drewN nq)):=a.o.trans ⟨rfl,rfl,rfl,j4 _,fun _ _ _=>rfl⟩;go_wp2;go_roundg (e.n-(k+1))
   case measure=>omega
   exact⟨k+1,az,rfl,aE,z⟩
  have x:=ai k e.n;go_wp2;go_roundg (u-(i+1))
  case measure=>omega
  exact⟨i+1,az,rfl,aE,a⟩
 have l:=ai i u;go_wp2;go_ret;exact⟨rfl,j.o⟩
