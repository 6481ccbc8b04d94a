import Derived.Test.YtccikgogjfbpeaaGreatDoorMb
open Option renaming some->V,none->Z
open Go.Value renaming pointer->U,int->H,slice->z0,bool->y6,agg->x5
open Go renaming World->O,Value->z7
open Go.IntKind renaming i64->G,i64->x7
open List renaming mem_flatMap->z1,mem_cons->z4,mem_iff_getElem?->z6,any_eq_true->y0,mem_filter->y1,length_eq_zero_iff->y2,mem_append->y3,filter_eq_nil_iff->y4,mem_singleton->y8,nodup_cons->x4,mem_map->x6
open Go.Obj renaming cells->z2
open Go.World renaming putObj_heap_other->z3,putObj_heap_same->y5,alloc_heap_new->y7
open Go.Proofs.Tryz renaming prog->z5
open Bool renaming and_eq_true->z8,eq_iff_iff->y9
open Go.Ending renaming returned->z9
namespace Go.Proofs.YtccikgogjfbpeaaGreatDoor
set_option maxRecDepth 30000
set_option maxHeartbeats 8000000
open Go.RowKit
theorem KP (side:Nat)(A:WH)(b d f g:Rl)(a:Option Addr)(n c:Nat)(w:O):
  Calls z5 172 #[H G (side:Nat),x5 #[Xg b A.s0,Xg d A.s1,Xg f A.s2,Xg g A.s3],z0 a n c] w fun e w'=>e=z9 (.func (.func 212) #[] #[U (V ⟨w.heap.size,0,Z⟩),U (V ⟨w.heap.size+1+1,0,Z⟩),U (V ⟨w.heap.size+1,0,Z⟩)])/\w'=((w.alloc (z2 #[H G (side:Nat)] 3)).alloc (z2 #[Xg b A.s0,Xg d A.s1,Xg f A.s2,Xg g A.s3] 215)).alloc (z2 #[z0 a n c] 217):=by
 have h:∀(fn:Fn)(first cap:Array z7)(w:O),(Instr.makeFunc fn first cap).run z5 w=.ok (.func fn first cap) w:=fun _ _ _ _=>rfl
 unfold Xg;go_enter Tryz.func172,Tryz.ntmps172;go_wp2;go_ret;exact⟨rfl,rfl⟩
structure UN where
 p0:Nat
 p1:Nat
 p2:Nat
 p3:Nat
def UN.set (p:UN)(side n:Nat):UN:=
 match side with
 |0=>{p with p0:=n}
 |1=>{p with p1:=n}
 |2=>{p with p2:=n}
 |_=>{p with p3:=n}
def UN.at (p:UN):Nat->Nat
 |0=>p.p0
 |1=>p.p1
 |2=>p.p2
 |_=>p.p3
def XQ (A:WH):Nat->List X9->List (UN×Nat)
 |0,es=>[(⟨0,0,0,0⟩,es.length)]
 |k+1,es=>(Xq (3-k) A es).flatMap fun n=>(XQ A k (WP (3-k) n es)).map fun y=>(y.1.set (3-k) n,y.2)
theorem SQ (n:Nat):∀l:List Nat,(∃x,x∈l/\x<=n)->∃m,m∈l/\m<=n/\∀x,x∈l->x<=n->x<=m
 |[],h=>by obtain⟨x,a,_⟩:=h;cases a
 |y::r,h=>by
  by_cases c:∃x,x∈r/\x<=n
  ·obtain⟨m,g,i,f⟩:=SQ n r c
   by_cases j:y<=n/\m<=y
   ·refine⟨y,by simp,j.1,fun x a b=>?_⟩
    rcases z4.1 a with rfl|a
    ·omega
    ·have:=f x a b;omega
   ·refine⟨m,by simp[g],i,fun x a b=>?_⟩
    rcases z4.1 a with rfl|a
    ·omega
    ·exact f x a b
  ·obtain⟨x,a,b⟩:=h
   rcases z4.1 a with rfl|a
   ·refine⟨x,by simp,b,fun z d e=>?_⟩
    rcases z4.1 d with rfl|d
    ·omega
    ·exact absurd ⟨z,d,e⟩ c
   ·exact absurd ⟨x,a,b⟩ c
theorem KQ {ZP:YL}{n:Nat}(h:ZP.1<=n/\n<=ZP.2):n∈Sy ZP n:=by simp[Sy,YR,h]
theorem IF {side n:Nat}{ZP:YL}{es:List X9}(f:YR ZP n=true):∃m,m∈st1 side ZP es/\YR ZP m=true/\∀e,e∈es->Xp e.A side m=Xp e.A side n:=by
 simp only[YR,z8,decide_eq_true_eq]at f;obtain⟨m,j,l,g⟩:=SQ n (st1 side ZP es) ⟨ZP.1,by simp[st1],f.1⟩;have k:ZP.1<=m:=g ZP.1 (by simp[st1]) f.1;refine⟨m,j,by simp only[YR,z8,decide_eq_true_eq];omega,fun e i=>?_⟩
 have d:∀t,t∈e.A.at side->YR t m=YR t n:=by
  intro t c
  have c1:ZP.1<=t.1->t.1<=n->t.1<=m:=fun a b=>g t.1 (by
   simp only[st1,z4,z1];refine Or.inr ⟨e,i,?_⟩;simp only[Yg,z1]
   exact⟨t,c,by simp only[Ps,y3];exact Or.inl (KQ (by omega))⟩) b
  have o:ZP.1<=t.2+1->t.2+1<=n->t.2+1<=m:=fun a b=>g (t.2+1) (by
   simp only[st1,z4,z1];refine Or.inr ⟨e,i,?_⟩;simp only[Yg,z1]
   exact⟨t,c,by simp only[Ps,y3];exact Or.inr (KQ (by omega))⟩) b
  rw[y9];simp only[YR,z8,decide_eq_true_eq];omega
 unfold Xp;rw[y9];simp only[y0]
 constructor
 ·rintro⟨t,c,h⟩;exact⟨t,c,by rw[<-d t c];exact h⟩
 ·rintro⟨t,c,h⟩;exact⟨t,c,by rw[d t c];exact h⟩
theorem KR {side n:Nat}{A:WH}{es:List X9}(a:Xp A side n=true):∃m,m∈Xq side A es/\Xp A side m=true/\∀e,e∈es->Xp e.A side m=Xp e.A side n:=by
 simp only[Xp,y0]at a;obtain⟨ZP,b,a⟩:=a;obtain⟨m,c,d,f⟩:=IF (side:=side) (es:=es) a;refine⟨m,?_,?_,f⟩
 ·unfold Xq
  rw[OZ];simp only[YX,z1];exact⟨ZP,b,c⟩
 ·simp only[Xp,y0]
  exact⟨ZP,b,d⟩
theorem FE {side m:Nat}{A:WH}{es:List X9}(c:∀s,s∈A.at side->s.1<=s.2)(h:m∈Xq side A es):Xp A side m=true:=by
 unfold Xq at h;rw[OZ]at h;simp only[YX,z1]at h;obtain⟨ZP,b,h⟩:=h;simp only[Xp,y0];refine⟨ZP,b,?_⟩;simp only[st1,z4,z1]at h;rcases h with rfl|⟨e,_,h⟩
 ·have:=c ZP b
  simp only[YR,z8,decide_eq_true_eq];omega
 ·simp only[Yg,z1,Ps,y3]at h
  obtain⟨t,_,h⟩:=h
  have g:∀x,m∈Sy ZP x->YR ZP m=true:=by
   intro x a;unfold Sy at a
   split at a
   ·rename_i d
    simp at a;subst a;exact d
   ·cases a
  rcases h with h|h
  ·exact g _ h
  ·exact g _ h
def W7 (A:WH):Nat->UN->Bool
 |0,_=>true
 |k+1,p=>Xp A (3-k) (p.at (3-k))&&W7 A k p
theorem Pb (p:UN){s:Nat}(h:s<4)(n:Nat):(p.set s n).at s=n:=by
 have:s=0\/s=1\/s=2\/s=3:=by omega
 rcases this with rfl|rfl|rfl|rfl<;>rfl
theorem Lm (p:UN){s t:Nat}(h:s<4)(d:t<4)(a:s≠t)(n:Nat):(p.set s n).at t=p.at t:=by
 have b:s=0\/s=1\/s=2\/s=3:=by omega
 have c:t=0\/t=1\/t=2\/t=3:=by omega
 rcases b with rfl|rfl|rfl|rfl<;>rcases c with rfl|rfl|rfl|rfl<;>first|rfl|exact absurd rfl a
theorem O3 (A:WH)(p:UN)(s n:Nat)(a:s<4):∀k,k+s<=3->W7 A k (p.set s n)=W7 A k p
 |0,_=>rfl
 |k+1,h=>by
  unfold W7;rw[Lm p a (by omega) (by omega) n,O3 A p s n a k (by omega)]
theorem UI {A:WH}(a:∀side s,s∈A.at side->s.1<=s.2):∀k,k<=4->∀(es:List X9)(y:UN×Nat),y∈XQ A k es->W7 A k y.1=true/\y.2=(es.filter fun e=>W7 e.A k y.1).length
 |0,_,es,y,h=>by
  simp only[XQ,y8]at h;subst h;refine⟨rfl,?_⟩
  show es.length=(List.filter (fun _=>true) es).length
  rw[List.filter_eq_self.2 (fun _ _=>rfl)]
 |k+1,hk,es,y,h=>by
  simp only[XQ,z1,x6]at h;obtain⟨n,c,z,d,rfl⟩:=h;obtain⟨f,g⟩:=UI a k (by omega) _ z d
  have b:∀B:WH,W7 B (k+1) (z.1.set (3-k) n)=(Xp B (3-k) n&&W7 B k z.1):=fun B=>by
   conv=>lhs;unfold W7
   rw[Pb z.1 (by omega) n,O3 B z.1 (3-k) n (by omega) k (by omega)]
  refine⟨?_,?_⟩
  ·show W7 A (k+1) (z.1.set (3-k) n)=true
   rw[b,FE (a _) c,f];rfl
  ·show z.2=_
   rw[g];unfold WP;rw[List.filter_filter]
   congr 1
   refine List.filter_congr fun e _=>?_
   rw[b,Bool.and_comm]
theorem Ro {A:WH}:∀k,k<=4->∀(es:List X9)(p:UN),W7 A k p=true->∃y,y∈XQ A k es/\∀e,e∈es->W7 e.A k y.1=W7 e.A k p
 |0,_,es,p,_=>⟨_,y8.2 rfl,fun _ _=>rfl⟩
 |k+1,hk,es,p,h=>by
  unfold W7 at h;rw[z8]at h;obtain⟨m,b,_,c⟩:=KR (es:=es) h.1;obtain⟨z,d,f⟩:=Ro k (by omega) (WP (3-k) m es) p h.2;refine⟨(z.1.set (3-k) m,z.2),?_,fun e a=>?_⟩
  ·simp only[XQ,z1,x6]
   exact⟨m,b,z,d,rfl⟩
  ·show W7 e.A (k+1) (z.1.set (3-k) m)=_
   unfold W7;rw[Pb z.1 (by omega) m,O3 e.A z.1 (3-k) m (by omega) k (by omega),<-c e a]
   cases g:Xp e.A (3-k) m with
   |false=>rfl
   |true=>
    rw[f e (by unfold WP;rw[y1];exact⟨a,g⟩)]
theorem FF {A:WH}(d:∀side s,s∈A.at side->s.1<=s.2)(es:List X9):(∃y,y∈XQ A 4 es/\y.2=0)↔∃p,W7 A 4 p=true/\∀e,e∈es->W7 e.A 4 p=false:=by
 constructor
 ·rintro⟨y,a,g⟩
  obtain⟨h,b⟩:=UI d 4 (by omega) es y a;refine⟨y.1,h,fun e c=>?_⟩;rw[g]at b;have f:=List.eq_nil_of_length_eq_zero b.symm;rw[y4]at f
  simpa using f e c
 ·rintro⟨p,i,j⟩
  obtain⟨y,a,k⟩:=Ro 4 (by omega) es p i;obtain⟨_,b⟩:=UI d 4 (by omega) es y a;refine⟨y,a,?_⟩;rw[b,y2,y4];intro e c;rw[k e c,j e c];simp
open Go.Shelf
def PE (a:List Nat):List Deferred:=a.map fun D=>{target:=.collected D,args:=#[]}
def Di (W:O):List Nat->O
 |[]=>W
 |D::r=>Di (W.putObj D (.deferred Z)) r
theorem WC {F:Fence}{n:Nat}{P:Program}{fn:Func}{tmps:Array z7}{R:Ending->O->Prop}:∀(a:List Nat)(W:O),a.Nodup->(∀D,D∈a->W.heap[D]?=V (.deferred (V [])))->LeavesIn F n P fn tmps R [] .returning (Di W a)->LeavesInM F n P fn tmps R (PE a) .returning W
 |[],_,_,_,h=>h
 |D::r,W,hd,hD,h=>by
  obtain⟨c,d⟩:=x4.1 hd;refine⟨by simp,.inl ⟨D,_,rfl,run_takeDeferred (hD D (by simp)),?_⟩⟩;refine WC r _ d (fun E b=>?_) h;exact(z3 (fun e=>c (by first|exact e▸b|exact e.symm▸b))).trans (hD E (by simp[b]))
def YA {β:Type}(M:Nat)(I:β->O->Prop):Prop:=∀s W a,I s W->Fr (fun k=>M<=k) W a->I s a
def Dj {α:Type}(S:Nat->Prop)(I:List α->O->Prop)(b:Code->List α->O->Prop)(a:List α)(W:O):Exit->Act->O->Prop
 | .normal,_,W'=>Fr S W W'/\I a W'
 | .ret,_,W'=>Fr S W W'/\b .ret a W'
 | .exit id,_,W'=>Fr S W W'/\b (.exit id) a W'
 |_,_,_=>False
def Ln (B:Nat)(r:Loop)(W:O):Prop:=W.heap[B+1]?=V (.loop r)/\W.heap[B]?=V (.deferred (V []))
def Dk (B:Nat)(r:Loop)(c:Code)(W:O):Prop:=W.heap[B+1]?=V (.loop {r with state:=.done,pending:=V c})/\W.heap[B]?=V (.deferred (V []))
def UW (S:Nat->Prop)(B:Nat):Nat->Prop:=fun k=>S k\/k=B\/k=B+1
theorem Rp {S:Nat->Prop}{l:Nat}{W:O}(h:S l)(o:Obj):Fr S W (W.putObj l o):=by
 have a:=grownBy_putObj' W l o;exact⟨a.os,a.tape,a.output,a.size,fun k c b=>z3 (by rintro rfl;exact b h)⟩
theorem YA.put {β:Type}{M:Nat}{I:β->O->Prop}(h:YA M I){s:β}{W:O}{l:Nat}(o:Obj)(a:I s W)(b:M<=l):I s (W.putObj l o):=h s W _ a (Rp b o)
theorem YA.alloc {β:Type}{M:Nat}{I:β->O->Prop}(h:YA M I){s:β}{W:O}(o:Obj)(a:I s W):I s (W.alloc o):=h s W _ a ((Fr.refl _ _).alloc o)
theorem YA.mono {β:Type}{M N:Nat}{I:β->O->Prop}(h:YA M I)(a:M<=N):YA N I:=fun s W b c d=>h s W b c (d.mono (fun _ e=>Nat.le_trans a e))
theorem YA.and {β:Type}{M:Nat}{I K:β->O->Prop}(h:YA M I)(k:YA M K):YA M (fun s W=>I s W/\K s W):=fun s W a b c=>⟨h s W a b.1 c,k s W a b.2 c⟩
theorem YA.map {β γ:Type}{M:Nat}{I:β->O->Prop}(h:YA M I)(f:γ->β):YA M (fun(s:γ) W=>I (f s) W):=fun s W a b c=>h (f s) W a b c
theorem YA.pure {β:Type}{M:Nat}(p:β->Prop):YA M (fun(s:β)(_:O)=>p s):=fun _ _ _ a _=>a
theorem YA.fr {β:Type}{M:Nat}{S:Nat->Prop}{a:O}(h:a.heap.size<=M):YA M (fun(_:β) W=>Fr S a W):=fun _ _ _ b c=>b.monoNew c (fun _ d=>.inr (Nat.le_trans h d))
theorem YA.block {β:Type}{M b:Nat}{o:Obj}(h:b<M):YA M (fun(_:β)(W:O)=>W.heap[b]?=V o):=fun _ W _ a c=>(c.block b (iA.1 a).1 (by show¬M<=b;omega)).trans a
theorem Lo {M:Nat}:∀(a:List Nat)(W:O),(∀D,D∈a->M<=D)->Fr (fun k=>M<=k) W (Di W a)
 |[],W,_=>Fr.refl _ W
 |D::r,W,h=>(Rp (S:=fun k=>M<=k) (h D (by simp)) _).trans (Lo r _ (fun E b=>h E (by simp[b])))
theorem R9 {S:Nat->Prop}{k:Nat}{X Y:O}{o:Obj}(h:Fr S X Y)(b:¬S k)(a:X.heap[k]?=V o):Y.heap[k]?=V o:=
 (h.block k (iA.1 a).1 b).trans a
theorem FG {α:Type}{P:Program}{m B:Nat}{S:Nat->Prop}{r:Loop}{I:List α->O->Prop}{L:Code->List α->O->Prop}{b:α->Array z7}{x:α}{pre:List α}{N:Nat->Act->O->Prop}{W:O}
  (Q:Fence.wide.fn r.fn)(o:r.state=.ready)(z:r.pending=Z)(R:(b x).size=r.params.size)(hS:∀k,S k->k<B)(hI:YA B I)(A:∀c,YA B (L c))(U:∀m g,OwnFrom B (fun(_:Unit) W=>N m g W))(J:Ln B r W)
  (d:∀K:Act->O->Prop,(∀g a,Fr S W a->I pre a->N W.heap.size g a->K g a)->r.assign.wpIn (Fence.wide.inRound (B+1)) m P (Exit.then K (fun _ _ _=>False)) {tmps:=(r.params.zip (b x)).foldl (fun t (p,v)=>t.setIfInBounds p v) r.tmps,defers:=[]} W)
  (q:∀M g a,B+2<=M->I pre a->N M g a->r.body.wpIn (Fence.wide.inRound (B+1)) m P (Dj (fun k=>S k\/M<=k) I L (pre++[x]) a) g a):
  YieldAt Fence.wide m P (B+1) (b x) W fun e a=>Fr (UW S B) W a/\((e=z9 (y6 true)/\I (pre++[x]) a/\Ln B r a)\/(e=z9 (y6 false)/\∃c,L c (pre++[x]) a/\Dk B r c a)):=by
 refine⟨r.fn,_,r.assign,r.body,run_yield J.1 R,roundIn_of_wpIn Q (d _ fun g C D X hx=>?_)⟩
 have n1:¬S (B+1):=fun h=>by have:=hS _ h;omega
 have n0:¬S B:=fun h=>by have:=hS _ h;omega
 have Y:B+2<=W.heap.size:=(iA.1 J.1).1;have hl:=R9 D n1 J.1;have hd:=R9 D n0 J.2;have D:=D.mono (T:=UW S B) (fun k h=>.inl h);refine⟨_,run_beginRound hl o,?_⟩;have a0:=(iA.1 hl).1;have b0:(C.putObj (B+1) (.loop {r with state:=.busy})).heap[B+1]?=V (.loop {r with state:=.busy}):=y5 a0;have c0:(C.putObj (B+1) (.loop {r with state:=.busy})).heap[B]?=V (.deferred (V [])):=(z3 (by omega)).trans hd;have d0:Fr (UW S B) C (C.putObj (B+1) (.loop {r with state:=.busy})):=Rp (.inr (.inr rfl)) _;refine wpIn_mono (q _ g _ Y (hI.put _ X (by omega)) ((U _ g).putObj (s:=()) _ hx (by omega) hl rfl)) ?_;intro e a3 E w
 have u:∀j,Fr (fun k=>S k\/W.heap.size<=k) (C.putObj (B+1) (.loop {r with state:=.busy})) E->E.heap[B+1]?=V (.loop {r with state:=.busy})/\(E.putObj (B+1) j).heap[B+1]?=V j/\(E.putObj (B+1) j).heap[B]?=V (.deferred (V []))/\Fr (UW S B) W (E.putObj (B+1) j):=fun j l=>by
  have n:=R9 l (by rintro(h|h);exact n1 h;omega) b0;exact⟨n,y5 (iA.1 n).1,(z3 (by omega)).trans (R9 l (by rintro(h|h);exact n0 h;omega) c0),((D.trans d0).monoNew l (fun i X=>X.elim (fun h=>.inl (.inl h)) .inr)).trans (Rp (.inr (.inr rfl)) _)⟩
 have er:({{r with state:=.busy}with state:=.ready,pending:=Z}:Loop)=r:=by
  cases r
  simp at o z;subst o z;rfl
 cases e with
 |normal=>
  obtain⟨l,f⟩:=w;obtain⟨n,F,G,H⟩:=u (.loop r) l;have y:=run_endRound (P:=P) Z n;simp only[Option.isNone_none,if_true,er]at y;exact⟨_,_,y,H,.inl ⟨rfl,hI.put _ f (by omega),F,G⟩⟩
 |ret=>
  obtain⟨l,f⟩:=w;obtain⟨n,F,G,H⟩:=u (.loop {r with state:=.done,pending:=V .ret}) l;have y:=run_endRound (P:=P) (V .ret) n;exact⟨_,_,y,H,.inr ⟨rfl,.ret,(A _).put _ f (by omega),F,G⟩⟩
 |exit id=>
  obtain⟨l,f⟩:=w;obtain⟨n,F,G,H⟩:=u (.loop {r with state:=.done,pending:=V (.exit id)}) l;have y:=run_endRound (P:=P) (V (.exit id)) n;exact⟨_,_,y,H,.inr ⟨rfl,.exit id,(A _).put _ f (by omega),F,G⟩⟩
 |goto t=>exact w.elim
 |panic c=>exact w.elim
 |outgrown=>exact w.elim
def KS {α:Type}(P:Program)(gf:Nat)(lb:Array z7)(b:α->Array z7)(S:Nat->Prop)(c:List α)(w:O):Prop:=
 ∀(n l:Nat)(J d:List α->O->Prop)(W:O),Fr S w W->(∀k,S k->k<W.heap.size)->YA W.heap.size J->YA W.heap.size d->
  (∀pre x f,pre++[x]<+:c->J pre f->YieldAt Fence.wide n P l (b x) f fun e a=>Fr S f a/\((e=z9 (y6 true)/\J (pre++[x]) a)\/(e=z9 (y6 false)/\d (pre++[x]) a)))->
  J [] W->CallsIn Fence.wide (n+1) P gf (#[.func (.yield l) #[] #[]]++lb) W fun e a=>(∃v,e=z9 v)/\(J c a\/∃pre,pre<+:c/\d pre a)
theorem Ht {A B:O}{k:Nat}{o p:Obj}(a:Fr (fun i=>k+2<=i) A B)(h:A.heap[k+1]?=V o/\A.heap[k]?=V p):B.heap[k+1]?=V o/\B.heap[k]?=V p:=
 ⟨(a.block _ (iA.1 h.1).1 (by show¬k+2<=k+1;omega)).trans h.1,(a.block _ (iA.1 h.2).1 (by show¬k+2<=k;omega)).trans h.2⟩
theorem QG {α:Type}{P:Program}{g:Operand}{b:Array Tmp}{assign body:Code}{Q:Exit->Act->O->Prop}{a:Act}{w w0:O}{n gf:Nat}{S:Nat->Prop}{lb:Array z7}{d:α->Array z7}{y:List α}
  (hg:a.eval g=.func (.func gf) #[] lb)(eg:∀args w,(callFunc gf args).run P w=.ok (.enter gf args) w)(z:KS P gf lb d (UW S w.heap.size) y w0)(N:Fr S w0 w)(R:∀x,(d x).size=b.size)(hS:∀k,S k->k<w.heap.size)
  (I:List α->O->Prop)(J:Code->List α->O->Prop)(C:YA w.heap.size I)(j:∀c,YA w.heap.size (J c))(h0:I [] w)(T:α->Nat->Act->O->Prop)(U:∀x m i,OwnFrom w.heap.size (fun(_:Unit) W=>T x m i W))
  (f:∀pre x W (K:Act->O->Prop),pre++[x]<+:y->I pre W->(∀i u,Fr S W u->I pre u->T x W.heap.size i u->K i u)->assign.wpIn (Fence.wide.inRound (w.heap.size+1)) n P (Exit.then K (fun _ _ _=>False)) {tmps:=(b.zip (d x)).foldl (fun t (p,v)=>t.setIfInBounds p v) a.tmps,defers:=[]} W)
  (l:∀pre x M i W,pre++[x]<+:y->w.heap.size+2<=M->I pre W->T x M i W->body.wpIn (Fence.wide.inRound (w.heap.size+1)) n P (Dj (fun k=>S k\/M<=k) I J (pre++[x]) W) i W)
  (o:∀W,I y W->W.heap[w.heap.size]?=V (.deferred (V []))->Q .normal {a with defers:={target:=.collected w.heap.size,args:=#[]}::a.defers} W)
  (q:∀c pre W,pre<+:y->J c pre W->W.heap[w.heap.size]?=V (.deferred (V []))->c.wpIn Fence.wide (n+2) P Q {a with defers:={target:=.collected w.heap.size,args:=#[]}::a.defers} W):
  (Code.rangeFunc g b assign body).wpIn Fence.wide (n+2) P Q a w:=by
 refine wpIn_rangeFunc ?_;intro fn X
 have hL:((w.alloc (.deferred (V []))).alloc (.loop {state:=.ready,pending:=Z,fn,tmps:=a.tmps,params:=b,assign,body,defers:=w.heap.size})).heap[w.heap.size+1]?=V (.loop {state:=.ready,pending:=Z,fn,tmps:=a.tmps,params:=b,assign,body,defers:=w.heap.size}):=by
  have:=y7 (w.alloc (.deferred (V []))) (.loop {state:=.ready,pending:=Z,fn,tmps:=a.tmps,params:=b,assign,body,defers:=w.heap.size})
  rwa [World.size_alloc]at this
 have hD:((w.alloc (.deferred (V []))).alloc (.loop {state:=.ready,pending:=Z,fn,tmps:=a.tmps,params:=b,assign,body,defers:=w.heap.size})).heap[w.heap.size]?=V (.deferred (V [])):=(Below.heap_alloc _ _ _ (by simp)).trans (y7 w _);have Y:=C.alloc (.loop {state:=.ready,pending:=Z,fn,tmps:=a.tmps,params:=b,assign,body,defers:=w.heap.size}) (C.alloc (.deferred (V [])) h0);have a0:Fr (UW S w.heap.size) w0 ((w.alloc (.deferred (V []))).alloc (.loop {state:=.ready,pending:=Z,fn,tmps:=a.tmps,params:=b,assign,body,defers:=w.heap.size})):=((N.alloc _).alloc _).mono (fun k h=>.inl h)
 have D:((w.alloc (.deferred (V []))).alloc (.loop {state:=.ready,pending:=Z,fn,tmps:=a.tmps,params:=b,assign,body,defers:=w.heap.size})).heap.size=w.heap.size+2:=by simp
 refine⟨w.heap.size+1,_,((w.alloc (.deferred (V []))).alloc (.loop {state:=.ready,pending:=Z,fn,tmps:=a.tmps,params:=b,assign,body,defers:=w.heap.size})),{target:=.fn (.func gf) lb,args:=#[.func (.yield (w.heap.size+1)) #[] #[]]},((w.alloc (.deferred (V []))).alloc (.loop {state:=.ready,pending:=Z,fn,tmps:=a.tmps,params:=b,assign,body,defers:=w.heap.size})),gf,#[.func (.yield (w.heap.size+1)) #[] #[]]++lb,((w.alloc (.deferred (V []))).alloc (.loop {state:=.ready,pending:=Z,fn,tmps:=a.tmps,params:=b,assign,body,defers:=w.heap.size})),run_enterLoop_outer _ _ _ _ _,?q1,?q0,?q2,?q4,?q3⟩
 case q0=>exact fun _ _=>trivial
 case q4=>intro h;cases h
 case q1=>simp only[resolve,hg];simp[go_sem]
 case q2=>simp[invoke,go_sem,eg]
 case q3=>
  generalize(w.alloc (.deferred (V []))).alloc (.loop {state:=.ready,pending:=Z,fn,tmps:=a.tmps,params:=b,assign,body,defers:=w.heap.size})=W1 at*;have hr:=z n (w.heap.size+1) (fun pre W=>I pre W/\Ln w.heap.size {state:=.ready,pending:=Z,fn,tmps:=a.tmps,params:=b,assign,body,defers:=w.heap.size} W) (fun pre W=>∃c,J c pre W/\Dk w.heap.size {state:=.ready,pending:=Z,fn,tmps:=a.tmps,params:=b,assign,body,defers:=w.heap.size} c W) W1 a0 ?k0 ?k1 ?k2 ?k3 ⟨Y,hL,hD⟩
  case k0=>
   rintro k (h|rfl|rfl)
   ·have:=hS k h;omega
   ·omega
   ·omega
  case k1=>
   intro s A B L r;rw[D]at r;exact⟨C s A B L.1 (r.mono (fun k hk=>by show w.heap.size<=k;omega)),Ht r L.2⟩
  case k2=>
   intro s A B L r;rw[D]at r;obtain⟨c,E,F⟩:=L;exact⟨c,j c s A B E (r.mono (fun k hk=>by show w.heap.size<=k;omega)),Ht r F⟩
  case k3=>
   intro pre x W2 hp hJ;exact FG X rfl rfl (R x) hS C j (U x) hJ.2 (fun K hK=>f pre x W2 K hp hJ.1 hK) (fun M i u hM G hx=>l pre x M i u hp hM G hx)
  refine hr.mono ?_;rintro e W3 ⟨⟨v,rfl⟩,(⟨G,E,F⟩|⟨pre,H,c,G,E,F⟩)⟩
  ·exact⟨Z,_,run_endLoop E (by simp),o _ (C.put _ G (by omega)) ((z3 (by omega)).trans F)⟩
  ·exact⟨V c,_,run_endLoop E (by simp),q c pre _ H ((j c).put _ G (by omega)) ((z3 (by omega)).trans F)⟩
attribute [local go_sem] Oper.semAt_some
def Mu (p:UN):z7:=x5 #[H G (p.p0:Nat),H G (p.p1:Nat),H G (p.p2:Nat),H G (p.p3:Nat)]
def FH (y:UN×Nat):Array z7:=#[Mu y.1,H G (y.2:Nat)]
set_option maxRecDepth 100000 in
theorem FI (Bs h r N c:Nat)(S:Nat->Prop)(a:Option Addr)(w:O)(s:∀W,Fr S w W->W.cell? ⟨Bs,0,Z⟩=V (H G 4)/\W.cell? ⟨h,0,Z⟩=V (z0 a N c)):
  KS z5 212 #[U (V ⟨Bs,0,Z⟩),U (V ⟨h,0,Z⟩),U (V ⟨r,0,Z⟩)] FH S [(⟨0,0,0,0⟩,N)] w:=by
 intro n l J C W z A t k u B;obtain⟨c1,v⟩:=s W z;have x:Hid (F0 W (W.alloc (z2 #[.func (.yield l) #[] #[]] 312))):=(Fr.refl _ _).alloc _;refine callsIn_wide.2 ?_
 show Calls _ _ #[.func (.yield l) #[] #[],U (V ⟨Bs,0,Z⟩),U (V ⟨h,0,Z⟩),U (V ⟨r,0,Z⟩)] W _
 obtain⟨fn,tmps,d,body,b,y⟩:=u [] (⟨0,0,0,0⟩,N) (W.alloc (z2 #[.func (.yield l) #[] #[]] 312)) (by simp) (t.alloc _ B);unfold FH Mu at b;replace b:(Instr.yield l #[x5 #[H G 0,H G 0,H G 0,H G 0],H G (N:Nat)]).run z5 (W.alloc (z2 #[.func (.yield l) #[] #[]] 312))=.ok (.round l fn tmps d body) (W.alloc (z2 #[.func (.yield l) #[] #[]] 312)):=b;have g:=Za y;have D:(W.alloc (z2 #[.func (.yield l) #[] #[]] 312)).cell? ⟨h,0,Z⟩=V (z0 a N c):=(x.o.cell (p:=⟨h,0,Z⟩) (bL W _ v) (by simp)).trans v;have E:(W.alloc (z2 #[.func (.yield l) #[] #[]] 312)).cell? ⟨Bs,0,Z⟩=V (H G 4):=(x.o.cell (p:=⟨Bs,0,Z⟩) (bL W _ c1) (by simp)).trans c1;clear y u t k s A;go_enter Tryz.func212,Tryz.ntmps212;go_upto_region 2 with fail;refine(wpIn_wide (n:=n+1)).1 ?_
 gi_wp2
 refine g.o.mono ?_;rintro e F ⟨i,(⟨rfl,j⟩|⟨rfl,f⟩)⟩
 ·have m:=Za j
  clear j i b g
  gi_wp2
  go_wp2_with fail;refine bodyPost_ret (results_none rfl _ _ _) rfl ?_;exact⟨⟨_,rfl⟩,.inl m.o⟩
 ·have q:=Za f
  clear f i b g
  gi_wp2
  go_wp2_with fail;refine bodyPost_ret (results_none rfl _ _ _) rfl ?_;exact⟨⟨_,rfl⟩,.inr ⟨_,by simp,q.o⟩⟩
theorem SR {β:Type}{C b:Nat}{d:Array z7}{t:TypeId}:OwnFrom C (fun(_:β)(W:O)=>W.heap[b]?=V (z2 d t)):=fun _ W i row a f g=>
 (f.block _ (iA.1 a).1 (fun e=>by obtain⟨_,o,c,h⟩:=g _ e.symm;rw[a]at c;cases c;cases h)).trans a
theorem O4:∀(es:List X9)(k:Nat)(e:X9),es[k]?=V e->∀(j:Nat)(v:z7),(R5 e)[j]?=V v->(WI es)[k*4+j]?=V v
 |[],k,e,h=>by simp at h
 |x::r,0,e,h=>by
  simp at h;subst h;intro j v a;have b:=(iG.1 a).1
  show(R5 x++WI r)[0*4+j]?=V v
  rw[List.getElem?_append_left (by omega),Nat.zero_mul,Nat.zero_add];exact a
 |x::r,k+1,e,h=>by
  intro j v a;have l:(R5 x).length=4:=rfl
  show(R5 x++WI r)[(k+1)*4+j]?=V v
  rw[aR (by omega),l,show(k+1)*4+j-4=k*4+j from by omega];exact O4 r k e (by simpa using h) j v a
theorem Hu {W:O}{l:Nat}{v:z7}{es:List X9}{t:TypeId}(h:W.ownsRow l t 4 v es.length (WI es))(f:∀e,e∈es->e.ok W):∃a c,v=z0 a es.length c/\VF W a es/\∀g o,a=V ⟨g,o,Z⟩->l<=g/\g<W.heap.size:=by
 by_cases n:0<es.length
 ·obtain⟨g,cap,rfl,i,p⟩:=h.form n
  refine⟨_,_,rfl,fun k e b=>⟨f e (mG b),g,0,rfl,fun j v q=>?_⟩,fun r o e=>?_⟩
  ·have m:=h.cells (g:=g) rfl _ _ (O4 es k e b j v q)
   have d:∀k,(⟨g,0,Z⟩:Addr).add k=⟨g,k,Z⟩:=fun k=>by unfold Addr.add;split<;>simp_all
   rw[d]at m;rw[Nat.zero_add];exact m
  ·cases e
   exact⟨i,p⟩
 ·have b:es=[]:=y2.1 (by omega)
  subst b;rcases h.2 with⟨rfl,_⟩|⟨g,cap,s,rfl,i,u,_⟩
  ·exact⟨Z,0,rfl,fun k e b=>by simp at b,fun g o e=>by cases e⟩
  ·refine⟨_,_,rfl,fun k e b=>by simp at b,fun r o e=>?_⟩
   cases e
   exact⟨i,(iA.1 u).1⟩
theorem VF.frS {w w':O}{S:Nat->Prop}{a:Option Addr}{es:List X9}(h:VF w a es)(m:Fr S w w')(n:∀g o,a=V ⟨g,o,Z⟩->g<w.heap.size->¬S g)(b:∀e,e∈es->e.ok w'):VF w' a es:=by
 intro k e c;obtain⟨_,g,o,d,f⟩:=h k e c;refine⟨b e (mG c),g,o,d,fun j v i=>?_⟩;have l:=bL w _ (f j v i);exact(m.cell (p:=⟨g,o+k*4+j,Z⟩) l (n g o d l)).trans (f j v i)
theorem VF.old {w w':O}{a:Option Addr}{es:List X9}(h:VF w a es)(b:Fr (fun k=>w.heap.size<=k) w w'):VF w' a es:=by
 refine h.frS b (fun g o _ c d=>by omega) (fun e f=>?_);obtain⟨k,i⟩:=z6.1 f;exact(h k e i).1.frS b (fun x _ g o _ c d=>by omega)
structure Lp (W:O)(Bs Bo Ba side:Nat)(A:WH)(x0 x1 x2 x3:Rl)(a:Option Addr)(c:Nat)(es:List X9):Prop where
 s:W.cell? ⟨Bs,0,Z⟩=V (H G (side:Nat))
 o:W.cell? ⟨Bo,0,Z⟩=V (z0 a es.length c)
 a0:W.cell? ⟨Ba,0,Z⟩=V (Xg x0 A.s0)
 a1:W.cell? ⟨Ba,1,Z⟩=V (Xg x1 A.s1)
 a2:W.cell? ⟨Ba,2,Z⟩=V (Xg x2 A.s2)
 a3:W.cell? ⟨Ba,3,Z⟩=V (Xg x3 A.s3)
 ar:QD W A x0 x1 x2 x3
 ars:VF W a es
def Lz (side n:Nat)(y:UN×Nat):UN×Nat:=(y.1.set side n,y.2)
def Dl (A:WH)(k:Nat)(es:List X9)(side n:Nat):List (UN×Nat):=(XQ A k (WP side n es)).map (Lz side n)
def XW (A:WH)(k:Nat)(es:List X9)(side:Nat)(l:List Nat):List (UN×Nat):=l.flatMap (Dl A k es side)
theorem Dm (A:WH)(k side:Nat)(es:List X9)(h:side+k=3):XQ A (k+1) es=XW A k es side (Xq side A es):=by
 obtain rfl:side=3-k:=by omega
 rfl
theorem IG (A:WH)(k:Nat)(es:List X9)(side:Nat)(l:List Nat)(n:Nat):XW A k es side (l++[n])=XW A k es side l++Dl A k es side n:=by simp[XW]
theorem O5 {A:WH}{k:Nat}{es:List X9}{side:Nat}{l:List Nat}{j n:Nat}(h:l[j]?=V n):XW A k es side (l.take (j+1))=XW A k es side (l.take j)++Dl A k es side n:=by
 rw[List.take_add_one,h];exact IG A k es side _ n
theorem FJ {A:WH}{k:Nat}{es:List X9}{side:Nat}{l:List Nat}(j:Nat):XW A k es side (l.take j)<+:XW A k es side l:=by
 refine⟨XW A k es side (l.drop j),?_⟩;unfold XW;rw[<-List.flatMap_append,List.take_append_drop]
theorem O6 {A:WH}{k:Nat}{es:List X9}{side:Nat}{l:List Nat}{j n:Nat}(h:l[j]?=V n){pre:List (UN×Nat)}(a:pre<+:XQ A k (WP side n es)):XW A k es side (l.take j)++pre.map (Lz side n)<+:XW A k es side l:=by
 refine List.IsPrefix.trans ?_ (FJ (j+1));rw[O5 h];exact(List.prefix_append_right_inj _).2 (a.map _)
theorem IH {W:O}{side:Nat}{A:WH}{b c d f:Rl}{a:Option Addr}{es:List X9}(m:es.length<=10)(h:QD W A b c d f)(g:VF W a es):(Xq side A es).length<=2010:=by
 have i:∀e,e∈es->(e.A.at side).length<=10:=fun e j=>by
  obtain⟨k,l⟩:=z6.1 j;exact(g k e l).1.few side
 have n:=QF side es i (A.at side);have o:=IB (YX side (A.at side) es);have p:=Nat.mul_le_mul (show 1+20*es.length<=201 by omega) (h.few side);unfold Xq;omega
theorem Ct {W:O}{B side:Nat}{v0 v1 v2 v3:z7}{t:TypeId}(a:side<4)(h:W.heap[B]?=V (z2 #[v0,v1,v2,v3] t)):∃u,W.cell? ⟨B,side,Z⟩=V u:=by
 have:side=0\/side=1\/side=2\/side=3:=by omega
 rcases this with rfl|rfl|rfl|rfl
 ·exact⟨_,bC h 0 _ rfl⟩
 ·exact⟨_,bC h 1 _ rfl⟩
 ·exact⟨_,bC h 2 _ rfl⟩
 ·exact⟨_,bC h 3 _ rfl⟩
theorem Bw (p:UN)(side n:Nat)(d:side<4)(B:Nat)(W:O)(t:TypeId)(h:W.heap[B]?=V (z2 #[H G (p.p0:Nat),H G (p.p1:Nat),H G (p.p2:Nat),H G (p.p3:Nat)] t)):
  (W.setCell ⟨B,side,Z⟩ (H G (n:Nat))).cell? ⟨B,0,Z⟩=V (H G ((p.set side n).p0:Nat))/\(W.setCell ⟨B,side,Z⟩ (H G (n:Nat))).cell? ⟨B,1,Z⟩=V (H G ((p.set side n).p1:Nat))/\(W.setCell ⟨B,side,Z⟩ (H G (n:Nat))).cell? ⟨B,2,Z⟩=V (H G ((p.set side n).p2:Nat))/\(W.setCell ⟨B,side,Z⟩ (H G (n:Nat))).cell? ⟨B,3,Z⟩=V (H G ((p.set side n).p3:Nat)):=by
 have a:W.cell? ⟨B,0,Z⟩=V (H G (p.p0:Nat)):=bC h 0 _ rfl;have c1:W.cell? ⟨B,1,Z⟩=V (H G (p.p1:Nat)):=bC h 1 _ rfl;have b:W.cell? ⟨B,2,Z⟩=V (H G (p.p2:Nat)):=bC h 2 _ rfl;have c:W.cell? ⟨B,3,Z⟩=V (H G (p.p3:Nat)):=bC h 3 _ rfl
 have:side=0\/side=1\/side=2\/side=3:=by omega
 rcases this with rfl|rfl|rfl|rfl
 ·exact⟨cS _ _ _ a,(cO _ _ _ _ (by simp)).trans c1,(cO _ _ _ _ (by simp)).trans b,(cO _ _ _ _ (by simp)).trans c⟩
 ·exact⟨(cO _ _ _ _ (by simp)).trans a,cS _ _ _ c1,(cO _ _ _ _ (by simp)).trans b,(cO _ _ _ _ (by simp)).trans c⟩
 ·exact⟨(cO _ _ _ _ (by simp)).trans a,(cO _ _ _ _ (by simp)).trans c1,cS _ _ _ b,(cO _ _ _ _ (by simp)).trans c⟩
 ·exact⟨(cO _ _ _ _ (by simp)).trans a,(cO _ _ _ _ (by simp)).trans c1,(cO _ _ _ _ (by simp)).trans b,cS _ _ _ c⟩
attribute [local go_sem] Oper.semAt_some
def Th:Code->Option Code
 | .rangeFunc g d a b=>V (.rangeFunc g d a b)
 | .seq a b=>(Th a).or (Th b)
 | .block _ c=>Th c
 | .loop c=>Th c
 |_=>Z
def Cu (f:Func):Code:=(f.body.bind Th).getD .skip
set_option maxRecDepth 100000 in
theorem KT (side n l N M:Nat)(hs:side<4)(S:Nat->Prop)(J Jx:List (UN×Nat)->O->Prop)(j xs:List (UN×Nat))(Bs By Bn Cs Co Ca:Nat)(w:O)(Q:Exit->Act->O->Prop)(ds:List Deferred)
  (t0 t2 t3 t5 t7 t8 t9 q r t v y z D E I L P R T X Y a0 b0 c0 d0 f0 g0 i0 y0 z0 j0 k0 l0 m0 n0 o0 q0 r0 s0:z7)
  (x0:KS z5 212 #[U (V ⟨Cs,0,Z⟩),U (V ⟨Co,0,Z⟩),U (V ⟨Ca,0,Z⟩)] FH (UW S w.heap.size) xs w)
  (hS:∀k,S k->k<M)(hM:M<=w.heap.size)(hJ:YA M J)(C0:YA M Jx)
  (hY:∀pre x W1,pre++[x]<+:xs->J (j++pre.map (Lz side n)) W1->YieldAt Fence.wide N z5 l (FH (Lz side n x)) W1 fun e W'=>Fr S W1 W'/\((e=z9 (y6 true)/\J (j++(pre++[x]).map (Lz side n)) W')\/(e=z9 (y6 false)/\Jx (j++(pre++[x]).map (Lz side n)) W')))
  (hc:∀W,Fr S w W->W.cell? ⟨Bs,0,Z⟩=V (H G (side:Nat))/\W.cell? ⟨By,0,Z⟩=V (.func (.yield l) #[] #[])/\W.cell? ⟨Bn,0,Z⟩=V (H G (n:Nat)))
  (h0:J j w)
  (b:∀W,Fr S w W->J (j++xs.map (Lz side n)) W->W.heap[w.heap.size]?=V (.deferred (V []))->Q .normal {tmps:=#[t0,U (V ⟨Bs,0,Z⟩),t2,t3,U (V ⟨By,0,Z⟩),t5,U (V ⟨Bn,0,Z⟩),t7,t8,t9,q,r,t,v,y,z,D,E,I,L,P,R,T,X,Y,a0,b0,c0,d0,f0,g0,i0,.func (.func 212) #[] #[U (V ⟨Cs,0,Z⟩),U (V ⟨Co,0,Z⟩),U (V ⟨Ca,0,Z⟩)],y0,z0,j0,k0,l0,m0,n0,o0,q0,r0,s0],defers:={target:=.collected w.heap.size,args:=#[]}::ds} W)
  (d:∀pre W,pre<+:xs->Fr S w W->Jx (j++pre.map (Lz side n)) W->W.heap[w.heap.size]?=V (.deferred (V []))->Q .ret {tmps:=#[t0,U (V ⟨Bs,0,Z⟩),t2,t3,U (V ⟨By,0,Z⟩),t5,U (V ⟨Bn,0,Z⟩),t7,t8,t9,q,r,t,v,y,z,D,E,I,L,P,R,T,X,Y,a0,b0,c0,d0,f0,g0,i0,.func (.func 212) #[] #[U (V ⟨Cs,0,Z⟩),U (V ⟨Co,0,Z⟩),U (V ⟨Ca,0,Z⟩)],y0,z0,j0,k0,l0,m0,n0,o0,q0,r0,s0],defers:={target:=.collected w.heap.size,args:=#[]}::ds} W):
  (Cu Tryz.f212).wpIn Fence.wide 2 z5 Q {tmps:=#[t0,U (V ⟨Bs,0,Z⟩),t2,t3,U (V ⟨By,0,Z⟩),t5,U (V ⟨Bn,0,Z⟩),t7,t8,t9,q,r,t,v,y,z,D,E,I,L,P,R,T,X,Y,a0,b0,c0,d0,f0,g0,i0,.func (.func 212) #[] #[U (V ⟨Cs,0,Z⟩),U (V ⟨Co,0,Z⟩),U (V ⟨Ca,0,Z⟩)],y0,z0,j0,k0,l0,m0,n0,o0,q0,r0,s0],defers:=ds} w:=by
 conv=>arg 4;whnf
 refine QG (n:=0) rfl (enters_of Tryz.func212 (by kernel_rfl) rfl) x0 (Fr.refl _ _) (fun _=>rfl) (fun k hk=>nL (hS k hk) hM)
  (fun pre W=>J (j++pre.map (Lz side n)) W/\Fr S w W) (fun c pre W=>c=.ret/\(Jx (j++pre.map (Lz side n)) W/\Fr S w W))
  (YA.and (YA.map (hJ.mono hM) (fun(pre:List (UN×Nat))=>j++pre.map (Lz side n))) (YA.fr (Nat.le_refl _))) (fun c=>YA.and (YA.pure (fun(_:List (UN×Nat))=>c=.ret)) (YA.and (YA.map (C0.mono hM) (fun(pre:List (UN×Nat))=>j++pre.map (Lz side n))) (YA.fr (Nat.le_refl _)))) ⟨by simpa using h0,Fr.refl _ _⟩
  (fun x m a' W=>∃a,m<=a/\W.heap[a]?=V (z2 #[H G (x.1.p0:Nat),H G (x.1.p1:Nat),H G (x.1.p2:Nat),H G (x.1.p3:Nat)] 139)/\a'={tmps:=#[t0,U (V ⟨Bs,0,Z⟩),t2,t3,U (V ⟨By,0,Z⟩),t5,U (V ⟨Bn,0,Z⟩),U (V ⟨a,0,Z⟩),H G (x.2:Nat),t9,q,r,t,v,y,z,D,E,I,L,P,R,T,X,Y,a0,b0,c0,d0,f0,g0,i0,.func (.func 212) #[] #[U (V ⟨Cs,0,Z⟩),U (V ⟨Co,0,Z⟩),U (V ⟨Ca,0,Z⟩)],Mu x.1,H G (x.2:Nat),j0,k0,l0,m0,n0,o0,q0,r0,s0],defers:=[]})
  (fun x m a' s A B row hs hg hr=>by obtain⟨a,h1,h2,h3⟩:=hs;exact⟨a,h1,SR (C:=w.heap.size) () A B row h2 hg hr,h3⟩) ?assign ?body ?done ?stop
 case assign=>
  rintro pre x W K hp ⟨hi,hf⟩ hK;unfold FH Mu
  gi_wp2
  exact hK _ _ ((Fr.refl _ _).alloc _) ⟨(hJ.mono hM).alloc _ hi,hf.alloc _⟩ ⟨W.heap.size,Nat.le_refl _,aN W _,rfl⟩
 case body=>
  rintro pre x m a' W hp hm ⟨hi,hf⟩ ⟨a,E0,hB,rfl⟩;obtain⟨c1,c2,c3⟩:=hc W hf;have F0:a<W.heap.size:=(iA.1 hB).1;have f1:Fr (fun k=>M<=k) W (W.setCell ⟨a,side,Z⟩ (H G (n:Nat))):=(Fr.refl _ _).setCell (p:=⟨a,side,Z⟩) (.inl (by show M<=a;omega)) _;have f2:Fr (fun k=>S k\/m<=k) W (W.setCell ⟨a,side,Z⟩ (H G (n:Nat))):=(Fr.refl _ _).setCell (p:=⟨a,side,Z⟩) (.inl (.inr E0)) _;obtain⟨e0,e1,e2,e3⟩:=Bw x.1 side n hs a W _ hB
  have G0:By≠a:=by have:=bL w _ (hc w (Fr.refl _ _)).2.1;show By≠a;simp at this;omega
  have d2:(W.setCell ⟨a,side,Z⟩ (H G (n:Nat))).cell? ⟨By,0,Z⟩=V (.func (.yield l) #[] #[]):=(cO _ _ _ _ (by simp)).trans c2;obtain⟨u,hu⟩:∃u,W.cell? ⟨a,side,Z⟩=V u:=Ct hs hB;have H0:W.frozen? ⟨a,side,Z⟩=false:=bF hB side;obtain⟨fn,tmps,assign,body,A0,hR⟩:=hY pre x (W.setCell ⟨a,side,Z⟩ (H G (n:Nat))) hp (hJ _ _ _ hi f1);have v0:=Za hR;have HF:=Za hf;have D0:=Za f2;unfold FH Mu Lz at A0
  have I0:(side:Int)<4:=by omega
  clear hR hi hf f1 f2 hY hc b d x0 hJ C0 h0 hB
  gi_wp2
  refine⟨rfl,?_⟩;refine RoundIn.mono (F:=Fence.wide.inRound (w.heap.size+1)) ⟨v0.o.1,fun c cs _=>v0.o.2 c cs (room_wide _)⟩ ?_;rintro e W3 ⟨w0,(⟨rfl,f⟩|⟨rfl,f⟩)⟩
  ·have g:=Za (D0.o.trans (w0.mono (fun k h=>.inl h)))
   have B0:=Za f;clear w0 f v0 A0
   gi_wp2
   exact⟨g.o,B0.o,HF.o.monoNew g.o (fun i h=>h.elim .inl (fun h=>.inr (by omega)))⟩
  ·have g:=Za (D0.o.trans (w0.mono (fun k h=>.inl h)))
   have B0:=Za f;clear w0 f v0 A0
   gi_wp2
   exact⟨g.o,rfl,B0.o,HF.o.monoNew g.o (fun i h=>h.elim .inl (fun h=>.inr (by omega)))⟩
 case done=>
  rintro W ⟨hi,hf⟩ hD;exact b W hf hi hD
 case stop=>
  rintro c pre W hp ⟨rfl,hi,hf⟩ hD
  gi_wp2
  exact d pre W hp hf hi hD
attribute [local go_sem] Oper.semAt_some
def Bz (Q:Exit->Act->O->Prop):Exit->Act->O->Prop
 | .normal,a,w=>Q .normal a w
 | .ret,a,w=>Q .ret a w
 |_,_,_=>False
theorem Dn {P:Program}{c:Code}{Q:Exit->Act->O->Prop}{a:Act}{w:O}(h:c.wp P (Bz Q) a w):c.wp P Q a w:=wp_mono h (fun e _ _ h=>by
 cases e with
 |normal=>exact h
 |ret=>exact h
 |_=>exact h.elim)
structure Do (S:Nat->Prop)(J:List (UN×Nat)->O->Prop)(dn:List (UN×Nat))(W ws:O)(Ds:List Nat)(wr:O):Prop where
 j:J dn wr
 f:Fr S ws wr
 nd:Ds.Nodup
 ds:∀D,D∈Ds->W.heap.size<=D/\wr.heap[D]?=V (.deferred (V []))
set_option maxRecDepth 100000 in
theorem II (k side:Nat)(hk:side+k=3)(Bs R q c:Nat)(S:Nat->Prop)(A:WH)(u y z B:Rl)(a:Option Addr)(es:List X9)(w:O)
  (hl:es.length<=10)(k0:A.at side≠[])(hb:∀e,e∈es->∀s,s∈e.A.at side->s.1<=10000000000/\s.2<=10000000000)
  (h:∀W,Fr S w W->Lp W Bs R q side A u y z B a c es)
  (ih:∀(n:Nat)(Bs R q c:Nat)(S:Nat->Prop)(a:Option Addr)(w:O),(∀W,Fr S w W->Lp W Bs R q (side+1) A u y z B a c (WP side n es))->KS z5 212 #[U (V ⟨Bs,0,Z⟩),U (V ⟨R,0,Z⟩),U (V ⟨q,0,Z⟩)] FH S (XQ A k (WP side n es)) w):
  KS z5 212 #[U (V ⟨Bs,0,Z⟩),U (V ⟨R,0,Z⟩),U (V ⟨q,0,Z⟩)] FH S (XQ A (k+1) es) w:=by
 rw[Dm A k side es hk];obtain⟨L,b0⟩:∃L,Xq side A es=L:=⟨_,rfl⟩;rw[b0];intro n l J Jx W hW hS hJ C0 hY h0
 have hs:side<4:=by omega
 have l0:=Za h;have V0:=Za ih;have HW:=Za hW;have m0:=Za hS;have HJ:=Za hJ;have D0:=Za C0;have HY:=Za hY;have H0:=Za h0;have A1:=Za hb;have B1:=Za k0;have HK:=Za hk;have W0:=Za b0
 have C1:L.length<=2010:=by rw[<-b0];exact IH hl (h W hW).ar (h W hW).ars
 have E0:=Za hl
 have D1:((side:Int)==4)=false:=by simp;omega
 have n0:=Za hs;refine callsIn_of_wp_marks Tryz.func212 rfl trivial ?_ rfl
 show Code.wpIn _ _ _ _ _ {tmps:=#[.func (.yield l) #[] #[],U (V ⟨Bs,0,Z⟩),U (V ⟨R,0,Z⟩),U (V ⟨q,0,Z⟩)]++Array.replicate (Tryz.f212.ntmps-4) undef,defers:=[]} _
 simp only[Tryz.ntmps212,Nat.reduceSub,Array.replicate_succ,Array.replicate_zero,List.push_toArray,List.append_toArray,List.nil_append,List.cons_append];refine(wpIn_wide (n:=n+1)).2 (Dn ?_);obtain⟨Q,c0⟩:∃Q,W.alloc (z2 #[.func (.yield l) #[] #[]] 312)=Q:=⟨_,rfl⟩
 have f1:Fr S W Q:=by rw[<-c0];exact(Fr.refl _ _).alloc _
 obtain⟨By,o0⟩:∃By,W.heap.size=By:=⟨_,rfl⟩
 have o1:Q.heap[By]?=V (z2 #[.func (.yield l) #[] #[]] 312):=by rw[<-c0,<-o0];exact aN W _
 have j1:J [] Q:=by rw[<-c0];exact hJ.alloc _ h0
 have q1:=h Q (hW.trans f1);have c1:=q1.s;have c2:=q1.o;have c3:Q.cell? ⟨q,0,Z⟩=V (z0 u.a A.s0.length u.c):=q1.a0;have c4:Q.cell? ⟨q,1,Z⟩=V (z0 y.a A.s1.length y.c):=q1.a1;have c5:Q.cell? ⟨q,2,Z⟩=V (z0 z.a A.s2.length z.c):=q1.a2;have c6:Q.cell? ⟨q,3,Z⟩=V (z0 B.a A.s3.length B.c):=q1.a3;have d0:=Za f1;have X0:=Za o1;have Y0:=Za j1;have p0:=Za (IC Q side A u y z B a c es hs q1.ar k0 q1.ars hl hb);unfold Xg at p0;clear b0 hk q1 f1 o1 j1 h ih hW hS hJ C0 hY h0 hb k0 hl hs;go_upto_region 3 with fail;have Z0:=Za o0;clear c0 o0
 go_wp2_with (go_at_call 213;refine p0.o.mono ?_)
 rintro e ws ⟨⟨g,cap,hg,rfl,q0⟩,r0⟩;rw[W0.o]at q0 ⊢;have G0:=Za q0
 have HG:Hid (¬S g):=fun h=>by have:=m0.o g h;have:=d0.o.size;omega
 have e0:Hid (Fr S Q ws):=r0.mono (fun _ h=>h.elim);have b1:Hid (J [] ws):=HJ.o _ _ _ Y0.o (r0.mono (fun _ h=>h.elim));clear q0 r0 hg p0 c1 c2 c3 c4 c5 c6;go_wp2_with fail;obtain⟨I,hI⟩:∃I:Nat->Act->O->Prop,∀m a' wr,I m a' wr↔∃(j:Nat)(X:List Nat)(u6 u22 u23 u24 u25 u26 u27 u28 u29 u30 u31 u32 u43:z7),j<=L.length/\m=L.length-j/\a'={tmps:=#[.func (.yield l) #[] #[],U (V ⟨Bs,0,Z⟩),U (V ⟨R,0,Z⟩),U (V ⟨q,0,Z⟩),U (V ⟨By,0,Z⟩),undef,u6,undef,undef,H G (side:Nat),y6 false,undef,undef,undef,undef,undef,H G (side:Nat),x5 #[z0 u.a A.s0.length u.c,z0 y.a A.s1.length y.c,z0 z.a A.s2.length z.c,z0 B.a A.s3.length B.c],z0 a es.length c,z0 (V ⟨g,0,Z⟩) L.length cap,H G (L.length:Nat),H G (j:Nat),u22,u23,u24,u25,u26,u27,u28,u29,u30,u31,u32,undef,undef,undef,undef,undef,undef,undef,undef,undef,undef,u43],defers:=PE X}/\Hid (Do S J (XW A k es side (L.take j)) W ws X wr):=⟨_,fun _ _ _=>Iff.rfl⟩;refine wp_loop_ghost_k I L.length ((hI _ _ _).2 ⟨0,[],_,_,_,_,_,_,_,_,_,_,_,_,_,Nat.zero_le _,rfl,rfl,b1.o,Fr.refl _ _,List.nodup_nil,by simp⟩) ?_;intro m a' wr hi J2 K2 I0 J0;obtain⟨j,X,u6,u22,u23,u24,u25,u26,u27,u28,u29,u30,u31,u32,u43,Y,rfl,rfl,N⟩:=(hI _ _ _).1 hi
 have HN:Hid (∀(f0:List Nat)(u6 u22 u23 u24 u25 u26 u27 u28 u29 u30 u31 u32 u43:z7)(wn:O),j<L.length->Do S J (XW A k es side (L.take (j+1))) W ws f0 wn->K2 {tmps:=#[.func (.yield l) #[] #[],U (V ⟨Bs,0,Z⟩),U (V ⟨R,0,Z⟩),U (V ⟨q,0,Z⟩),U (V ⟨By,0,Z⟩),undef,u6,undef,undef,H G (side:Nat),y6 false,undef,undef,undef,undef,undef,H G (side:Nat),x5 #[z0 u.a A.s0.length u.c,z0 y.a A.s1.length y.c,z0 z.a A.s2.length z.c,z0 B.a A.s3.length B.c],z0 a es.length c,z0 (V ⟨g,0,Z⟩) L.length cap,H G (L.length:Nat),H G ((j:Int)+1),u22,u23,u24,u25,u26,u27,u28,u29,u30,u31,u32,undef,undef,undef,undef,undef,undef,undef,undef,undef,undef,u43],defers:=PE f0} wn):=fun f0 u6 u22 u23 u24 u25 u26 u27 u28 u29 u30 u31 u32 u43 wn d1 P=>
  J0 _ _ ⟨L.length-(j+1),by omega,I0 _ _ _ ((hI _ _ _).2 ⟨j+1,f0,u6,u22,u23,u24,u25,u26,u27,u28,u29,u30,u31,u32,u43,d1,rfl,rfl,P⟩)⟩
 clear hi hI J0 I0 J2 I;by_cases t0:j<L.length
 ·have e1:(j:Int)<(L.length:Int):=by omega
  obtain⟨C,g0⟩:∃C,L[j]?=V C:=⟨_,gE t0⟩;have v0:=Za g0;have cl:wr.cell? ⟨g,j,Z⟩=V (H G (C:Nat)):=(N.o.f.cell (p:=⟨g,j,Z⟩) (bL ws _ (G0.o j C g0)) HG.o).trans (G0.o j C g0);obtain⟨w5,w0⟩:∃w5,wr.alloc (z2 #[H G (C:Nat)] 3)=w5:=⟨_,rfl⟩;obtain⟨Bn,y0⟩:∃Bn,wr.heap.size=Bn:=⟨_,rfl⟩
  have E:Hid (F0 wr w5):=by show Fr _ _ _;rw[<-w0];exact(Fr.refl _ _).alloc _
  have K0:Hid (w5.heap[Bn]?=V (z2 #[H G (C:Nat)] 3)):=by show _=_;rw[<-w0,<-y0];exact aN wr _
  have HQ:Hid (∀b,F0 w5 b->Lp b Bs R q side A u y z B a c es/\b.cell? ⟨Bn,0,Z⟩=V (H G (C:Nat))):=fun b d=>
   ⟨l0.o b ((((HW.o.trans d0.o).trans e0.o).trans N.o.f).trans ((E.o.trans d).mono (fun _ h=>h.elim))),bC (d.whole K0.o (by simp)) 0 _ rfl⟩
  have i0:Hid (∀b,F0 w5 b->b.cell? ⟨Bs,0,Z⟩=V (H G (side:Nat))/\b.cell? ⟨Bn,0,Z⟩=V (H G (C:Nat))/\b.cell? ⟨R,0,Z⟩=V (z0 a es.length c)/\b.cell? ⟨q,0,Z⟩=V (z0 u.a A.s0.length u.c)/\b.cell? ⟨q,1,Z⟩=V (z0 y.a A.s1.length y.c)/\b.cell? ⟨q,2,Z⟩=V (z0 z.a A.s2.length z.c)/\b.cell? ⟨q,3,Z⟩=V (z0 B.a A.s3.length B.c)):=fun b d=>by
   obtain⟨P,h2⟩:=HQ.o b d;exact⟨P.s,h2,P.o,P.a0,P.a1,P.a2,P.a3⟩
  have t1:x7.wrap ((side:Int)+1)=(side:Int)+1:=IntWalk.i64_in _ (by have:=n0.o;constructor<;>omega);clear g0;go_upto_region 6 with fail;have g1:=Za y0;clear y0 w0 cl;refine wp_region_held_drew (S:=fun b=>b.cell? ⟨Bs,0,Z⟩=V (H G (side:Nat))/\b.cell? ⟨Bn,0,Z⟩=V (H G (C:Nat))/\b.cell? ⟨R,0,Z⟩=V (z0 a es.length c)/\b.cell? ⟨q,0,Z⟩=V (z0 u.a A.s0.length u.c)/\b.cell? ⟨q,1,Z⟩=V (z0 y.a A.s1.length y.c)/\b.cell? ⟨q,2,Z⟩=V (z0 z.a A.s2.length z.c)/\b.cell? ⟨q,3,Z⟩=V (z0 B.a A.s3.length B.c)) (by kernel_rfl) (i0.o _ (Fr.refl _ _).drew) (fun hH=>?_);refine Zf 0 hH ?_
  try go_frame
  refine Zf 1 hH ?_
  try go_frame
  refine Zf 2 hH ?_
  try go_frame
  refine Zf 3 hH ?_
  try go_frame
  refine Zf 4 hH ?_
  try go_frame
  refine Zf 5 hH ?_
  try go_frame
  clear t1;refine wpAnyH_ready (rs:=[6]) (by kernel_rfl) (by simp) ?_;refine Zb rfl (fun K2 hK=>?_) AllReadyH.nil
  try rw[if_pos (by rfl)]
  go_simp;refine(Iv w5.drew side C a c es n0.o (HQ.o _ (Fr.refl _ _).drew).1.ars E0.o).mono ?_;rintro e w6 ⟨⟨v,rfl,hv⟩,L0⟩;have r:Hid (F0 w5 w6):=((Fr.refl _ _).drew).trans L0
  obtain⟨a6,c6,i1,M0,N0⟩:=Hu hv (fun e he=>by
   obtain⟨i,hi⟩:=z6.1 (y1.1 he).1
   exact((HQ.o _ r.o).1.ars i e hi).1)
  subst i1;obtain⟨N6,A0⟩:∃N6,(WP side C es).length=N6:=⟨_,rfl⟩;have k1:=Za A0;have l1:=Za M0;have m1:=Za N0;rw[A0];clear hv M0 N0 L0 A0;refine hK.out _ _ (i0.o _ r.o) (fun hH=>?_);clear hK K2
  try go_frame
  refine wpAnyH_ready (rs:=[7]) (by kernel_rfl) (by simp) ?_;refine Zb rfl (fun K2 hK=>?_) AllReadyH.nil
  try rw[if_pos (by rfl)]
  go_simp;have O0:Calls z5 172 #[H G ((side:Int)+1),x5 #[z0 u.a A.s0.length u.c,z0 y.a A.s1.length y.c,z0 z.a A.s2.length z.c,z0 B.a A.s3.length B.c],z0 a6 N6 c6] w6 _:=KP (side+1) A u y z B a6 N6 c6 w6;refine O0.mono ?_;rintro e t ⟨rfl,he⟩;obtain⟨K,M⟩:∃K,w6.heap.size=K:=⟨_,rfl⟩;rw[M]
  have F:Hid (F0 w6 t):=by show Fr _ _ _;rw[he];exact(((Fr.refl _ _).alloc _).alloc _).alloc _
  have P0:Hid (t.heap.size=K+3):=by show _=_;rw[he,<-M];simp
  have Q0:Hid (t.heap[K]?=V (z2 #[H G (((side+1:Nat)):Int)] 3)):=by
   show _=_
   rw[he,<-M];exact(((Fr.refl (fun _=>False) _).alloc _).alloc _).whole (aN w6 _) (by simp)
  have R0:Hid (t.heap[K+1]?=V (z2 #[Xg u A.s0,Xg y A.s1,Xg z A.s2,Xg B A.s3] 215)):=by
   show _=_
   rw[he,<-M];exact((Fr.refl (fun _=>False) _).alloc _).whole (by have:=aN (w6.alloc (z2 #[H G (((side+1:Nat)):Int)] 3)) (z2 #[Xg u A.s0,Xg y A.s1,Xg z A.s2,Xg B A.s3] 215);simpa using this) (by simp)
  have S0:Hid (t.heap[K+1+1]?=V (z2 #[z0 a6 N6 c6] 217)):=by
   show _=_
   rw[he,<-M];have:=aN ((w6.alloc (z2 #[H G (((side+1:Nat)):Int)] 3)).alloc (z2 #[Xg u A.s0,Xg y A.s1,Xg z A.s2,Xg B A.s3] 215)) (z2 #[z0 a6 N6 c6] 217)
   simpa using this
  have B0:=Za M;clear O0 he M;refine hK.out _ _ (i0.o _ (r.o.trans F.o)) (fun hH=>?_);clear hK K2
  try go_frame
  refine wpAnyH_done (by kernel_rfl) ?_ _;go_wp2_with fail;refine(wpIn_wide (n:=2)).1 ?_;have T0:Fr S W t:=((d0.o.trans e0.o).trans N.o.f).trans (((E.o.trans r.o).trans F.o).mono (fun _ h=>h.elim));have T:Fr S w t:=HW.o.trans T0;have n1:=E.o.size;have p1:=r.o.size;have r1:W.heap.size<=wr.heap.size:=((d0.o.trans e0.o).trans N.o.f).size
  have v1:W.heap.size<=K:=by have:=B0.o;omega
  have w1:t.heap.size=K+3:=P0.o
  have nS:∀i,W.heap.size<=i->¬S i:=fun i hi h=>by have:=m0.o i h;omega
  have nR:∀i,W.heap.size<=i->i<K+3->¬UW S t.heap.size i:=by
   rintro i P h2 (h|h|h)
   ·exact nS i P h
   ·omega
   ·omega
  have fR:∀b,Fr (UW S t.heap.size) t b->Fr S w b:=fun b d=>T.monoNew d (by
   rintro i (h|h|h)
   ·exact .inl h
   ·right;have:=T.size;omega
   ·right;have:=T.size;omega)
  have nd:(t.heap.size::X).Nodup:=x4.2 ⟨fun h=>by
   have:=(iA.1 (N.o.ds _ h).2).1
   have:=E.o.size;have:=B0.o;omega,N.o.nd⟩
  have j0:∀b,Fr S t b->b.heap[t.heap.size]?=V (.deferred (V []))->∀D,D∈t.heap.size::X->W.heap.size<=D/\b.heap[D]?=V (.deferred (V [])):=fun b d hD D hd=>by
   rcases z4.1 hd with rfl|hd
   ·exact⟨by omega,hD⟩
   ·obtain⟨P,h2⟩:=N.o.ds D hd
    exact⟨P,R9 ((((E.o.trans r.o).trans F.o).mono (fun _ h=>h.elim)).trans d) (nS D P) h2⟩
  refine KT side C l n W.heap.size n0.o S J Jx (XW A k es side (L.take j)) (XQ A k (WP side C es)) Bs By Bn K (K+1+1) (K+1) t _ (PE X) _ _ _ _ _ _ _ _ _ _ _ _ _ _ _ _ _ _ _ _ _ _ _ _ _ _ _ _ _ _ _ _ _ _ _ _ _ _ _ _ ?hseq m0.o (by omega) HJ.o D0.o ?hY ?hc ?h0 ?hd ?hst
  case hseq=>
   refine V0.o C K (K+1+1) (K+1) c6 (UW S t.heap.size) a6 t (fun b d=>?_);have hq:=l0.o b (fR b d);have ba:=d.whole R0.o (nR _ (by omega) (by omega));have hN:=k1.o;refine⟨bC (d.whole Q0.o (nR _ (by omega) (by omega))) 0 _ rfl,?_,bC ba 0 _ rfl,bC ba 1 _ rfl,bC ba 2 _ rfl,bC ba 3 _ rfl,hq.ar,?_⟩
   ·rw[hN];exact bC (d.whole S0.o (nR _ (by omega) (by omega))) 0 _ rfl
   ·refine((l1.o.fr F.o).frS d (fun g o e _=>?_) (fun e he=>?_))
    ·have h6:=m1.o g o e
     have h5:w5.drew.heap.size=w5.heap.size:=rfl;have:=B0.o;exact nR g (by omega) (by omega)
    ·obtain⟨i,hi⟩:=z6.1 (y1.1 he).1
     exact(hq.ars i e hi).1
  case hY=>
   intro pre x b hp Y
   have eq:(XW A k es side (L.take j)++pre.map (Lz side C))++[Lz side C x]=XW A k es side (L.take j)++(pre++[x]).map (Lz side C):=by simp
   have hy:=HY.o (XW A k es side (L.take j)++pre.map (Lz side C)) (Lz side C x) b (by rw[eq];exact O6 v0.o hp) Y;rw[eq]at hy;exact hy
  case hc=>
   intro b d;have P:By=W.heap.size:=Z0.o.symm;have h2:Bn=wr.heap.size:=g1.o.symm;refine⟨(l0.o b (T.trans d)).s,?_,?_⟩
   ·exact bC ((((e0.o.trans N.o.f).trans (((E.o.trans r.o).trans F.o).mono (fun _ h=>h.elim))).trans d).whole X0.o (nS By (by omega))) 0 _ rfl
   ·exact bC (d.whole ((r.o.trans F.o).whole K0.o (by simp)) (nS Bn (by omega))) 0 _ rfl
  case h0=>exact HJ.o _ _ _ N.o.j (((E.o.trans r.o).trans F.o).mono (fun _ h=>h.elim))
  case hd=>
   intro b d Y hD;have z1:Hid (Do S J (XW A k es side (L.take (j+1))) W ws (t.heap.size::X) b):=⟨by rw[O5 v0.o];exact Y,(N.o.f.trans (((E.o.trans r.o).trans F.o).mono (fun _ h=>h.elim))).trans d,nd,j0 b d hD⟩;clear d Y hD j0 nd fR nR nS w1 v1 r1 p1 n1 T T0 hH i0 HQ;go_wp2_with fail;exact HN.o (t.heap.size::X) _ _ _ _ _ _ _ _ _ _ _ _ _ b t0 z1.o
  case hst=>
   intro pre b hp d Y hD;refine WC (t.heap.size::X) b nd (fun D h=>(j0 b d hD D h).2) ?_;refine⟨_,results_none rfl _ _ _,⟨_,rfl⟩,.inr ⟨_,O6 v0.o hp,?_⟩⟩;exact D0.o _ _ _ Y (Lo _ _ (fun D h=>(j0 b d hD D h).1))
 ·have e1:¬(j:Int)<(L.length:Int):=by omega
  have ej:L.take j=L:=List.take_of_length_le (by omega);have HE:Hid (L.take j=L):=ej;clear t0 ej;go_wp2_with fail;refine WC X wr N.o.nd (fun D h=>(N.o.ds D h).2) ?_;refine⟨_,results_none rfl _ _ _,⟨_,rfl⟩,.inl ?_⟩;have Y:=N.o.j;rw[HE.o]at Y;exact HJ.o _ _ _ Y (Lo _ _ (fun D h=>(N.o.ds D h).1))
theorem QH (A:WH)(j l m p:Rl)(f:∀i,i<4->A.at i≠[]):∀(k:Nat),k<=4->∀(Bs b d c:Nat)(S:Nat->Prop)(a:Option Addr)(es:List X9)(w:O),es.length<=10->
  (∀e,e∈es->∀i s,i<4->s∈e.A.at i->s.1<=10000000000/\s.2<=10000000000)->(∀W,Fr S w W->Lp W Bs b d (4-k) A j l m p a c es)->
  KS z5 212 #[U (V ⟨Bs,0,Z⟩),U (V ⟨b,0,Z⟩),U (V ⟨d,0,Z⟩)] FH S (XQ A k es) w
 |0,_,Bs,b,d,c,S,a,es,w,_,_,h=>FI Bs b d es.length c S a w (fun W g=>⟨(h W g).s,(h W g).o⟩)
 |k+1,hk,Bs,b,d,c,S,a,es,w,hl,hb,h=>by
  refine II k (4-(k+1)) (by omega) Bs b d c S A j l m p a es w hl (f _ (by omega)) (fun e q s r=>hb e q _ s (by omega) r) h (fun n Bs b d c S a w t=>?_);refine QH A j l m p f k (by omega) Bs b d c S a _ w (Nat.le_trans (KL _ _ _) hl) (fun e q=>hb e (y1.1 q).1) (fun W g=>?_);rw[show 4-k=4-(k+1)+1 from by omega];exact t W g
