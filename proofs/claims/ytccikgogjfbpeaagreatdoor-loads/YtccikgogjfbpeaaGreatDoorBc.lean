import Derived.Test.YtccikgogjfbpeaaGreatDoorAy
import Derived.Test.YtccikgogjfbpeaaGreatDoorBa
open Go.Value renaming int->I,slice->V,string->U,bool->E,pointer->L,slice->z8,oneCell'->q1,string->q4,agg->q5,ownBlock->j3,agg->j8
open Go.IntKind renaming i64->J
open Option renaming none->Y,some->Z
open Go.Obj renaming cells->O
open Nat renaming le_refl->H,le_trans->z9,mul_le_mul_right->q0,add_zero->q6,pow_pos->j4,pow_add->j5,add_mul->j6,one_mul->j7
open Go.RowKit renaming Hid->G
open Go.Proofs.Tryz renaming prog->X
open Go.AllReadyH renaming nil->F
open List renaming mem_singleton->z6,length_map->y6,mem_append->y9,length->q2,find?_eq_none->q3,append_nil->q8,replicate->q9,mem_map_of_mem->j1,find?_append->j2
open Go.Ending renaming returned->z7
open Go.World renaming ownsRow->y4,news_of_block->y5,putObj_heap_other->q7
open Go renaming World->y7,Calls->y8,Value->j0
namespace Go.Proofs.YtccikgogjfbpeaaGreatDoor
set_option maxRecDepth 30000
set_option maxHeartbeats 8000000
open Go.RowKit
structure Td (r:Ze):Prop where
 m4:r.mcc.length<=4
 mx:∀x,x∈r.mcc->x<=9999
 c4:r.cur.length<=4
 cx:∀x,x∈r.cur->x<=999
 am:∀ab,r.am=Z ab->ab.1<=ab.2
theorem M0 {a:Nat}:∀(l:List Tk)(i:Nat)(ns:List Nat),i<=4->Zp a i l=.ok ns->i+ns.length<=4/\∀x,x∈ns->x<=a
 |[],i,ns,hi,h=>by
  simp only[Zp]at h;injection h with h;subst h;exact⟨by simpa using hi,by simp⟩
 |t::r,i,ns,hi,h=>by
  simp only[Zp]at h
  split at h
  ·cases h
  split at h
  ·cases h
  rename_i g j
  cases b:Zp a (i+1) r with
  |error f=>rw[b]at h;cases h
  |ok d=>
   rw[b]at h;injection h with h;subst h;obtain⟨k,e⟩:=M0 r (i+1) d (by omega) b;refine⟨by simp;omega,fun x c=>?_⟩;rcases List.mem_cons.1 c with rfl|c
   ·omega
   exact e x c
theorem EA {rts b e r}(h:Z7 rts b e=.ok r):Td r:=by
 unfold Z7 at h
 split at h
 ·cases h
 split at h
 ·cases h
 split at h
 ·cases h
 split at h
 ·cases h
 split at h
 ·cases h
 split at h
 ·cases h
 cases c:Zp 9999 0 e.mcc with
 |error f=>rw[c]at h;cases h
 |ok g=>
  rw[c]at h
  dsimp only at h
  split at h
  ·cases h
  rename_i i
  cases d:Zp 999 0 e.cur with
  |error f=>rw[d]at h;cases h
  |ok j=>
   rw[d]at h
   dsimp only at h
   cases k:Zw rts 0 e.act.routes with
   |error f=>rw[k]at h;cases h
   |ok o=>
    rw[k]at h;injection h with h;subst h;have l:=M0 _ 0 _ (by omega) c;have m:=M0 _ 0 _ (by omega) d;refine⟨by have:=l.1;dsimp only;omega,l.2,by have:=m.1;dsimp only;omega,m.2,fun p a=>?_⟩
    dsimp only at a
    cases n:e.amount with
    |none=>rw[n]at a;cases a
    |some q=>
     rw[n]at a i;simp only[Option.map_some,Option.some.injEq]at a;subst a
     simpa using i
theorem M3:∀(d:List Vr)(rts:List Zf)(a:List Ze)(p:List Zf×List Ze),(∀r,r∈a->Td r)->ZR rts a d=.ok p->∀r,r∈p.2->Td r
 |[],rts,a,p,hB,h=>by
  simp only[ZR]at h;injection h with h;subst h;exact hB
 | .route e::d,rts,a,p,hB,h=>by
  cases b:ZD rts e with
  |error f=>rw[YR (f:=f) (by simp only[Vs,b])]at h;cases h
  |ok t=>
   rw[Xm (p:=(rts++[t],a)) (by simp only[Vs,b])]at h;exact M3 d (rts++[t]) a p hB h
 | .rule e::d,rts,a,p,hB,h=>by
  cases b:Z7 rts a e with
  |error f=>rw[YR (f:=f) (by simp only[Vs,b])]at h;cases h
  |ok t=>
   rw[Xm (p:=(rts,a++[t])) (by simp only[Vs,b])]at h;refine M3 d rts (a++[t]) p (fun r c=>?_) h;rcases y9.1 c with c|c
   ·exact hB r c
   simp at c
   subst c;exact EA b
theorem zQ {s p}(h:XE s=.ok p):∀r,r∈p.2->Td r:=by
 unfold XE at h
 split at h
 ·cases h
 cases a:ZK s 0 1 []with
 |error l=>rw[a]at h;cases h
 |ok ts=>
  rw[a]at h
  dsimp only at h
  cases b:Zr ts 0 []with
  |error l=>rw[b]at h;cases h
  |ok c=>
   rw[b]at h;exact M3 _ [] [] p (by simp) h
def yA (r:Ze)(a:Option Addr)(b:Nat)(c:Option Addr)(d:Nat)(e:Option Addr)(f:Nat):Array j0:=#[U r.name,I J r.rank,I J r.digits,I J r.lo,I J r.hi,V a r.mcc.length b,E r.am.isSome,I J (r.am.getD (0,0)).1,I J (r.am.getD (0,0)).2,V c r.cur.length d,E r.decline,E r.cheapest,V e r.routes.length f,I J r.ahead]
def Ua (r:Ze):SE:=RT r.digits r.lo r.hi r.mcc r.am.isSome (r.am.getD (0,0)).1 (r.am.getD (0,0)).2 r.cur
theorem M4 {l m s}(h:s∈Yk l m):(l=[]/\s=(0,m))\/∃n,n∈l/\s=(n,n):=by
 unfold Yk at h
 split at h
 ·rename_i e
  exact .inl ⟨e,by simpa using h⟩
 obtain⟨n,a,rfl⟩:=List.mem_map.1 h
 exact .inr ⟨n,a,rfl⟩
theorem Qt {n r}(h:Tc n r)(b:Td r)(i s)(a:s∈(Ua r).at i):s.1<=s.2/\s.1<=10000000000/\s.2<=10000000000:=by
 have d:∀(l:List Nat)(m:Nat),m<=10000->(∀x,x∈l->x<=m)->s∈Yk l m->s.1<=s.2/\s.1<=10000000000/\s.2<=10000000000:=fun l m p g h=>by
  rcases M4 h with⟨_,rfl⟩|⟨n,j,rfl⟩
  ·exact⟨by simp,by simp,by dsimp only;omega⟩
  have:=g n j
  exact⟨H _,by dsimp only;omega,by dsimp only;omega⟩
 unfold Ua RT SE.at at a
 split at a
 ·simp only[z6]at a
  subst a;obtain⟨k,e,o⟩:=h.bn;unfold WN;have c:0<10^(6-r.digits):=j4 (by decide)
  have q:10^r.digits*10^(6-r.digits)=1000000:=by rw[<-j5,show r.digits+(6-r.digits)=6 from by omega]
  have t:=q0 (10^(6-r.digits)) o;have u:=q0 (10^(6-r.digits)) (show r.hi+1<=10^r.digits from e)
  have v:(r.hi+1)*10^(6-r.digits)=r.hi*10^(6-r.digits)+10^(6-r.digits):=by rw[j6,j7]
  dsimp only
  omega
 ·exact d _ _ (by omega) b.mx a
 ·simp only[z6]at a
  subst a
  cases c:r.am with
  |none=>simp
  |some f=>
   have k:=b.am f c;have e:=h.am f c;simp;omega
 exact d _ _ (by omega) b.cx a
def vO (w:y7)(d:Option Addr)(a:List Ze):Prop:=∀j r,a[j]?=Z r->∃g b e c f h i,d=Z ⟨g,0,Y⟩/\
 (∀o v,[q4 r.name,I J r.rank,I J r.digits,I J r.lo,I J r.hi,V b r.mcc.length e,E r.am.isSome,I J (r.am.getD (0,0)).1,I J (r.am.getD (0,0)).2,V c r.cur.length f,E r.decline,E r.cheapest,V h r.routes.length i,I J r.ahead][o]?=Z v->w.cell? ⟨g,j*14+o,Y⟩=Z v)/\
 Zu w b r.mcc/\Zu w c r.cur
theorem vO.fr {w w' c a}(h:vO w c a)(b:F0 w w'):vO w' c a:=by
 intro j r i;obtain⟨g,k,l,m,n,q,s,e,d,t,u⟩:=h j r i;exact⟨g,k,l,m,n,q,s,e,fun o v f=>(b.cell (p:=⟨g,j*14+o,Y⟩) (bL w _ (d o v f))).trans (d o v f),t.fr b,u.fr b⟩
theorem Bk.rules {w B i d rts a k}(h:Bk w B i d rts a k):∃b c,d=V b a.length c/\vO w b a:=by
 obtain⟨b,c,e⟩:=oL h.lo;refine⟨b,c,e,fun j r l=>?_⟩;obtain⟨g,y,m,n,o,p,q,s,f,_,_,t,u,v,_⟩:=h.rule l;rw[e]at f;injection f with x z A;exact⟨g,m,n,o,p,q,s,x,t,Zu.of u,Zu.of v⟩
def BC (a:List Ze)(b j:Nat):Bool:=match a[j]?,a[b]? with
 |some r,Z q=>decide (q.rank<r.rank)||(decide (r.rank=q.rank)&&decide (j<b))
 |_,_=>false
def Uk (a:List Ze)(b:Nat):Nat->List SE
 |0=>[]
 |k+1=>Uk a b k++(match a[k]? with|some r=>if BC a b k then[Ua r]else[]|none=>[])
theorem Pj (a:List Ze)(b:Nat):∀k,(Uk a b k).length<=k
 |0=>H _
 |k+1=>by
  have:=Pj a b k;unfold Uk;rw[lA]
  split
  ·split<;>simp<;>omega
  simp;omega
theorem Pk (a:List Ze)(f:Nat)(A:SE):∀k,A∈Uk a f k↔∃j r,j<k/\a[j]?=Z r/\BC a f j=true/\A=Ua r
 |0=>by simp[Uk]
 |k+1=>by
  have g:=Pk a f A k;unfold Uk;rw[y9,g]
  constructor
  ·rintro(⟨j,r,i,b,c,d⟩|h)
   ·exact⟨j,r,by omega,b,c,d⟩
   split at h
   ·rename_i r l
    split at h
    ·rename_i m
     exact⟨k,r,by omega,l,m,by simpa using h⟩
    cases h
   cases h
  rintro⟨j,r,i,b,c,d⟩
  by_cases e:j<k
  ·exact .inl ⟨j,r,e,b,c,d⟩
  obtain rfl:j=k:=by omega
  right
  rw[b];simp[c,d]
def vP (w:y7)(A:SE)(e:Ending)(w':y7):Prop:=(∃b d f g,e=z7 (q5 #[V b.a A.s0.length b.c,V d.a A.s1.length d.c,V f.a A.s2.length f.c,V g.a A.s3.length g.c])/\PR w' A b d f g/\Tp w.heap.size w'.heap.size b d f g)/\F0 w w'
theorem Ru (w r n b d c f g h)(a:Tc n r)(i:Td r)(j:Zu w b r.mcc)(k:Zu w c r.cur):
  y8 X 114 #[q5 #[U r.name,I J r.rank,I J r.digits,I J r.lo,I J r.hi,V b r.mcc.length d,E r.am.isSome,I J (r.am.getD (0,0)).1,I J (r.am.getD (0,0)).2,V c r.cur.length f,E r.decline,E r.cheapest,V g r.routes.length h,I J r.ahead]] w (vP w (Ua r)):=by
 refine(MJ w r.name r.rank r.digits r.lo r.hi b d r.mcc r.am.isSome (r.am.getD (0,0)).1 (r.am.getD (0,0)).2 c f r.cur r.decline r.cheapest g r.routes.length h r.ahead a.bn.1 a.bn.2.2 (nL a.bn.2.1 (xn a.bn.1)) j (z9 i.m4 (by decide)) k (z9 i.c4 (by decide))).mono ?_;rintro e w' ⟨⟨l,m,o,p,A,rfl,rfl,q,s⟩,t⟩;exact⟨⟨l,m,o,p,rfl,q,s⟩,t⟩
structure Qu (w:y7)(ov:j0)(As:List SE)(es:List Ta)(wr:y7):Prop where
 ar:es.map Ta.A=As
 ro:wr.ownsRow w.heap.size 215 4 ov es.length (Ve es)
 ok:∀e,e∈es->e.ok wr/\∀x,x=e.x0\/x=e.x1\/x=e.x2\/x=e.x3->∀g o,x.a=Z ⟨g,o,Y⟩->g<wr.heap.size/\ov.ownBlock≠Z g
 fr:F0 w wr
theorem Qu.more {w wr a d f es}(h:Qu w d f es wr)(b:F0 wr a):Qu w d f es a:=
 ⟨h.ar,oF h.ro b (by simp),fun e c=>⟨(h.ok e c).1.fr b,fun x i g o j=>⟨nL ((h.ok e c).2 x i g o j).1 b.size,((h.ok e c).2 x i g o j).2⟩⟩,h.fr.trans b⟩
theorem Qu.app {w wr i z q r s J es A j l m n g2 d}(h:Qu w (V q r s) J es wr)(K:F0 wr i)(E:PR i A j l m n)(p:Tp wr.heap.size i.heap.size j l m n)(t:z.ownsRow w.heap.size 215 4 (V (Z ⟨g2,0,Y⟩) (es.length+1) d) (es.length+1) (Ve es++Q7 ⟨A,j,l,m,n⟩))(f:(i.alloc (O #[Xn j A.s0,Xn l A.s1,Xn m A.s2,Xn n A.s3] 215)).grownBy z (z8 q r s).ownBlock)(F:(z8 q r s).ownBlock=Z g2\/(i.alloc (O #[Xn j A.s0,Xn l A.s1,Xn m A.s2,Xn n A.s3] 215)).heap.size<=g2):
  Qu w (V (Z ⟨g2,0,Y⟩) (es.length+1) d) (J++[A]) (es++[⟨A,j,l,m,n⟩]) z:=by
 have G:=h.more K;have B:Fr (fun k=>(z8 q r s).ownBlock=Z k) i z:=(Zt.alloc _).grown f (fun k H=>.inl H)
 have L:i.heap.size<(i.alloc (O #[Xn j A.s0,Xn l A.s1,Xn m A.s2,Xn n A.s3] 215)).heap.size:=by simp
 have u:∀g,g<i.heap.size->(z8 q r s).ownBlock≠Z g->(z8 (Z ⟨g2,0,Y⟩) (es.length+1) d).ownBlock≠Z g:=by
  intro g N I e
  have b:g2=g:=by simpa[j3]using e
  subst b;rcases F with C|C
  ·exact I C
  omega
 refine⟨by simp[h.ar],?_,fun e v=>?_,(G.fr.alloc _).grown f (fun k H=>.inr (G.ro.lt k H).1)⟩
 ·rw[Ou,lA]
  exact t
 rcases y9.1 v with v|v
 ·obtain⟨C,D⟩:=G.ok e v
  exact⟨PR.frS C B (fun x c g o b _=>(D x c g o b).2),fun x c g o b=>⟨nL (D x c g o b).1 B.size,u g (D x c g o b).1 (D x c g o b).2⟩⟩
 rw[z6.1 v]
 have y:∀x,x=j\/x=l\/x=m\/x=n->∀g o,x.a=Z ⟨g,o,Y⟩->(z8 q r s).ownBlock≠Z g:=fun x c g o b M=>by
  have:=(h.ro.lt g M).2;have:=(p x c g o b).1;omega
 exact⟨PR.frS E B (fun x c g o b _=>y x c g o b),fun x c g o b=>⟨nL (p x c g o b).2 B.size,u g (p x c g o b).2 (y x c g o b)⟩⟩
theorem EB (w va c N f d nr)(h:vO w va d)(hN:d.length=N)(h8:N<=8)(w0:f<N)(y0:∀r,r∈d->Tc nr r/\Td r):
  y8 X 181 #[V va N c,I J (f:Nat)] w fun e w'=>(∃a cc es,e=z7 (V a es.length cc)/\es.map Ta.A=Uk d f N/\VZ w' a es)/\F0 w w':=by
 obtain⟨ii,hi,m0,n0,o0⟩:=info_parts RO;have HR:=Za h;have HN:=Za hN;have p0:=Za y0
 have G0:(f:Int)<(N:Int):=by omega
 have z0:=Za w0;go_enter Tryz.func181,Tryz.ntmps181;go_wp2_with fail
 go_loopg [5,10] N (fun m ov iv wr=>∃k es,k<=N/\m=N-k/\iv=I J (k:Nat)/\G (Qu w ov (Uk d f k) es wr))
 case atStart=>exact⟨0,[],by omega,rfl,rfl,rfl,oZ _ _ _ _,by simp,Fr.refl _ _⟩
 obtain⟨k,es,hk,rfl,rfl,s⟩:=hrel;by_cases H0:k<N
 ·have A0:(k:Int)<(N:Int):=by omega
  obtain⟨oa,oc,ho⟩:=oL s.o.ro;subst ho;obtain⟨r,hr⟩:∃r,d[k]?=Z r:=⟨_,gE (show k<d.length by have:=HN.o;omega)⟩;obtain⟨q,hq⟩:∃q,d[f]?=Z q:=⟨_,gE (show f<d.length by have:=HN.o;have:=z0.o;omega)⟩;obtain⟨g,ma,mc,ca,cc,pa,pc,ea,L,h1,h2⟩:=(HR.o.fr s.o.fr) k r hr;obtain⟨g',_,_,_,_,_,_,q0,B0,_,_⟩:=(HR.o.fr s.o.fr) f q hq
  have eg:g'=g:=by rw[ea]at q0;injection q0 with e;injection e with e;exact e.symm
  subst eg ea;have p1:=B0 1 _ rfl;have v0:=L 0 _ rfl;have v1:=L 1 _ rfl;have v2:=L 2 _ rfl;have v3:=L 3 _ rfl;have v4:=L 4 _ rfl;have v5:=L 5 _ rfl;have v6:=L 6 _ rfl;have v7:=L 7 _ rfl;have v8:=L 8 _ rfl;have v9:=L 9 _ rfl;have I0:=L 10 _ rfl;have J0:=L 11 _ rfl;have K0:=L 12 _ rfl;have L0:=L 13 _ rfl;rw[q6]at v0;have r0:=Za h1;have t0:=Za h2;have C:=Za hr;have C0:=Za hq;go_upto_region 5 with fail;obtain⟨l,t⟩:=Vx wr (O #[U r.name,I J r.rank,I J r.digits,I J r.lo,I J r.hi,V ma r.mcc.length mc,E r.am.isSome,I J (r.am.getD (0,0)).1,I J (r.am.getD (0,0)).2,V ca r.cur.length cc,E r.decline,E r.cheapest,V pa r.routes.length pc,I J r.ahead] 120);generalize wr.alloc _=w1 at*;obtain⟨Q,hQ⟩:∃Q,wr.heap.size=Q:=⟨_,rfl⟩;rw[hQ]at t;rw[hQ];have HQ:=Za hQ;have p2:=(l.o.cell (p:=⟨g',f*14+1,Y⟩) (bL wr _ p1) (by simp)).trans p1;obtain⟨c0,c1,c2,c3,c4,c5,c6,c7,c8,c9,u,v,y,z⟩:=ZY t.o;obtain⟨b,hb⟩:∃b,BC d f k=b:=⟨_,rfl⟩
  have M:(decide (q.rank<r.rank)||(decide (r.rank=q.rank)&&decide (k<f)))=b:=by rw[<-hb];unfold BC;rw[C.o,C0.o]
  have HB:=Za hb;clear hb;by_cases g1:q.rank<r.rank
  ·have d1:decide (q.rank<r.rank)=true:=by simp[g1]
   have eb:b=true:=by rw[<-M];simp[g1]
   subst eb
   go_quiet (fail)
   have i:G (F0 wr (w1.drewN nq)):=l.o.trans ⟨rfl,rfl,rfl,H _,fun _ _ _=>rfl⟩;have j0:G ((w1.drewN nq).heap[Q]?=Z (O #[U r.name,I J r.rank,I J r.digits,I J r.lo,I J r.hi,V ma r.mcc.length mc,E r.am.isSome,I J (r.am.getD (0,0)).1,I J (r.am.getD (0,0)).2,V ca r.cur.length cc,E r.decline,E r.cheapest,V pa r.routes.length pc,I J r.ahead] 120)):=t.o;clear p2 c0 c1 c2 c3 c4 c5 c6 c7 c8 c9 u v y z t l;generalize w1.drewN nq=w2 at*;obtain⟨c0,c1,c2,c3,c4,c5,c6,c7,c8,c9,u,v,y,z⟩:=ZY j0.o;have a0:=p0.o r (mG C.o);have b0:=Za (Ru w2 r nr ma mc ca cc pa pc a0.1 a0.2 (r0.o.fr i.o) (t0.o.fr i.o (by simp)))
   go_wp2_with (go_at_call 114;refine b0.o.mono ?_)
   rintro e w5 ⟨⟨P,R,S,T,rfl,d0,D⟩,e0⟩
   have HE:G (Uk d f (k+1)=Uk d f k++[Ua r]):=by
    show _=_
    conv=>lhs;unfold Uk;rw[C.o]
    simp[HB.o]
   generalize Ua r=A at*;have k0:=Za d0
   have l0:G (Tp wr.heap.size w5.heap.size P R S T):=fun x hx g o e=>⟨z9 i.o.size (D x hx g o e).1,(D x hx g o e).2⟩
   have F:=Za (i.o.trans e0);have f0:=Za (s.o.more F.o).ro;obtain⟨W,n⟩:∃W,es.length=W:=⟨_,rfl⟩
   have D0:W<=8:=by
    have h1:=congrArg q2 s.o.ar;have h2:=Pj d f k;rw[y6]at h1;omega
   have g0:=Za n;rw[n]at f0;rw[n];clear d0 D e0 b0 c0 c1 c2 c3 c4 c5 c6 c7 c8 c9 u v y z n
   go_wp2_with (at_builtin;refine wpList_append_lies _ rfl (.tmp 38) (.tmp 41) 217 rfl w.heap.size 215 ii _ 4 96 Tryz.underlying217 hi m0 n0 o0 rfl (by decide) (V oa W oc) W (Ve es) rfl ?h1a ⟨w5.heap.size,0,Y⟩ 1 1 [V P.a A.s0.length P.c,V R.a A.s1.length R.c,V S.a A.s2.length S.c,V T.a A.s3.length T.c] rfl rfl ?h2a ?h3a (by decide) ?h4a ?h5a ?h6a _ rfl ?_)
   case h1a=>exact f0.o.alloc _
   case h2a=>exact y5 (aN w5 (O #[V P.a A.s0.length P.c,V R.a A.s1.length R.c,V S.a A.s2.length S.c,V T.a A.s3.length T.c] 215))
   case h3a=>simp[q1]
   case h4a=>unfold maxLen;omega
   case h5a=>omega
   case h6a=>have:=F.o.size;have:=s.o.fr.size;simp;omega
   intro g2 h0 w8 B j i0 _
   have K:G (Qu w (V (Z ⟨g2,0,Y⟩) (W+1) h0) (Uk d f (k+1)) (es++[⟨A,P,R,S,T⟩]) w8):=by
    show Qu _ _ _ _ _
    rw[HE.o,<-g0.o];rw[<-g0.o]at B j i0;exact s.o.app F.o k0.o l0.o B j (i0.imp id (fun e=>by rw[e];simp))
   go_wp2_with fail;go_roundg (N-(k+1))
   case measure=>omega
   exact⟨k+1,_,by omega,rfl,by go_num,K⟩
  have d1:decide (q.rank<r.rank)=false:=by simp[g1]
  by_cases g2:r.rank=q.rank
  ·have d2:((r.rank:Int)==(q.rank:Int))=true:=by simp[g2]
   have d3:decide (r.rank=q.rank)=true:=by simp[g2]
   by_cases g3:k<f
   ·have d4:decide (k<f)=true:=by simp[g3]
    have eb:b=true:=by rw[<-M];simp[g2,g3]
    subst eb;clear M g1 g2 g3
    go_quiet (fail)
    have i:G (F0 wr (w1.drewN nq)):=l.o.trans ⟨rfl,rfl,rfl,H _,fun _ _ _=>rfl⟩;have j0:G ((w1.drewN nq).heap[Q]?=Z (O #[U r.name,I J r.rank,I J r.digits,I J r.lo,I J r.hi,V ma r.mcc.length mc,E r.am.isSome,I J (r.am.getD (0,0)).1,I J (r.am.getD (0,0)).2,V ca r.cur.length cc,E r.decline,E r.cheapest,V pa r.routes.length pc,I J r.ahead] 120)):=t.o;clear p2 c0 c1 c2 c3 c4 c5 c6 c7 c8 c9 u v y z t l;generalize w1.drewN nq=w2 at*;obtain⟨c0,c1,c2,c3,c4,c5,c6,c7,c8,c9,u,v,y,z⟩:=ZY j0.o;have a0:=p0.o r (mG C.o);have b0:=Za (Ru w2 r nr ma mc ca cc pa pc a0.1 a0.2 (r0.o.fr i.o) (t0.o.fr i.o (by simp)))
    go_wp2_with (go_at_call 114;refine b0.o.mono ?_)
    rintro e w5 ⟨⟨P,R,S,T,rfl,d0,D⟩,e0⟩
    have HE:G (Uk d f (k+1)=Uk d f k++[Ua r]):=by
     show _=_
     conv=>lhs;unfold Uk;rw[C.o]
     simp[HB.o]
    generalize Ua r=A at*;have k0:=Za d0
    have l0:G (Tp wr.heap.size w5.heap.size P R S T):=fun x hx g o e=>⟨z9 i.o.size (D x hx g o e).1,(D x hx g o e).2⟩
    have F:=Za (i.o.trans e0);have f0:=Za (s.o.more F.o).ro;obtain⟨W,n⟩:∃W,es.length=W:=⟨_,rfl⟩
    have D0:W<=8:=by
     have h1:=congrArg q2 s.o.ar;have h2:=Pj d f k;rw[y6]at h1;omega
    have g0:=Za n;rw[n]at f0;rw[n];clear d0 D e0 b0 c0 c1 c2 c3 c4 c5 c6 c7 c8 c9 u v y z n
    go_wp2_with (at_builtin;refine wpList_append_lies _ rfl (.tmp 38) (.tmp 41) 217 rfl w.heap.size 215 ii _ 4 96 Tryz.underlying217 hi m0 n0 o0 rfl (by decide) (V oa W oc) W (Ve es) rfl ?h1b ⟨w5.heap.size,0,Y⟩ 1 1 [V P.a A.s0.length P.c,V R.a A.s1.length R.c,V S.a A.s2.length S.c,V T.a A.s3.length T.c] rfl rfl ?h2b ?h3b (by decide) ?h4b ?h5b ?h6b _ rfl ?_)
    case h1b=>exact f0.o.alloc _
    case h2b=>exact y5 (aN w5 (O #[V P.a A.s0.length P.c,V R.a A.s1.length R.c,V S.a A.s2.length S.c,V T.a A.s3.length T.c] 215))
    case h3b=>simp[q1]
    case h4b=>unfold maxLen;omega
    case h5b=>omega
    case h6b=>have:=F.o.size;have:=s.o.fr.size;simp;omega
    intro g2 h0 w8 B j i0 _
    have K:G (Qu w (V (Z ⟨g2,0,Y⟩) (W+1) h0) (Uk d f (k+1)) (es++[⟨A,P,R,S,T⟩]) w8):=by
     show Qu _ _ _ _ _
     rw[HE.o,<-g0.o];rw[<-g0.o]at B j i0;exact s.o.app F.o k0.o l0.o B j (i0.imp id (fun e=>by rw[e];simp))
    go_wp2_with fail;go_roundg (N-(k+1))
    case measure=>omega
    exact⟨k+1,_,by omega,rfl,by go_num,K⟩
   have d4:decide (k<f)=false:=by simp[g3]
   have eb:b=false:=by rw[<-M];simp[g2,g3]
   subst eb
   go_quiet (fail)
   have i:G (F0 wr (w1.drewN nq)):=l.o.trans ⟨rfl,rfl,rfl,H _,fun _ _ _=>rfl⟩
   have K:G (Qu w (V oa es.length oc) (Uk d f (k+1)) es (w1.drewN nq)):=by
    show Qu _ _ _ _ _
    have e:Uk d f (k+1)=Uk d f k:=by
     conv=>lhs;unfold Uk;rw[C.o]
     simp[HB.o]
    rw[e];exact s.o.more i.o
   clear p2 c0 c1 c2 c3 c4 c5 c6 c7 c8 c9 u v y z t l;generalize w1.drewN nq=w2 at*;go_wp2_with fail;go_roundg (N-(k+1))
   case measure=>omega
   exact⟨k+1,_,by omega,rfl,by go_num,K⟩
  have d2:((r.rank:Int)==(q.rank:Int))=false:=by simp;omega
  have d3:decide (r.rank=q.rank)=false:=by simp[g2]
  have eb:b=false:=by rw[<-M];simp[g1,g2]
  subst eb;clear M g1 g2
  go_quiet (fail)
  have i:G (F0 wr (w1.drewN nq)):=l.o.trans ⟨rfl,rfl,rfl,H _,fun _ _ _=>rfl⟩
  have K:G (Qu w (V oa es.length oc) (Uk d f (k+1)) es (w1.drewN nq)):=by
   show Qu _ _ _ _ _
   have e:Uk d f (k+1)=Uk d f k:=by
    conv=>lhs;unfold Uk;rw[C.o]
    simp[HB.o]
   rw[e];exact s.o.more i.o
  clear p2 c0 c1 c2 c3 c4 c5 c6 c7 c8 c9 u v y z t l;generalize w1.drewN nq=w2 at*;go_wp2_with fail;go_roundg (N-(k+1))
  case measure=>omega
  exact⟨k+1,_,by omega,rfl,by go_num,K⟩
 have A0:¬(k:Int)<(N:Int):=by omega
 have ek:k=N:=by omega
 have E0:=Za ek;obtain⟨oa,oc,ho⟩:=oL s.o.ro;subst ho;go_wp2_with fail;go_ret;obtain⟨a',c',e1,h1,_⟩:=Dx s.o.ro (fun e he=>(s.o.ok e he).1);rw[e1];refine⟨⟨a',c',es,rfl,?_,h1⟩,s.o.fr⟩;rw[s.o.ar,E0.o]
def zR (A:SE)(a:List SE):Bool:=Ek A (a.map fun B=>⟨B,⟨Y,0⟩,⟨Y,0⟩,⟨Y,0⟩,⟨Y,0⟩⟩)
theorem Gm {A}(b:∀side s,s∈A.at side->s.1<=s.2)(a):zR A a=true↔∃p,V6 A 4 p=true/\∀B,B∈a->V6 B 4 p=false:=by
 unfold zR;rw[Hu b];simp
theorem xD {A}(a:∀side s,s∈A.at side->s.1<=s.2)(es):Ek A es=zR A (es.map Ta.A):=by
 rw[Bool.eq_iff_iff,Hu a,Gm a];simp
def Rz (a:List Ze)(j:Nat):Bool:=match a[j]? with
 |some r=>zR (Ua r) (Uk a j a.length)
 |none=>false
def WT (a:List Ze):Nat->List ByteArray
 |0=>[]
 |k+1=>WT a k++(match a[k]? with|some r=>if Rz a k then[]else[r.name]|none=>[])
theorem M5 (a:List Ze):∀k,(WT a k).length<=k
 |0=>H _
 |k+1=>by
  have:=M5 a k;unfold WT;rw[lA]
  split
  ·split<;>simp<;>omega
  simp;omega
def Sz (l:List ByteArray):List j0:=l.map q4
theorem BD (w B va c N a nr)(hB:w.cell? ⟨B,1,Y⟩=Z (V va N c))(h:vO w va a)(hN:a.length=N)(h8:N<=8)(r0:∀r,r∈a->Tc nr r/\Td r):
  y8 X 140 #[L (Z ⟨B,0,Y⟩)] w fun e w'=>(∃v,e=z7 v/\w'.ownsRow w.heap.size 9 1 v (WT a N).length (Sz (WT a N))/\(WT a N=[]->v=V Y 0 0))/\F0 w w':=by
 obtain⟨ij,I0,J0,K0,L0⟩:=info_parts RL;have HR:=Za h;have HN:=Za hN;have g0:=Za r0;have t0:=Za hB;clear h hN r0;go_enter Tryz.func140,Tryz.ntmps140;go_wp2_with fail;clear hB
 go_loopg [3,11] N (fun m ov iv wr=>∃k,k<=N/\m=N-k/\iv=I J (k:Nat)/\G (wr.ownsRow w.heap.size 9 1 ov (WT a k).length (Sz (WT a k)))/\G (WT a k=[]->ov=V Y 0 0)/\G (F0 w wr))
 case atStart=>exact⟨0,by omega,rfl,rfl,oZ _ _ _ _,fun _=>rfl,Zt⟩
 obtain⟨k,hk,rfl,rfl,HO,HZ,C⟩:=hrel;obtain⟨oa,oc,ho⟩:=oL HO.o;subst ho;by_cases M0:k<N
 ·have N0:(k:Int)<(N:Int):=by omega
  obtain⟨r,hr⟩:∃r,a[k]?=Z r:=⟨_,gE (show k<a.length by have:=HN.o;omega)⟩;obtain⟨g,ma,mc,ca,cc,pa,pc,ea,f,h1,h2⟩:=(HR.o.fr C.o) k r hr;subst ea;have v0:=f 0 _ rfl;have v1:=f 1 _ rfl;have v2:=f 2 _ rfl;have v3:=f 3 _ rfl;have v4:=f 4 _ rfl;have v5:=f 5 _ rfl;have v6:=f 6 _ rfl;have v7:=f 7 _ rfl;have v8:=f 8 _ rfl;have v9:=f 9 _ rfl;have O0:=f 10 _ rfl;have P0:=f 11 _ rfl;have Q0:=f 12 _ rfl;have R0:=f 13 _ rfl;rw[q6]at v0;have S0:=Za h1;have T0:=Za h2;have b1:=Za hr;have d:=Za (g0.o r (mG hr))
  have h0:G (WT a (k+1)=WT a k++(if Rz a k then[]else[r.name])):=by show _=_;conv=>lhs;unfold WT;rw[hr]
  have V0:G (Rz a k=zR (Ua r) (Uk a k N)):=by show _=_;unfold Rz;rw[hr,HN.o]
  clear f h1 h2 hr;obtain⟨y,w0⟩:=Vx wr (O #[U r.name,I J r.rank,I J r.digits,I J r.lo,I J r.hi,V ma r.mcc.length mc,E r.am.isSome,I J (r.am.getD (0,0)).1,I J (r.am.getD (0,0)).2,V ca r.cur.length cc,E r.decline,E r.cheapest,V pa r.routes.length pc,I J r.ahead] 120);go_upto_region 5 with fail;generalize wr.alloc _=w1 at*;obtain⟨Q,hQ⟩:∃Q,wr.heap.size=Q:=⟨_,rfl⟩;rw[hQ]at w0;rw[hQ];have HQ:=Za hQ;clear v0 v1 v2 v3 v4 v5 v6 v7 v8 v9 O0 P0 Q0 R0 hQ
  have i0:G (∀W,F0 w1 W->W.heap[Q]?=Z (O #[U r.name,I J r.rank,I J r.digits,I J r.lo,I J r.hi,V ma r.mcc.length mc,E r.am.isSome,I J (r.am.getD (0,0)).1,I J (r.am.getD (0,0)).2,V ca r.cur.length cc,E r.decline,E r.cheapest,V pa r.routes.length pc,I J r.ahead] 120)/\W.cell? ⟨B,1,Y⟩=Z (V (Z ⟨g,0,Y⟩) N c)):=fun W hf=>
   ⟨hf.whole w0.o,(((C.o.trans y.o).trans hf).cell (p:=⟨B,1,Y⟩) (bL w _ t0.o)).trans t0.o⟩
  refine wp_region_held_drew (S:=fun W=>W.heap[Q]?=Z (O #[U r.name,I J r.rank,I J r.digits,I J r.lo,I J r.hi,V ma r.mcc.length mc,E r.am.isSome,I J (r.am.getD (0,0)).1,I J (r.am.getD (0,0)).2,V ca r.cur.length cc,E r.decline,E r.cheapest,V pa r.routes.length pc,I J r.ahead] 120)/\W.cell? ⟨B,1,Y⟩=Z (V (Z ⟨g,0,Y⟩) N c)) (by kernel_rfl) (i0.o _ Zt.drew) (fun z=>?_);refine UP 0 (v:=?v0z) ?y0z z ?r0z
  case y0z=>
   rintro w ⟨b,s1⟩;obtain⟨K,c1,M,c3,c4,c5,c6,c7,c8,c9,l,t,u,x⟩:=ZY b;clear b;go_simp
   with_reducible rfl
  try go_frame
  refine UP 1 (v:=?v1z) ?y1z z ?r1z
  case y1z=>
   rintro w ⟨b,s1⟩;obtain⟨K,c1,M,c3,c4,c5,c6,c7,c8,c9,l,t,u,x⟩:=ZY b;clear b;go_simp
   with_reducible rfl
  try go_frame
  refine UP 2 (v:=?v2z) ?y2z z ?r2z
  case y2z=>
   rintro w ⟨b,s1⟩;obtain⟨K,c1,M,c3,c4,c5,c6,c7,c8,c9,l,t,u,x⟩:=ZY b;clear b;go_simp
   with_reducible rfl
  try go_frame
  refine UP 3 (v:=?v3z) ?y3z z ?r3z
  case y3z=>
   rintro w ⟨b,s1⟩;obtain⟨K,c1,M,c3,c4,c5,c6,c7,c8,c9,l,t,u,x⟩:=ZY b;clear b;go_simp
   with_reducible rfl
  try go_frame
  refine UP 4 (v:=?v4z) ?y4z z ?r4z
  case y4z=>
   rintro w ⟨b,s1⟩;obtain⟨K,c1,M,c3,c4,c5,c6,c7,c8,c9,l,t,u,x⟩:=ZY b;clear b;go_simp
   with_reducible rfl
  try go_frame
  refine UP 5 (v:=?v5z) ?y5z z ?r5z
  case y5z=>
   rintro w ⟨b,s1⟩;obtain⟨K,c1,M,c3,c4,c5,c6,c7,c8,c9,l,t,u,x⟩:=ZY b;clear b;go_simp
   with_reducible rfl
  try go_frame
  refine Xz [6] ?_;refine Zb rfl (fun K2 hK=>?_) F
  try rw[if_pos (by rfl)]
  go_simp;refine(EB w1.drew (Z ⟨g,0,Y⟩) c N k a nr (HR.o.fr ((C.o.trans y.o).trans Zt.drew)) HN.o h8 M0 g0.o).mono ?_;rintro e w2 ⟨⟨a2,M,es,rfl,j0,x0⟩,y0⟩;have P:G (F0 w1 w2):=(Zt.drew).trans y0;have k0:=Za j0;have z0:=Za x0
  have d0:es.length<=10:=by
   have h1:=congrArg q2 j0;have h2:=Pj a k N;rw[y6]at h1;omega
  have HL:=Za d0;obtain⟨n2,l0⟩:∃n,es.length=n:=⟨_,rfl⟩;have A0:=Za l0;rw[l0];clear y0 j0 x0 d0 l0;refine hK.out _ _ (i0.o _ P.o) (fun z=>?_);clear hK K2
  try go_frame
  refine Xz [7] ?_;refine Zb rfl (fun K2 hK=>?_) F
  try rw[if_pos (by rfl)]
  go_simp
  have B0:∀e,e∈es->∀i s,i<4->s∈e.A.at i->s.1<=10000000000/\s.2<=10000000000:=fun e he i s _ hs=>by
   have h1:e.A∈Uk a k N:=by rw[<-k0.o];exact j1 he
   obtain⟨j,q,_,hq,_,eq⟩:=(Pk a k e.A N).1 h1;rw[eq]at hs;have h2:=g0.o q (mG hq);exact(Qt h2.1 h2.2 i s hs).2
  have R:=Za (Hv w2 r.name r.rank r.digits r.lo r.hi ma mc r.mcc r.am.isSome (r.am.getD (0,0)).1 (r.am.getD (0,0)).2 ca cc r.cur r.decline r.cheapest pa r.routes.length pc r.ahead a2 M es d.o.1.bn.1 d.o.1.bn.2.2 (nL d.o.1.bn.2.1 (xn d.o.1.bn.1)) (S0.o.fr (y.o.trans P.o)) (z9 d.o.2.m4 (by decide)) (T0.o.fr (y.o.trans P.o)) (z9 d.o.2.c4 (by decide)) z0.o HL.o B0);unfold GS at R;rw[A0.o]at R;refine R.o.mono ?_;rintro e w3 ⟨rfl,C0⟩
  have eb:Ek (RT r.digits r.lo r.hi r.mcc r.am.isSome (r.am.getD (0,0)).1 (r.am.getD (0,0)).2 r.cur) es=Rz a k:=by
   rw[V0.o,<-k0.o];exact xD (A:=Ua r) (fun i s hs=>(Qt d.o.1 d.o.2 i s hs).1) es
  rw[eb];have m0:=Za (P.o.trans C0);clear C0 eb R B0 A0 HL k0 z0;refine hK.out _ _ (i0.o _ m0.o) (fun z=>?_);clear hK K2
  try go_frame
  have D0:=Za ((C.o.trans y.o).trans m0.o);have n0:=Za (oF HO.o (y.o.trans m0.o));obtain⟨T,a0⟩:∃T,(WT a k).length=T:=⟨_,rfl⟩
  have d1:T<=8:=by have:=M5 a k;omega
  have o0:=Za a0;rw[a0]at n0;rw[a0];clear a0
  cases D:Rz a k with
  |true=>
   refine UP 8 (v:=?v8t) ?y8t z ?r8t
   case y8t=>
    rintro w ⟨b,s1⟩;obtain⟨K,c1,M,c3,c4,c5,c6,c7,c8,c9,l,t,u,x⟩:=ZY b;clear b;go_simp
    with_reducible rfl
   try go_frame
   refine wpAnyH_done (by kernel_rfl) ?_ _
   have b0:G (w3.ownsRow w.heap.size 9 1 (V oa T oc) (WT a (k+1)).length (Sz (WT a (k+1)))):=by show y4 _ _ _ _ _ _ _;rw[h0.o,D,if_pos rfl,q8,o0.o];exact n0.o
   have W0:G (WT a (k+1)=[]->z8 oa T oc=V Y 0 0):=by
    show _->_
    rw[h0.o,D,if_pos rfl,q8];have:=HZ.o;rw[o0.o]at this;exact this
   clear D z;go_wp2_with fail;go_roundg (N-(k+1))
   case measure=>omega
   exact⟨k+1,by omega,rfl,by go_num,b0,W0,D0⟩
  |false=>
   refine UP 8 (v:=?v8f) ?y8f z ?r8f
   case y8f=>
    rintro w ⟨b,s1⟩;obtain⟨K,c1,M,c3,c4,c5,c6,c7,c8,c9,l,t,u,x⟩:=ZY b;clear b;go_simp
    with_reducible rfl
   try go_frame
   refine wpAnyH_done (by kernel_rfl) ?_ _
   have E0:G (WT a (k+1)=WT a k++[r.name]):=by show _=_;rw[h0.o,D];rfl
   obtain⟨h3,_⟩:=z;have K:=(ZY h3).1;have G0:=Za (Vz r.name w3 d.o.1.nm);clear D h3
   go_wp2_with (go_at_call 96;refine G0.o.mono ?_)
   rintro e w4 ⟨rfl,p0⟩;have H0:=Za (D0.o.trans p0);have b0:=Za (oF n0.o p0);clear p0 K G0
   go_wp2_with (at_builtin;refine wpList_append_lies _ rfl (.tmp 25) (.tmp 29) 28 rfl w.heap.size 9 ij _ 1 16 Tryz.underlying28 I0 J0 K0 L0 rfl (by decide) (V oa T oc) T (Sz (WT a k)) rfl ?h1 ⟨w4.heap.size,0,Y⟩ 1 1 [U r.name] rfl rfl ?h2 ?h3 (by decide) ?h4 ?h5 ?h6 _ rfl ?_)
   case h1=>exact b0.o.alloc _
   case h2=>exact y5 (aN w4 (O #[U r.name] 9))
   case h3=>simp[q1]
   case h4=>unfold maxLen;omega
   case h5=>omega
   case h6=>have:=H0.o.size;simp;omega
   intro g2 e0 w8 f0 H X0 _;have Y0:=Za ((H0.o.alloc _).grown H (fun k hk=>Or.inr (b0.o.lt k hk).1))
   have Z0:G (w8.ownsRow w.heap.size 9 1 (V (Z ⟨g2,0,Y⟩) (T+1) e0) (WT a (k+1)).length (Sz (WT a (k+1)))):=by
    show y4 _ _ _ _ _ _ _
    rw[E0.o,List.length_append,o0.o,show Sz (WT a k++[r.name])=Sz (WT a k)++[U r.name]from by simp[Sz]];exact f0
   have a1:G (WT a (k+1)=[]->z8 (Z ⟨g2,0,Y⟩) (T+1) e0=V Y 0 0):=fun h=>by rw[E0.o]at h;simp at h
   clear f0 H X0;go_wp2_with fail;go_roundg (N-(k+1))
   case measure=>omega
   exact⟨k+1,by omega,rfl,by go_num,Z0,a1,Y0⟩
 have N0:¬(k:Int)<(N:Int):=by omega
 have ek:k=N:=by omega
 have q0:=Za ek;clear ek;go_wp2_with fail;go_ret;have e1:=HO.o;have e2:=HZ.o;rw[q0.o]at e1 e2;exact⟨⟨_,rfl,by rw[q0.o];exact e1,fun h=>by have:=e2 h;rw[q0.o];exact this⟩,C.o⟩
open Go.Shelf
theorem Gn {side A es es'}(h:es.map Ta.A=es'.map Ta.A):Xx side A es=Xx side A es':=by
 have e:∀Yq es,st1 side Yq es=Yq.1::(es.map Ta.A).flatMap fun B=>YB Yq (B.at side):=fun Yq es=>by
  unfold st1;rw[List.flatMap_map]
 have a:YZ side (A.at side) es=YZ side (A.at side) es':=by
  unfold YZ
  congr 1
  funext s
  rw[e,e,h]
 unfold Xx;rw[a]
theorem KP {A:SE}:∀(k:Nat){es es':List Ta},es.map Ta.A=es'.map Ta.A->XY A k es=XY A k es'
 |0,es,es',h=>by
  have:=congrArg q2 h;rw[y6,y6]at this;simp only[XY,this]
 |k+1,es,es',h=>by
  have e:∀n,XY A k (Vi (3-k) n es)=XY A k (Vi (3-k) n es'):=fun n=>by
   refine KP k ?_
   have f:∀l:List Ta,(Vi (3-k) n l).map Ta.A=(l.map Ta.A).filter fun B=>Xv B (3-k) n:=fun l=>by
    unfold Vi;rw[List.filter_map];rfl
   rw[f,f,h]
  simp only[XY];rw[Gn h]
  congr 1
  funext n
  rw[e n]
def Re (A B:SE):Option (Ry×Nat):=(XY A 4 [⟨B,⟨Y,0⟩,⟨Y,0⟩,⟨Y,0⟩,⟨Y,0⟩⟩]).find? fun y=>decide (0<y.2)
theorem KQ {A B}(b:∀side s,s∈A.at side->s.1<=s.2){y}(h:Re A B=Z y):V6 A 4 y.1=true/\V6 B 4 y.1=true:=by
 unfold Re at h;have c:=List.find?_some h;obtain⟨d,a⟩:=U7 b 4 (by omega) _ y (List.mem_of_find?_eq_some h);refine⟨d,?_⟩
 cases e:V6 B 4 y.1 with
 |true=>rfl
 |false=>
  simp[e]at a;simp[a]at c
theorem BE {A B}(c:∀side s,s∈A.at side->s.1<=s.2)(h:Re A B=Y)(p):¬(V6 A 4 p=true/\V6 B 4 p=true):=by
 rintro⟨d,e⟩;unfold Re at h;rw[q3]at h;obtain⟨y,b,f⟩:=Qp 4 (by omega) [⟨B,⟨Y,0⟩,⟨Y,0⟩,⟨Y,0⟩,⟨Y,0⟩⟩] p d;obtain⟨_,a⟩:=U7 c 4 (by omega) _ y b;have g:=f ⟨B,⟨Y,0⟩,⟨Y,0⟩,⟨Y,0⟩,⟨Y,0⟩⟩ (by simp);have i:=h y b;simp only[List.filter_cons,List.filter_nil]at a;rw[g,e]at a;simp at a i;omega
structure uw (w0:y7)(A A2:SE)(B:Nat)(x0 x1 x2 x3:GU)(a:Option Addr)(c:Nat)(es:List Ta)(wx:y7):Prop where
 em:es.map Ta.A=[A2]
 sz:wx.heap.size=B+3
 lo:w0.heap.size<=B
 b0:wx.heap[B]?=Z (O #[I J ((0:Nat):Int)] 3)
 b1:wx.heap[B+1]?=Z (O #[Xn x0 A.s0,Xn x1 A.s1,Xn x2 A.s2,Xn x3 A.s3] 215)
 b2:wx.heap[B+1+1]?=Z (O #[V a 1 c] 217)
 ar:PR wx A x0 x1 x2 x3
 nw:Tp w0.heap.size wx.heap.size x0 x1 x2 x3
 ars:VZ wx a es
 an:∀g o,a=Z ⟨g,o,Y⟩->w0.heap.size<=g/\g<wx.heap.size
 en:∀e,e∈es->Tp w0.heap.size wx.heap.size e.x0 e.x1 e.x2 e.x3
 fr:F0 w0 wx
theorem Tp.more {m n a b c d f i}(h:Tp m n c d f i)(k:a<=m)(l:n<=b):Tp a b c d f i:=fun x j g o e=>⟨z9 k (h x j g o e).1,nL (h x j g o e).2 l⟩
theorem zS {w A b d f g}(h:PR w A b d f g):VZ (w.alloc (O #[V b.a A.s0.length b.c,V d.a A.s1.length d.c,V f.a A.s2.length f.c,V g.a A.s3.length g.c] 215)) (Z ⟨w.heap.size,0,Y⟩) [⟨A,b,d,f,g⟩]:=by
 intro k e i;have l:=aN w (O #[V b.a A.s0.length b.c,V d.a A.s1.length d.c,V f.a A.s2.length f.c,V g.a A.s3.length g.c] 215)
 cases k with
 |succ k=>simp at i
 |zero=>
  simp at i;subst i;refine⟨PR.fr h (Zt.alloc _),w.heap.size,0,rfl,fun j v m=>?_⟩;rw[show 0+0*4+j=j from by omega];exact bC l j v (by simpa[Q7,Xn]using m)
attribute [local go_sem] Oper.semAt_some
structure Gp (w0:y7)(A A2:SE)(x0 x1 x2 x3:GU)(a:Option Addr)(es:List Ta)(W:y7):Prop where
 em:es.map Ta.A=[A2]
 ar:PR W A x0 x1 x2 x3
 nw:Tp w0.heap.size W.heap.size x0 x1 x2 x3
 ars:VZ W a es
 an:∀g o,a=Z ⟨g,o,Y⟩->w0.heap.size<=g/\g<W.heap.size
 en:∀e,e∈es->Tp w0.heap.size W.heap.size e.x0 e.x1 e.x2 e.x3
 fr:F0 w0 W
theorem Gp.pays {w0 W A k d f i j a es}(h:Gp w0 A k d f i j a es W):
  y8 X 113 #[q5 #[V d.a A.s0.length d.c,V f.a A.s1.length f.c,V i.a A.s2.length i.c,V j.a A.s3.length j.c],V a 1 1] W fun e w'=>∃B,e=z7 (.func (.func 212) #[] #[L (Z ⟨B,0,Y⟩),L (Z ⟨B+1+1,0,Y⟩),L (Z ⟨B+1,0,Y⟩)])/\uw w0 A k B d f i j a 1 es w':=by
 refine(Pf A d f i j a 1 1 W).mono ?_;rintro e w' ⟨B,rfl,l,m,n,p,q,b⟩;exact⟨B,rfl,h.em,m,z9 h.fr.size l,n,p,q,h.ar.fr b,h.nw.more (H _) b.size,h.ars.fr b,fun g o e=>⟨(h.an g o e).1,nL (h.an g o e).2 b.size⟩,fun e r=>(h.en e r).more (H _) b.size,h.fr.trans b⟩
theorem Gp.mk1 {w0 d A b l m n p h i j k}(r:PR d A l m n p)(s:Tp w0.heap.size d.heap.size l m n p)(t:PR d b h i j k)(n2:Tp w0.heap.size d.heap.size h i j k)(q:F0 w0 d):
  Gp w0 A b l m n p (Z ⟨d.heap.size,0,Y⟩) [⟨b,h,i,j,k⟩] (d.alloc (O #[V h.a b.s0.length h.c,V i.a b.s1.length i.c,V j.a b.s2.length j.c,V k.a b.s3.length k.c] 215)):=by
 have f:=(Lp d (O #[V h.a b.s0.length h.c,V i.a b.s1.length i.c,V j.a b.s2.length j.c,V k.a b.s3.length k.c] 215)).1;refine⟨rfl,r.fr f,s.more (H _) f.size,zS t,fun g o e=>?_,fun e u=>?_,q.trans f⟩
 ·cases e
  exact⟨q.size,by simp⟩
 rw[z6.1 u]
 exact n2.more (H _) f.size
theorem ux {W P b c t u v0 v1 v2 v3}(i:W.heap[P+1+1]?=Z (O #[v0,v1,v2,v3] t))(j:W.heap[P+1+1+1]?=Z (O #[E c] u))(a d e f):
    ((((((W.setCell ⟨P+1+1,0,Y⟩ (I J (a:Nat))).setCell ⟨P+1+1,1,Y⟩ (I J (d:Nat))).setCell ⟨P+1+1,2,Y⟩ (I J (e:Nat))).setCell ⟨P+1+1,3,Y⟩ (I J (f:Nat))).setCell ⟨P+1+1+1,0,Y⟩ (E b)).heap[P+1+1]?=Z (O #[I J (a:Nat),I J (d:Nat),I J (e:Nat),I J (f:Nat)] t))/\
    ((((((W.setCell ⟨P+1+1,0,Y⟩ (I J (a:Nat))).setCell ⟨P+1+1,1,Y⟩ (I J (d:Nat))).setCell ⟨P+1+1,2,Y⟩ (I J (e:Nat))).setCell ⟨P+1+1,3,Y⟩ (I J (f:Nat))).setCell ⟨P+1+1+1,0,Y⟩ (E b)).heap[P+1+1+1]?=Z (O #[E b] u))/\
    Fr (fun k=>k=P+1+1\/k=P+1+1+1) W (((((W.setCell ⟨P+1+1,0,Y⟩ (I J (a:Nat))).setCell ⟨P+1+1,1,Y⟩ (I J (d:Nat))).setCell ⟨P+1+1,2,Y⟩ (I J (e:Nat))).setCell ⟨P+1+1,3,Y⟩ (I J (f:Nat))).setCell ⟨P+1+1+1,0,Y⟩ (E b)):=by
  have t1:=heap_setCell_same W (P+1+1) 0 _ _ (I J (a:Nat)) i;have l:=heap_setCell_same _ (P+1+1) 1 _ _ (I J (d:Nat)) t1;have m:=heap_setCell_same _ (P+1+1) 2 _ _ (I J (e:Nat)) l;have n:=heap_setCell_same _ (P+1+1) 3 _ _ (I J (f:Nat)) m
  have g:Fr (fun k=>k=P+1+1) W ((((W.setCell ⟨P+1+1,0,Y⟩ (I J (a:Nat))).setCell ⟨P+1+1,1,Y⟩ (I J (d:Nat))).setCell ⟨P+1+1,2,Y⟩ (I J (e:Nat))).setCell ⟨P+1+1,3,Y⟩ (I J (f:Nat))):=
    ((((Fr.refl (fun k=>k=P+1+1) W).setCell (p:=⟨P+1+1,0,Y⟩) (.inl rfl) _).setCell (p:=⟨P+1+1,1,Y⟩) (.inl rfl) _).setCell (p:=⟨P+1+1,2,Y⟩) (.inl rfl) _).setCell (p:=⟨P+1+1,3,Y⟩) (.inl rfl) _
  have g3:=g.whole j (by show¬P+1+1+1=P+1+1;omega);refine⟨?_,heap_setCell_same _ (P+1+1+1) 0 _ _ (E b) g3,(g.mono (fun k h=>.inl h)).setCell (p:=⟨P+1+1+1,0,Y⟩) (.inl (.inr rfl)) _⟩;exact((Fr.refl (fun k=>k=P+1+1+1) _).setCell (p:=⟨P+1+1+1,0,Y⟩) (.inl rfl) _).whole n (by show¬P+1+1=P+1+1+1;omega)
theorem DD {n w w2 W S P}{y:Ry×Nat}{b v d f g i a}(x:P+1+1+1<w2.heap.size)(c:F0 w w2)(j:∀k,S k->w.heap.size<=k)(l:Fr S w2 W)(m:W.heap[w2.heap.size]?=Z (.deferred (Z [])))(o:W.heap[P+1+1]?=Z (O #[I J (y.1.p0:Nat),I J (y.1.p1:Nat),I J (y.1.p2:Nat),I J (y.1.p3:Nat)] 139))(p:W.heap[P+1+1+1]?=Z (O #[E b] 4))(q:v=.tuple #[KE y.1,E b]):
  LeavesInM Fence.wide n X Tryz.f67 (d::f::g::i::L (Z ⟨P+1+1,0,Y⟩)::L (Z ⟨P+1+1+1,0,Y⟩)::a).toArray (fun e w'=>e=z7 v/\F0 w w') [{target:=.collected w2.heap.size,args:=#[]}] .returning W:=by
 refine WZ [w2.heap.size] W (by simp) (fun D h=>by rw[z6.1 h];exact m) ?_;have g2:(W.putObj w2.heap.size (.deferred Y)).heap[P+1+1]?=_:=(q7 (by omega)).trans o;have g3:(W.putObj w2.heap.size (.deferred Y)).heap[P+1+1+1]?=_:=(q7 (by omega)).trans p;have r:=Zc g2 0;have c1:=Zc g2 1;have s:=Zc g2 2;have t:=Zc g2 3;have u:=Zc g3 0;refine⟨.tuple #[KE y.1,E b],?_,by rw[q],?_⟩
 ·show(results _ _).run _ (W.putObj w2.heap.size (.deferred Y))=_
  simp[results,Tryz.results67,go_sem,r,c1,s,t,u,KE];rfl
 exact c.monoNew (l.mono (T:=fun k=>S k\/k=w2.heap.size) (fun _ h=>.inl h)|>.trans (Qq (.inr rfl) _)) (fun k h=>.inr (h.elim (j k) (fun e=>by have:=c.size;omega)))
def vQ (o:Option (Ry×Nat)):j0:=match o with
 |some y=>.tuple #[KE y.1,E true]
 |none=>.tuple #[KE ⟨0,0,0,0⟩,E false]
theorem sg (w a b c d):∃W P,(((w.alloc a).alloc b).alloc c).alloc d=W/\w.heap.size=P/\G (F0 w W)/\G (W.heap.size=P+4)/\G (W.heap[P]?=Z a)/\G (W.heap[P+1]?=Z b)/\G (W.heap[P+1+1]?=Z c)/\G (W.heap[P+1+1+1]?=Z d):=by
 obtain⟨f,g,h,i⟩:=B7 w a b c;obtain⟨e,j⟩:=Lp (((w.alloc a).alloc b).alloc c) d;refine⟨_,_,rfl,rfl,f.trans e,?_,e.whole g,e.whole h,e.whole i,?_⟩
 ·show _=_;simp
 show _=_;simpa using j
set_option maxRecDepth 100000 in
theorem EC (w r q nr ma mc ca cc pa pc e0 j0 f0 k0 l0 m0)(h1:Tc nr r/\Td r)(h2:Tc nr q/\Td q)(i1:Zu w ma r.mcc)(i2:Zu w ca r.cur)(i3:Zu w e0 q.mcc)(i4:Zu w f0 q.cur):
    y8 X 67 #[q5 (yA r ma mc ca cc pa pc),q5 (yA q e0 j0 f0 k0 l0 m0)] w fun e w'=>e=z7 (vQ (Re (Ua r) (Ua q)))/\F0 w w':=by
  obtain⟨w0,P,V0,hP,D,v0,A0,B0,C0,D0⟩:=sg w (O (yA r ma mc ca cc pa pc) 120) (O (yA q e0 j0 f0 k0 l0 m0) 120) (O #[I J 0,I J 0,I J 0,I J 0] 139) (O #[E false] 4);have E0:=Za (fun W (d:F0 w0 W)=>Ru W r nr ma mc ca cc pa pc h1.1 h1.2 (i1.fr (D.o.trans d)) (i2.fr (D.o.trans d)));have G0:=Za (fun W (d:F0 w0 W)=>Ru W q nr e0 j0 f0 k0 l0 m0 h2.1 h2.2 (i3.fr (D.o.trans d)) (i4.fr (D.o.trans d)));have N:=Za (fun W (d:F0 w0 W)=>And.intro (d.whole A0.o) (d.whole B0.o));have H0:G (∀i,(Ua r).at i≠[]):=Dy _ _ _ _ _ _ _ _
  have I0:G (∀i s,s∈(Ua q).at i->s.1<=10000000000/\s.2<=10000000000):=fun i s hs=>(Qt h2.1 h2.2 i s hs).2
  have J0:=Za hP;clear h1 h2 i1 i2 i3 i4;generalize Ua r=A at*;generalize Ua q=A2 at*;refine(callsIn_wide (n:=5)).1 ?_;refine callsIn_of_wp_marks Tryz.func67 rfl trivial ?_ rfl;simp only[Tryz.ntmps67,List.size_toArray,List.length_cons,List.length_nil,Nat.reduceAdd,Nat.reduceSub,Array.replicate_succ,Array.replicate_zero,List.push_toArray,List.append_toArray,List.nil_append,List.cons_append];refine(wpIn_wide (n:=5)).2 (zD ?_);go_upto_region 1 with fail;clear V0 hP
  go_cut [13]from 8 to 13 (fun v wx=>∃(B:Nat)(x0 x1 x2 x3:GU)(a:Option Addr)(es:List Ta),v=.func (.func 212) #[] #[L (Z ⟨B,0,Y⟩),L (Z ⟨B+1+1,0,Y⟩),L (Z ⟨B+1,0,Y⟩)]/\G (uw w0 A A2 B x0 x1 x2 x3 a 1 es wx))
  case first=>
    have u:G (F0 w0 w0.drew):=Zt.drew;refine wp_region_held_drew (S:=fun W=>W.heap[P]?=Z (O #[U r.name,I J r.rank,I J r.digits,I J r.lo,I J r.hi,V ma r.mcc.length mc,E r.am.isSome,I J (r.am.getD (0,0)).1,I J (r.am.getD (0,0)).2,V ca r.cur.length cc,E r.decline,E r.cheapest,V pa r.routes.length pc,I J r.ahead] 120)/\W.heap[P+1]?=Z (O #[U q.name,I J q.rank,I J q.digits,I J q.lo,I J q.hi,V e0 q.mcc.length j0,E q.am.isSome,I J (q.am.getD (0,0)).1,I J (q.am.getD (0,0)).2,V f0 q.cur.length k0,E q.decline,E q.cheapest,V l0 q.routes.length m0,I J q.ahead] 120)) (by kernel_rfl) (N.o _ u.o) (fun hH=>?_);refine UP 0 (v:=?v0z) ?y0z hH ?r0z
    case y0z=>
      rintro w ⟨s0,s1⟩;obtain⟨c0,c1,c2,c3,c4,c5,c6,c7,c8,c9,W0,X0,Y0,Z0⟩:=ZY s0;obtain⟨d0,d1,d2,d3,d4,d5,d6,d7,d8,d9,a1,f1,k1,l1⟩:=ZY s1;clear s0 s1;go_simp
      with_reducible rfl
    try go_frame
    refine UP 2 (v:=?v2z) ?y2z hH ?r2z
    case y2z=>
      rintro w ⟨s0,s1⟩;obtain⟨c0,c1,c2,c3,c4,c5,c6,c7,c8,c9,W0,X0,Y0,Z0⟩:=ZY s0;obtain⟨d0,d1,d2,d3,d4,d5,d6,d7,d8,d9,a1,f1,k1,l1⟩:=ZY s1;clear s0 s1;go_simp
      with_reducible rfl
    try go_frame
    refine Xz [1] ?_;refine Zb rfl (fun K2 Q=>?_) F
    try rw[if_pos (by rfl)]
    go_simp;refine(E0.o _ u.o).mono ?_;rintro e wa ⟨⟨x0,x1,x2,x3,rfl,g0,h0⟩,d⟩;have m1:=Za g0;have n1:=Za h0;have n0:=Za (u.o.trans d);clear g0 h0 d;refine Q.out _ _ (N.o _ n0.o) (fun hH=>?_);clear Q K2
    try go_frame
    refine Xz [3] ?_;refine Zb rfl (fun K2 Q=>?_) F
    try rw[if_pos (by rfl)]
    go_simp;refine(G0.o _ n0.o).mono ?_;rintro e wb ⟨⟨y0,y1,y2,y3,rfl,g0,h0⟩,d⟩;have K0:=Za (n0.o.trans d);have HP:=Za (Gp.mk1 (w0:=w0) (m1.o.fr d) (n1.o.more u.o.size d.size) g0 (h0.more n0.o.size (H _)) K0.o);clear g0 h0 d;refine Q.out _ _ (N.o _ K0.o) (fun hH=>?_);clear Q K2
    try go_frame
    refine Xz [4] ?_;refine Zb rfl (fun K2 Q=>?_) F
    try rw[if_pos (by rfl)]
    go_simp;refine Q.out _ _ (N.o _ HP.o.fr) (fun hH=>?_);clear Q K2
    try go_frame
    refine Xz [5] ?_;refine Zb rfl (fun K2 Q=>?_) F
    try rw[if_pos (by rfl)]
    go_simp;refine HP.o.pays.mono ?_;rintro e wd ⟨B,rfl,L0⟩;have i0:=Za L0;clear L0;refine Q.out _ _ (N.o _ i0.o.fr) (fun hH=>?_);clear Q K2
    try go_frame
    refine wpAnyH_done (by kernel_rfl) ?_ _;go_wp2_with fail;go_meet;exact⟨B,_,_,_,_,_,_,rfl,i0⟩
  obtain⟨B,x0,x1,x2,x3,a,es,rfl,i0⟩:=hcut;generalize wc=w2 at*;go_wp2_with fail;generalize j8 (yA r _ _ _ _ _ _)=o1;generalize j8 (yA q _ _ _ _ _ _)=q1;have c:=i0.o;have e1:=J0.o;have e2:=v0.o;have e3:=c.lo;have e5:=c.sz;have o2:=c.fr.whole C0.o;have o3:=c.fr.whole D0.o
  obtain⟨S,o0⟩:∃S:Nat->Prop,S=fun k=>k=P+1+1\/k=P+1+1+1:=⟨_,rfl⟩
  have M0:S (P+1+1):=by rw[o0];exact .inl rfl
  have N0:S (P+1+1+1):=by rw[o0];exact .inr rfl
  have q0:∀k,S k->k<P+4/\P<=k:=fun k hk=>by rw[o0]at hk;rcases hk with h|h<;>omega
  have l:Hs X 212 #[L (Z ⟨B,0,Y⟩),L (Z ⟨B+1+1,0,Y⟩),L (Z ⟨B+1,0,Y⟩)] C9 (Tq S w2.heap.size) (XY A 4 es) w2:=by
    have nR:∀i,w0.heap.size<=i->i<B+3->¬Tq S w2.heap.size i:=by
      rintro i g1 g2 (h|h|h)
      · have:=q0 i h;omega
      · omega
      omega
    have r1:es.length=1:=by have:=congrArg q2 c.em;simpa using this
    refine PW A x0 x1 x2 x3 (fun i _=>H0.o i) 4 (H _) B (B+1+1) (B+1) 1 _ a es w2 (by omega) (fun e he i s _ hs=>?_) (fun W d=>?_)
    · have:e.A∈es.map Ta.A:=j1 he
      rw[c.em,z6]at this;rw[this]at hs;exact I0.o i s hs
    have ba:=d.whole c.b1 (nR _ (by omega) (by omega))
    refine⟨bC (d.whole c.b0 (nR _ (by omega) (by omega))) 0 _ rfl,?_,Zc ba 0,Zc ba 1,Zc ba 2,Zc ba 3,?_,?_⟩
    · rw[r1];exact bC (d.whole c.b2 (nR _ (by omega) (by omega))) 0 _ rfl
    · exact c.ar.frS d (fun x hx g o e O0=>nR g (c.nw x hx g o e).1 (by omega))
    refine c.ars.frS d (fun g o e O0=>nR g (c.an g o e).1 (by omega)) (fun e he=>?_)
    obtain⟨k,hk⟩:=List.mem_iff_getElem?.1 he;exact PR.frS (c.ars k e hk).1 d (fun x hx g o e' O0=>nR g (c.en e he x hx g o e').1 (by omega))
  obtain⟨xs,t0⟩:∃xs,XY A 4 es=xs:=⟨_,rfl⟩;rw[t0]at l
  have P0:G (Re A A2=xs.find? fun y=>decide (0<y.2)):=by
    show _=_
    unfold Re;rw[<-t0,KP (A:=A) 4 (es:=es) (es':=[⟨A2,⟨Y,0⟩,⟨Y,0⟩,⟨Y,0⟩,⟨Y,0⟩⟩]) c.em]
  have p:G (P+1+1+1<w2.heap.size):=by show _<_;omega
  have Q0:=Za (D.o.trans c.fr)
  have R0:G (∀k,S k->w.heap.size<=k):=fun k hk=>by have:=q0 k hk;omega
  have S0:=Za M0;have T0:=Za N0
  have r0:∀k,S k->k<w2.heap.size:=fun k hk=>by have:=q0 k hk;omega
  clear o0 M0 N0 q0 t0 e1 e2 e3 e5 c i0 I0 H0 N E0 G0 A0 B0 C0 D0 D v0 J0;refine(wpIn_wide (n:=2)).1 ?_;refine PV (n:=0) (S:=S) rfl (enters_of Tryz.func212 (by kernel_rfl) rfl) l Zt (fun _=>rfl) r0
    (fun pre W=>(∀y,y∈pre->y.2=0)/\(W.heap[P+1+1]?=Z (O #[I J 0,I J 0,I J 0,I J 0] 139)/\(W.heap[P+1+1+1]?=Z (O #[E false] 4)/\Fr S w2 W)))
    (fun co pre W=>∃j y,(co=.ret/\pre=j++[y]/\(∀z,z∈j->z.2=0)/\0<y.2)/\(W.heap[P+1+1]?=Z (O #[I J (y.1.p0:Nat),I J (y.1.p1:Nat),I J (y.1.p2:Nat),I J (y.1.p3:Nat)] 139)/\(W.heap[P+1+1+1]?=Z (O #[E true] 4)/\Fr S w2 W)))
    (YC.and (YC.pure (fun(pre:List (Ry×Nat))=>∀y,y∈pre->y.2=0)) (YC.and (YC.block (by have:=p.o;omega)) (YC.and (YC.block p.o) (YC.fr (H _)))))
    (fun co s W W' hs d=>by
      obtain⟨j,y,g1,g2,g3,g4⟩:=hs
      exact⟨j,y,g1,YC.block (β:=Unit) (M:=w2.heap.size) (by have:=p.o;omega) () W W' g2 d,YC.block (β:=Unit) (M:=w2.heap.size) p.o () W W' g3 d,YC.fr (β:=Unit) (M:=w2.heap.size) (H _) () W W' g4 d⟩)
    ⟨by simp,o2,o3,Zt⟩
    (fun x m a' W=>∃Bx,m<=Bx/\W.heap[Bx]?=Z (O #[I J (x.1.p0:Nat),I J (x.1.p1:Nat),I J (x.1.p2:Nat),I J (x.1.p3:Nat)] 139)/\a'={tmps:=#[o1,q1,L (Z ⟨P,0,Y⟩),L (Z ⟨P+1,0,Y⟩),L (Z ⟨P+1+1,0,Y⟩),L (Z ⟨P+1+1+1,0,Y⟩),L (Z ⟨Bx,0,Y⟩),I J (x.2:Nat),u8,u9,u10,u11,u12,.func (.func 212) #[] #[L (Z ⟨B,0,Y⟩),L (Z ⟨B+1+1,0,Y⟩),L (Z ⟨B+1,0,Y⟩)],KE x.1,I J (x.2:Nat),undef,undef,undef,undef],defers:=[]})
    (fun x m a' s A B row hs hg hr=>by obtain⟨Bx,g1,g2,g3⟩:=hs;exact⟨Bx,g1,RW (C:=w2.heap.size) () A B row g2 hg hr,g3⟩) ?assign ?body ?done ?_
  case assign=>
    rintro pre x W K hp ⟨g1,g2,g3,g4⟩ Q;unfold C9 KE
    gi_wp2
    have f:=(Lp W (O #[I J (x.1.p0:Nat),I J (x.1.p1:Nat),I J (x.1.p2:Nat),I J (x.1.p3:Nat)] 139)).1;exact Q _ _ (f.mono (fun _ h=>h.elim)) ⟨g1,f.whole g2,f.whole g3,g4.trans (f.mono (fun _ h=>h.elim))⟩ ⟨W.heap.size,H _,aN W _,rfl⟩
  case body=>
    rintro pre x m a' W hp hm ⟨g1,g2,g3,g4⟩ ⟨Bx,t1,hb,rfl⟩;have HI:=Za g1;have HF:=Za g4;have R:=Za g2;have a0:=Za g3;have v1:=Za hb;clear l o2 o3 r0 g1 g4;by_cases hx:0<x.2
    · have hz:(0:Int)<(x.2:Int):=by omega
      have HX:=Za hx;have y0:=Zc hb 0;have y1:=Zc hb 1;have y2:=Zc hb 2;have y3:=Zc hb 3;have c0:=Zc g2 0;have c1:=Zc g2 1;have c2:=Zc g2 2;have c3:=Zc g2 3;have z0:=bF g2 0;have z1:=bF g2 1;have z2:=bF g2 2;have z3:=bF g2 3;have d0:=Zc g3 0;have d1:=bF g3 0;clear hb g2 g3
      gi_wp2
      obtain⟨k2,k3,k4⟩:=ux (b:=true) R.o a0.o x.1.p0 x.1.p1 x.1.p2 x.1.p3;have k5:=k4.mono (T:=S) (by rintro k (rfl|rfl);exact S0.o;exact T0.o);exact⟨k5.mono (fun k h=>.inl h),pre,x,⟨rfl,rfl,HI.o,HX.o⟩,k2,k3,HF.o.trans k5⟩
    have hz:¬(0:Int)<(x.2:Int):=by omega
    have HX:=Za hx;clear hx hb g2 g3
    have HK:G (∀y,y∈pre++[x]->y.2=0):=fun y hy=>by
      rcases y9.1 hy with hy|hy
      · exact HI.o y hy
      rw[z6.1 hy];have:=HX.o;omega
    gi_wp2
    exact⟨Zt,fun a b h=>HK.o (a,b) h,R.o,a0.o,HF.o⟩
  case done=>
    rintro W ⟨g1,g2,g3,g4⟩ hD;have HI:=Za g1;have HF:=Za g4;have R:=Za g2;have a0:=Za g3;have HD:=Za hD;have c0:=Zc g2 0;have c1:=Zc g2 1;have c2:=Zc g2 2;have c3:=Zc g2 3;have z0:=bF g2 0;have z1:=bF g2 1;have z2:=bF g2 2;have z3:=bF g2 3;have d0:=Zc g3 0;have d1:=bF g3 0;clear g1 g2 g3 g4 hD l o2 o3 r0;go_wp2_with fail;obtain⟨k2,k3,k4⟩:=ux (b:=false) R.o a0.o 0 0 0 0;have k5:=k4.mono (T:=S) (by rintro k (rfl|rfl);exact S0.o;exact T0.o);refine DD (S:=S) (y:=(⟨0,0,0,0⟩,0)) p.o Q0.o R0.o (HF.o.trans k5) (k4.whole HD.o (by rintro(h|h)<;>(have:=p.o;omega))) k2 k3 ?_
    rw[P0.o,show(xs.find? fun y=>decide (0<y.2))=Y from by
      rw[q3];intro y hy
      simp[HI.o y hy]]
    rfl
  rintro co pre W hp ⟨j,y,⟨rfl,rfl,g1,g2⟩,g3,g4,g5⟩ hD;have HI:=Za (show(∀z,z∈j->z.2=0)/\0<y.2 from⟨g1,g2⟩);have HF:=Za g5;have R:=Za g3;have a0:=Za g4;have HD:=Za hD;have HP:=Za hp;clear g1 g2 g3 g4 g5 hD l o2 o3 r0 hp
  gi_wp2
  refine DD (S:=S) (y:=y) p.o Q0.o R0.o HF.o HD.o R.o a0.o ?_
  rw[P0.o,show(xs.find? fun y=>decide (0<y.2))=Z y from by
    obtain⟨t,ht⟩:=HP.o;rw[<-ht,j2,j2]
    have e:(j.find? fun y=>decide (0<y.2))=Y:=by
      rw[q3];intro z hz;simp[HI.o.1 z hz]
    rw[e]
    simp[HI.o.2]]
  rfl
def TC (y:Ry):WC:=⟨ZQ (TP y.p0 6),(y.p1:Nat),(y.p2:Nat),(y.p3:Nat)⟩
theorem DE:∀(k u:Nat),u<10^(k+1)->Lib.nDigits u<=k+1
 |0,u,h=>by rw[Lib.nDigits_small (by simpa using h)];exact H _
 |k+1,u,h=>by
  by_cases a:u<10
  ·rw[Lib.nDigits_small a];omega
  rw[Lib.nDigits_big a]
  have:u/10<10^(k+1):=by rw[Nat.div_lt_iff_lt_mul (by decide)];rw[Nat.pow_succ]at h;exact h
  have:=DE k (u/10) this;omega
theorem tS {n}(h:n<1000000):(Ya n).length<=6:=by
 unfold Ya;rw[Lib.decDigits_length];exact DE 5 n h
theorem zT (y w)(A:QW w)(B:y.p0<1000000):
  y8 X 115 #[KE y] w fun e w'=>e=z7 (UI (TC y))/\F0 w w':=by
 obtain⟨w0,c⟩:∃w0,(w.alloc (O #[I J (y.p0:Nat),I J (y.p1:Nat),I J (y.p2:Nat),I J (y.p3:Nat)] 139)).alloc (O #[U ⟨#[]⟩,I J 0,I J 0,I J 0] 35)=w0:=⟨_,rfl⟩;obtain⟨P,u⟩:∃P,w.heap.size=P:=⟨_,rfl⟩
 have h:G (F0 w w0):=by show Fr _ _ _;rw[<-c];exact(Zt.alloc _).alloc _
 have i:G (w0.heap[P]?=Z (O #[I J (y.p0:Nat),I J (y.p1:Nat),I J (y.p2:Nat),I J (y.p3:Nat)] 139)):=by
  show _=_
  rw[<-c,<-u];exact((Fr.refl (fun _=>False) _).alloc _).whole (aN w _)
 have l:G (w0.heap[P+1]?=Z (O #[U ⟨#[]⟩,I J 0,I J 0,I J 0] 35)):=by
  show _=_
  rw[<-c,<-u];have:=aN (w.alloc (O #[I J (y.p0:Nat),I J (y.p1:Nat),I J (y.p2:Nat),I J (y.p3:Nat)] 139)) (O #[U ⟨#[]⟩,I J 0,I J 0,I J 0] 35)
  simpa using this
 have C:=Za (QX y.p0 w0 (by omega) (A.fr h.o));have D:=Za (tS B);have W:=Zc i.o 0
 have b:G (w.heap.size<=P+1):=by show _<=_;omega
 unfold KE;go_enter Tryz.func115,Tryz.ntmps115
 go_wp2_with (go_at_call 106;refine C.o.mono ?_)
 rintro e x ⟨rfl,d⟩;have m:=Za d;have f:=Za (d.whole i.o);have a:=Za (d.whole l.o);go_wp2_with fail
 go_loopg [3] 6 (fun E F H=>∃k,k+(Ya y.p0).length<=6/\E=6-k/\F=U (ZQ (q9 k 48++Ya y.p0))/\H=x)
 case atStart=>exact⟨0,by have:=D.o;omega,rfl,rfl,rfl⟩
 obtain⟨k,hk,rfl,rfl,g⟩:=hrel;replace g:=g.symm;subst g;obtain⟨s,n⟩:∃s,ZQ (q9 k 48++Ya y.p0)=s:=⟨_,rfl⟩
 have K:s.size=k+(Ya y.p0).length:=by rw[<-n,XK];simp
 have z:=Za n;rw[n];by_cases L:k+(Ya y.p0).length<6
 ·have q:(s.size:Int)<6:=by omega
  have r:G ((⟨#[48]⟩:ByteArray)++s=ZQ (q9 (k+1) 48++Ya y.p0)):=by
   show _=_
   rw[<-z.o];apply ByteArray.ext;apply Array.ext';simp[ZQ,List.replicate_succ]
  go_wp2_with fail;go_roundg (6-(k+1))
  case measure=>omega
  exact⟨k+1,by omega,rfl,by rw[<-r.o],rfl⟩
 have q:¬(s.size:Int)<6:=by omega
 have M:G (s=(TC y).pan):=by
  show s=ZQ (TP y.p0 6)
  rw[<-z.o];unfold TP;rw[show 6-(Ya y.p0).length=k from by omega]
 have a1:=Zc f.o 1;have a2:=Zc f.o 2;have a3:=Zc f.o 3;have r0:=Zc a.o 0;have r1:=Zc a.o 1;have r2:=Zc a.o 2;have r3:=Zc a.o 3;have z0:=bF a.o 0;have z1:=bF a.o 1;have z2:=bF a.o 2;have z3:=bF a.o 3;go_wp2_with fail;have t1:=heap_setCell_same x (P+1) 0 _ _ (U s) a.o;have N:=heap_setCell_same _ (P+1) 1 _ _ (I J (y.p1:Nat)) t1;have Q:=heap_setCell_same _ (P+1) 2 _ _ (I J (y.p2:Nat)) N;have j:=heap_setCell_same _ (P+1) 3 _ _ (I J (y.p3:Nat)) Q;have R:=Zc j 0;have S:=Zc j 1;have T:=Zc j 2;have V:=Zc j 3;have t:=((((h.o.trans m.o).setCell (p:=⟨P+1,0,Y⟩) (Or.inr b.o) (U s)).setCell (p:=⟨P+1,1,Y⟩) (Or.inr b.o) (I J (y.p1:Nat))).setCell (p:=⟨P+1,2,Y⟩) (Or.inr b.o) (I J (y.p2:Nat))).setCell (p:=⟨P+1,3,Y⟩) (Or.inr b.o) (I J (y.p3:Nat));refine bodyPost_ret (v:=q5 #[U s,I J (y.p1:Nat),I J (y.p2:Nat),I J (y.p3:Nat)]) (by simp[results,Tryz.results115,go_sem,R,S,T,V]) rfl ⟨?_,t⟩;unfold UI;rw[<-M.o];rfl
def uN (a n2:ByteArray)(p:WC):j0:=q5 #[U a,U n2,U p.pan,I J p.mcc,I J p.am,I J p.cur]
set_option maxRecDepth 100000 in
theorem Gq (w r q y ma mc ca cc pa pc x z A B C D)(h1:r.name.size<=3000)(h2:q.name.size<=3000)(hy:y.p0<1000000)(ht:QW w):
  y8 X 68 #[q5 (yA r ma mc ca cc pa pc),q5 (yA q x z A B C D),KE y] w fun e w'=>e=z7 (uN r.name q.name (TC y))/\F0 w w':=by
 obtain⟨w0,P,Q,hP,E,_,R,V,a0,b0⟩:=sg w (O (yA r ma mc ca cc pa pc) 120) (O (yA q x z A B C D) 120) (O #[I J (y.p0:Nat),I J (y.p1:Nat),I J (y.p2:Nat),I J (y.p3:Nat)] 139) (O #[U ⟨#[]⟩,U ⟨#[]⟩,U ⟨#[]⟩,I J 0,I J 0,I J 0] 44)
 have g:G (∀W,Fr (fun k=>k=P+1+1+1) w0 W->W.cell? ⟨P,0,Y⟩=Z (U r.name)/\W.cell? ⟨P+1,0,Y⟩=Z (U q.name)/\W.heap[P+1+1]?=Z (O #[I J (y.p0:Nat),I J (y.p1:Nat),I J (y.p2:Nat),I J (y.p3:Nat)] 139)):=fun W c=>⟨bC (c.whole R.o (by show¬P=P+1+1+1;omega)) 0 _ rfl,bC (c.whole V.o (by show¬P+1=P+1+1+1;omega)) 0 _ rfl,c.whole a0.o (by show¬P+1+1=P+1+1+1;omega)⟩
 have d0:G (∀W,y8 X 96 #[U r.name] W fun e w'=>e=z7 (U r.name)/\F0 W w'):=fun W=>Vz r.name W h1
 have e0:G (∀W,y8 X 96 #[U q.name] W fun e w'=>e=z7 (U q.name)/\F0 W w'):=fun W=>Vz q.name W h2
 have f0:G (∀W,F0 w0 W->y8 X 115 #[q5 #[I J (y.p0:Nat),I J (y.p1:Nat),I J (y.p2:Nat),I J (y.p3:Nat)]] W fun e w'=>e=z7 (q5 #[U (TC y).pan,I J (TC y).mcc,I J (TC y).am,I J (TC y).cur])/\F0 W w'):=fun W c=>zT y W (ht.fr (E.o.trans c)) hy
 have g0:G (w.heap.size<=P+1+1+1):=by show _<=_;omega
 generalize TC y=d at*;unfold KE;clear h1 h2 hy ht;go_enter Tryz.func68,Tryz.ntmps68;go_upto_region 1 with fail;clear Q hP;have l:G (F0 w0 w0.drew):=Zt.drew;refine wp_region_held_drew (S:=fun W=>W.cell? ⟨P,0,Y⟩=Z (U r.name)/\W.cell? ⟨P+1,0,Y⟩=Z (U q.name)/\W.heap[P+1+1]?=Z (O #[I J (y.p0:Nat),I J (y.p1:Nat),I J (y.p2:Nat),I J (y.p3:Nat)] 139)) (by kernel_rfl) (g.o _ (l.o.mono (fun _ h=>h.elim))) (fun j=>?_);refine UP 0 (v:=?v0z) ?y0z j ?r0z
 case y0z=>
  rintro w ⟨m,n,a⟩;have H:=Zc a 0;have c1:=Zc a 1;have K:=Zc a 2;have L:=Zc a 3;clear a;go_simp
  with_reducible rfl
 try go_frame
 refine UP 1 (v:=?v1z) ?y1z j ?r1z
 case y1z=>
  rintro w ⟨m,n,a⟩;have H:=Zc a 0;have c1:=Zc a 1;have K:=Zc a 2;have L:=Zc a 3;clear a;go_simp
  with_reducible rfl
 try go_frame
 refine UP 3 (v:=?v3z) ?y3z j ?r3z
 case y3z=>
  rintro w ⟨m,n,a⟩;have H:=Zc a 0;have c1:=Zc a 1;have K:=Zc a 2;have L:=Zc a 3;clear a;go_simp
  with_reducible rfl
 try go_frame
 refine UP 4 (v:=?v4z) ?y4z j ?r4z
 case y4z=>
  rintro w ⟨m,n,a⟩;have H:=Zc a 0;have c1:=Zc a 1;have K:=Zc a 2;have L:=Zc a 3;clear a;go_simp
  with_reducible rfl
 try go_frame
 refine UP 6 (v:=?v6z) ?y6z j ?r6z
 case y6z=>
  rintro w ⟨m,n,a⟩;have H:=Zc a 0;have c1:=Zc a 1;have K:=Zc a 2;have L:=Zc a 3;clear a;go_simp
  with_reducible rfl
 try go_frame
 refine Xz [2] ?_;refine Zb rfl (fun s i=>?_) F
 try rw[if_pos (by rfl)]
 go_simp;refine(d0.o _).mono ?_;rintro e wa ⟨rfl,c⟩;have M:=Za (l.o.trans c);clear c;refine i.out _ _ (g.o _ (M.o.mono (fun _ h=>h.elim))) (fun j=>?_);clear i s
 try go_frame
 refine Xz [5] ?_;refine Zb rfl (fun s i=>?_) F
 try rw[if_pos (by rfl)]
 go_simp;refine(e0.o _).mono ?_;rintro e wb ⟨rfl,c⟩;have t:=Za (M.o.trans c);clear c;refine i.out _ _ (g.o _ (t.o.mono (fun _ h=>h.elim))) (fun j=>?_);clear i s
 try go_frame
 refine Xz [7] ?_;refine Zb rfl (fun s i=>?_) F
 try rw[if_pos (by rfl)]
 go_simp;refine(f0.o _ t.o).mono ?_;rintro e wd ⟨rfl,c⟩;have u:=Za (t.o.trans c);clear c;refine i.out _ _ (g.o _ (u.o.mono (fun _ h=>h.elim))) (fun j=>?_);clear i s
 try go_frame
 refine UP 8 (v:=?v8z) ?y8z j ?r8z
 case y8z=>
  rintro w ⟨m,n,a⟩;have H:=Zc a 0;have c1:=Zc a 1;have K:=Zc a 2;have L:=Zc a 3;clear a;go_simp
  with_reducible rfl
 try go_frame
 have b:=Za (u.o.whole b0.o);have r0:=Zc b.o 0;have r1:=Zc b.o 1;have r2:=Zc b.o 2;have r3:=Zc b.o 3;have r4:=Zc b.o 4;have r5:=Zc b.o 5;have z0:=bF b.o 0;have z1:=bF b.o 1;have z2:=bF b.o 2;have z3:=bF b.o 3;have z4:=bF b.o 4;have z5:=bF b.o 5;refine Xz [9] ?_;refine Zb rfl (fun s i=>?_) F
 try rw[if_pos (by rfl)]
 go_simp;have t0:=heap_setCell_same wd (P+1+1+1) 0 _ _ (U r.name) b.o;have t1:=heap_setCell_same _ (P+1+1+1) 1 _ _ (U q.name) t0;have t2:=heap_setCell_same _ (P+1+1+1) 2 _ _ (U d.pan) t1;have t3:=heap_setCell_same _ (P+1+1+1) 3 _ _ (I J d.mcc) t2;have t4:=heap_setCell_same _ (P+1+1+1) 4 _ _ (I J d.am) t3;have t5:=heap_setCell_same _ (P+1+1+1) 5 _ _ (I J d.cur) t4;have N:=Za (((((((u.o.mono (S:=fun _=>False) (T:=fun k=>k=P+1+1+1) (fun _ h=>h.elim)).setCell (p:=⟨P+1+1+1,0,Y⟩) (.inl rfl) (U r.name)).setCell (p:=⟨P+1+1+1,1,Y⟩) (.inl rfl) (U q.name)).setCell (p:=⟨P+1+1+1,2,Y⟩) (.inl rfl) (U d.pan)).setCell (p:=⟨P+1+1+1,3,Y⟩) (.inl rfl) (I J d.mcc)).setCell (p:=⟨P+1+1+1,4,Y⟩) (.inl rfl) (I J d.am)).setCell (p:=⟨P+1+1+1,5,Y⟩) (.inl rfl) (I J d.cur));have f:=Za t5;clear t0 t1 t2 t3 t4 t5 r0 r1 r2 r3 r4 r5 z0 z1 z2 z3 z4 z5;refine i.out _ _ (g.o _ N.o) (fun j=>?_);clear i s
 try go_frame
 generalize((((((wd.setCell ⟨P+1+1+1,0,Y⟩ (U r.name)).setCell ⟨P+1+1+1,1,Y⟩ (U q.name)).setCell ⟨P+1+1+1,2,Y⟩ (U d.pan)).setCell ⟨P+1+1+1,3,Y⟩ (I J d.mcc)).setCell ⟨P+1+1+1,4,Y⟩ (I J d.am)).setCell ⟨P+1+1+1,5,Y⟩ (I J d.cur))=we at*;refine wpAnyH_done (by kernel_rfl) ?_ _;go_wp2_with fail;have m:=Zc f.o 0;have n:=Zc f.o 1;have a:=Zc f.o 2;have s3:=Zc f.o 3;have s4:=Zc f.o 4;have s5:=Zc f.o 5;refine bodyPost_ret (v:=uN r.name q.name d) (by simp[results,Tryz.results68,go_sem,m,n,a,s3,s4,s5,uN]) rfl ⟨rfl,?_⟩;exact E.o.monoNew N.o (fun k h=>.inr (by have:=g0.o;omega))
abbrev xE:=ByteArray×ByteArray×WC
def GV (a:List Ze)(i j:Nat):List xE:=match a[i]?,a[j]? with
 |some r,Z q=>(match Re (Ua r) (Ua q)with|some y=>[(r.name,q.name,TC y.1)]|none=>[])
 |_,_=>[]
def T3 (a:List Ze)(i:Nat):Nat->List xE
 |0=>[]
 |k+1=>T3 a i k++GV a i (i+1+k)
def T0 (a:List Ze):Nat->List xE
 |0=>[]
 |k+1=>T0 a k++T3 a k (a.length-(k+1))
def T1 (a:List Ze):List xE:=T0 a a.length
def OC (o:xE):List j0:=[U o.1,U o.2.1,U o.2.2.pan,I J o.2.2.mcc,I J o.2.2.am,I J o.2.2.cur]
def XD (l:List xE):List j0:=l.flatMap OC
theorem Gr (l o):XD (l++[o])=XD l++OC o:=by simp[XD]
theorem J0 (a:List Ze)(i:Nat):∀k,(T3 a i k).length<=k
 |0=>H _
 |k+1=>by
  have:=J0 a i k;unfold T3;rw[lA]
  have:(GV a i (i+1+k)).length<=1:=by
   unfold GV
   split
   ·split<;>simp
   simp
  omega
theorem O8 (a:List Ze):∀k,(T0 a k).length<=k*a.length
 |0=>by simp[T0]
 |k+1=>by
  have b:=O8 a k;have c:=J0 a k (a.length-(k+1));unfold T0;rw[lA,j6,j7];omega
theorem vR {n r}(h:Tc n r){A2}(b:Td r){y}(c:Re (Ua r) A2=Z y):y.1.p0<1000000:=by
 have d:=(KQ (fun i s e=>(Qt h b i s e).1) c).1
 have f:Xv (Ua r) 0 y.1.p0=true:=by
  have:(Xv (Ua r) 0 y.1.p0&&(Xv (Ua r) 1 y.1.p1&&(Xv (Ua r) 2 y.1.p2&&(Xv (Ua r) 3 y.1.p3&&true))))=true:=d;rw[Bool.and_eq_true]at this;exact this.1
 have a:YY (WN r.digits r.lo r.hi) y.1.p0=true:=by
  have:([WN r.digits r.lo r.hi].any fun s=>YY s y.1.p0)=true:=f
  simpa using this
 obtain⟨g1,g2,g3⟩:=h.bn;unfold YY WN at a;simp only[Bool.and_eq_true,decide_eq_true_eq]at a
 have g:10^r.digits*10^(6-r.digits)=1000000:=by rw[<-j5,show r.digits+(6-r.digits)=6 from by omega]
 have j:=q0 (10^(6-r.digits)) (show r.hi+1<=10^r.digits from g2);have k:0<(r.hi+1)*10^(6-r.digits):=Nat.mul_pos (by omega) (j4 (by decide));omega
theorem R5:(X.info? 44).map (fun i=>(i.zero,i.size,i.bytes))=Z (Z (q5 #[U ByteArray.empty,U ByteArray.empty,U ByteArray.empty,I J 0,I J 0,I J 0]),6,72):=by kernel_rfl
theorem xF {w:y7}{base e t b n Q v f i}(h:w.ownsRow base e b v n f)(a:w.heap[Q]?=Z (O i t))(c:e≠t):¬v.ownBlock=Z Q:=by
 intro d;rcases h.2 with⟨rfl,_⟩|⟨g,cap,j,rfl,_,k,_⟩
 ·cases d
 have:g=Q:=by simpa[j3]using d
 subst this;rw[k]at a;injection a with a;injection a with _ a _;exact c a
set_option maxRecDepth 100000 in
theorem LR (w B va c N a nr)(hB:w.cell? ⟨B,1,Y⟩=Z (V va N c))(h:vO w va a)(hN:a.length=N)(h8:N<=8)(J1:N<=c)(H0:∀r,r∈a->Tc nr r/\Td r)(ht:QW w):
  y8 X 39 #[L (Z ⟨B,0,Y⟩)] w fun e w'=>(∃v,e=z7 v/\w'.ownsRow w.heap.size 44 6 v (T1 a).length (XD (T1 a)))/\F0 w w':=by
 obtain⟨ij,I0,K0,L0,M0⟩:=info_parts R5;have HR:=Za h;have HN:=Za hN;have r0:=Za H0;have HT:=Za ht;have s0:=Za hB;go_enter Tryz.func39,Tryz.ntmps39;go_wp2_with fail
 go_loopg [3,15] N (fun m ov iv wr=>∃k,k<=N/\m=N-k/\iv=I J (k:Nat)/\G (wr.ownsRow w.heap.size 44 6 ov (T0 a k).length (XD (T0 a k)))/\G (F0 w wr))
 case atStart=>exact⟨0,by omega,rfl,rfl,oZ _ _ _ _,Zt⟩
 obtain⟨i,hi,rfl,rfl,HO,H⟩:=hrel;by_cases K1:i<N
 ·have N0:(i:Int)<(N:Int):=by omega
  have I1:(i:Int)+1<=(N:Int):=by omega
  obtain⟨r,hr⟩:∃r,a[i]?=Z r:=⟨_,gE (show i<a.length by have:=HN.o;omega)⟩;obtain⟨g,ma,mc,ca,cc,pa,pc,ea,d,h1,h2⟩:=HR.o i r hr;subst ea
  replace d:∀o v,[q4 r.name,I J r.rank,I J r.digits,I J r.lo,I J r.hi,V ma r.mcc.length mc,E r.am.isSome,I J (r.am.getD (0,0)).1,I J (r.am.getD (0,0)).2,V ca r.cur.length cc,E r.decline,E r.cheapest,V pa r.routes.length pc,I J r.ahead][o]?=Z v->wr.cell? ⟨g,i*14+o,Y⟩=Z v:=fun o v ho=>(H.o.cell (p:=⟨g,i*14+o,Y⟩) (bL w _ (d o v ho))).trans (d o v ho)
  have v0:=d 0 _ rfl;have v1:=d 1 _ rfl;have v2:=d 2 _ rfl;have v3:=d 3 _ rfl;have v4:=d 4 _ rfl;have v5:=d 5 _ rfl;have v6:=d 6 _ rfl;have v7:=d 7 _ rfl;have v8:=d 8 _ rfl;have v9:=d 9 _ rfl;have L1:=d 10 _ rfl;have M1:=d 11 _ rfl;have N1:=d 12 _ rfl;have O1:=d 13 _ rfl;rw[q6]at v0;have O0:=Za h1;have P0:=Za h2;have Q0:=Za hr;have K:=Za (r0.o r (mG hr));have bB:=(H.o.cell (p:=⟨B,1,Y⟩) (bL w _ s0.o)).trans s0.o;obtain⟨i0,t0⟩:=Vx wr (O #[U r.name,I J r.rank,I J r.digits,I J r.lo,I J r.hi,V ma r.mcc.length mc,E r.am.isSome,I J (r.am.getD (0,0)).1,I J (r.am.getD (0,0)).2,V ca r.cur.length cc,E r.decline,E r.cheapest,V pa r.routes.length pc,I J r.ahead] 120);go_upto_region 5 with fail;generalize wr.alloc _=w1 at*;obtain⟨Q,hQ⟩:∃Q,wr.heap.size=Q:=⟨_,rfl⟩;rw[hQ]at t0;rw[hQ];have b1:=(i0.o.cell (p:=⟨B,1,Y⟩) (bL wr _ bB)).trans bB;obtain⟨aa,R0⟩:∃aa:Option Addr,(if c=i+1 then Z ⟨g,0,Y⟩else Z ⟨g,(i+1)*14,Y⟩)=aa:=⟨_,rfl⟩;go_wp2_with fail;obtain⟨M,hM⟩:∃M,N-(i+1)=M:=⟨_,rfl⟩;have HM:=Za hM;have S0:=Za R0;rw[hM]
  have V0:G (w1.ownsRow w.heap.size 44 6 u3 (T0 a i++T3 a i 0).length (XD (T0 a i++T3 a i 0))):=by
   show y4 _ _ _ _ _ _ _
   rw[show T0 a i++T3 a i 0=T0 a i from by simp[T3]];exact oF HO.o i0.o
  have W0:=Za (H.o.trans i0.o)
  go_loopg [3,28] M (fun mm ov jv wx=>∃j,j<=M/\mm=M-j/\jv=I J (j:Nat)/\G (wx.ownsRow w.heap.size 44 6 ov (T0 a i++T3 a i j).length (XD (T0 a i++T3 a i j)))/\G (wx.heap[Q]?=Z (O #[U r.name,I J r.rank,I J r.digits,I J r.lo,I J r.hi,V ma r.mcc.length mc,E r.am.isSome,I J (r.am.getD (0,0)).1,I J (r.am.getD (0,0)).2,V ca r.cur.length cc,E r.decline,E r.cheapest,V pa r.routes.length pc,I J r.ahead] 120))/\G (F0 w wx))
  case atStart=>exact⟨0,by omega,rfl,rfl,V0,t0,W0⟩
  obtain⟨j,hj,rfl,rfl,P,X0,t⟩:=hrel;generalize wr=wj at*;obtain⟨oa,oc,ho⟩:=oL P.o;subst ho;obtain⟨R,S⟩:∃R,(T0 a i++T3 a i j).length=R:=⟨_,rfl⟩
  have P1:R<=100:=by
   rw[<-S,lA];have e1:=O8 a i;have e2:=J0 a i j;have e3:=Nat.mul_le_mul (show i<=8 by omega) (show a.length<=8 by have:=HN.o;omega);have e4:=HM.o;omega
  have j0:=Za S;rw[S]at P;rw[S];by_cases Q1:j<M
  ·have Y0:(j:Int)<(M:Int):=by omega
   have R1:i+1+j<N:=by have:=HM.o;omega
   have Z0:aa=Z ⟨g,(i+1)*14,Y⟩:=by rw[<-S0.o,if_neg (by omega)]
   subst Z0;obtain⟨q,hq⟩:∃q,a[i+1+j]?=Z q:=⟨_,gE (show i+1+j<a.length by have:=HN.o;omega)⟩;obtain⟨g',T,W,a0,b0,e0,f0,u,a1,h3,h4⟩:=(HR.o.fr t.o) (i+1+j) q hq;injection u with u;injection u with u _ _;subst u
   have b:∀o v,[q4 q.name,I J q.rank,I J q.digits,I J q.lo,I J q.hi,V T q.mcc.length W,E q.am.isSome,I J (q.am.getD (0,0)).1,I J (q.am.getD (0,0)).2,V a0 q.cur.length b0,E q.decline,E q.cheapest,V e0 q.routes.length f0,I J q.ahead][o]?=Z v->wj.cell? ⟨g,(i+1)*14+j*14+o,Y⟩=Z v:=fun o v ho=>by
    have:=a1 o v ho
    rwa [show(i+1+j)*14+o=(i+1)*14+j*14+o from by omega]at this
   have x0:=b 0 _ rfl;have x1:=b 1 _ rfl;have x2:=b 2 _ rfl;have x3:=b 3 _ rfl;have x4:=b 4 _ rfl;have x5:=b 5 _ rfl;have x6:=b 6 _ rfl;have x7:=b 7 _ rfl;have x8:=b 8 _ rfl;have x9:=b 9 _ rfl;have S1:=b 10 _ rfl;have V1:=b 11 _ rfl;have W1:=b 12 _ rfl;have X1:=b 13 _ rfl;rw[q6]at x0;have f1:=Za h3;have g1:=Za h4;have w0:=Za (r0.o q (mG hq))
   have x:G (T3 a i (j+1)=T3 a i j++(match Re (Ua r) (Ua q)with|some y=>[(r.name,q.name,TC y.1)]|none=>[])):=by
    show _=_
    conv=>lhs;unfold T3;unfold GV;rw[Q0.o,hq]
   obtain⟨l,k0⟩:=Vx wj (O #[U q.name,I J q.rank,I J q.digits,I J q.lo,I J q.hi,V T q.mcc.length W,E q.am.isSome,I J (q.am.getD (0,0)).1,I J (q.am.getD (0,0)).2,V a0 q.cur.length b0,E q.decline,E q.cheapest,V e0 q.routes.length f0,I J q.ahead] 120);go_upto_region 8 with fail;generalize wj.alloc _=w2 at*;obtain⟨Q2,y0⟩:∃Q2,wj.heap.size=Q2:=⟨_,rfl⟩;rw[y0]at k0;rw[y0];have z:=Za (l.o.whole X0.o);obtain⟨c0,c1,c2,c3,c4,c5,c6,c7,c8,c9,i1,j1,k1,l1⟩:=ZY z.o;obtain⟨d0,d1,d2,d3,d4,d5,d6,d7,d8,d9,m1,n1,o1,r1⟩:=ZY k0.o;have n:=Za (EC w2 r q nr ma mc ca cc pa pc T W a0 b0 e0 f0 K.o w0.o (O0.o.fr (t.o.trans l.o)) (P0.o.fr (t.o.trans l.o)) (f1.o.fr l.o) (g1.o.fr l.o));have s1:=Za (HT.o.fr (t.o.trans l.o));have z0:=Za (t.o.trans l.o);have A0:=Za (oF P.o l.o)
   cases l0:Re (Ua r) (Ua q)with
   |none=>
    rw[l0]at n x;unfold vQ at n;unfold KE at n
    go_wp2_with (go_at_call 67;refine n.o.mono ?_)
    rintro e w3 rfl A;have s:G (F0 w (w3.alloc (O #[I J 0,I J 0,I J 0,I J 0] 139))):=(z0.o.trans A).alloc _;have t1:=Za ((A.alloc (O #[I J 0,I J 0,I J 0,I J 0] 139)).whole z.o)
    have m0:G ((w3.alloc (O #[I J 0,I J 0,I J 0,I J 0] 139)).ownsRow w.heap.size 44 6 (V oa R oc) (T0 a i++T3 a i (j+1)).length (XD (T0 a i++T3 a i (j+1)))):=by
     show y4 _ _ _ _ _ _ _
     rw[x.o,q8,j0.o];exact(oF A0.o A).alloc _
    go_wp2_with fail;go_roundg (M-(j+1))
    case measure=>omega
    exact⟨j+1,by omega,rfl,by go_num,m0,t1,s⟩
   |some y=>
    rw[l0]at n x;unfold vQ at n;unfold KE at n;have y1:=Za (vR K.o.1 K.o.2 l0)
    go_wp2_with (go_at_call 67;refine n.o.mono ?_)
    rintro e w3 rfl A;have C:=(Vx w3 (O #[I J (y.1.p0:Nat),I J (y.1.p1:Nat),I J (y.1.p2:Nat),I J (y.1.p3:Nat)] 139)).2;have s:=Za (A.alloc (O #[I J (y.1.p0:Nat),I J (y.1.p1:Nat),I J (y.1.p2:Nat),I J (y.1.p3:Nat)] 139));go_upto_region 9 with fail;generalize w3.alloc _=w4 at*;obtain⟨Q3,B0⟩:∃Q3,w3.heap.size=Q3:=⟨_,rfl⟩;rw[B0]at C;rw[B0];have g0:=Za (s.o.whole z.o);have C0:=Za (s.o.whole k0.o);obtain⟨c0,c1,c2,c3,c4,c5,c6,c7,c8,c9,i1,j1,k1,l1⟩:=ZY g0.o;obtain⟨d0,d1,d2,d3,d4,d5,d6,d7,d8,d9,m1,n1,o1,r1⟩:=ZY C0.o;have p0:=Zc C.o 0;have p1:=Zc C.o 1;have p2:=Zc C.o 2;have p3:=Zc C.o 3;have n0:=Za (Gq w4 r q y.1 ma mc ca cc pa pc T W a0 b0 e0 f0 K.o.1.nm w0.o.1.nm y1.o (s1.o.fr s.o));have m0:=Za (oF A0.o s.o);have z1:=Za (z0.o.trans s.o);obtain⟨F,A1⟩:∃F,TC y.1=F:=⟨_,rfl⟩;rw[A1]at n0 x;unfold uN KE at n0
    go_wp2_with (go_at_call 68;refine n0.o.mono ?_)
    rintro e w5 ⟨rfl,o0⟩;have q0:=Za (oF m0.o o0);have D0:=Za (z1.o.trans o0);have B1:=Za D0.o.size;have h0:=Za (o0.whole g0.o)
    go_wp2_with (at_builtin;refine wpList_append_lies _ rfl (.tmp 39) (.tmp 44) 41 rfl w.heap.size 44 ij _ 6 72 Tryz.underlying41 I0 K0 L0 M0 rfl (by decide) (V oa R oc) R (XD (T0 a i++T3 a i j)) rfl ?h1 ⟨w5.heap.size,0,Y⟩ 1 1 [U r.name,U q.name,U F.pan,I J F.mcc,I J F.am,I J F.cur] rfl rfl ?h2 ?h3 (by decide) ?h4 ?h5 ?h6 _ rfl ?_)
    case h1=>exact q0.o.alloc _
    case h2=>exact y5 (aN w5 (O #[U r.name,U q.name,U F.pan,I J F.mcc,I J F.am,I J F.cur] 44))
    case h3=>simp[q1]
    case h4=>unfold maxLen;omega
    case h5=>omega
    case h6=>have:=B1.o;simp;omega
    intro g2 E0 w8 G0 D Y1 _;have C1:G (F0 w w8):=(D0.o.alloc _).grown D (fun k hk=>Or.inr (q0.o.lt k hk).1)
    have D1:G (w8.heap[Q]?=Z (O #[U r.name,I J r.rank,I J r.digits,I J r.lo,I J r.hi,V ma r.mcc.length mc,E r.am.isSome,I J (r.am.getD (0,0)).1,I J (r.am.getD (0,0)).2,V ca r.cur.length cc,E r.decline,E r.cheapest,V pa r.routes.length pc,I J r.ahead] 120)):=by
     have f:Fr (fun k=>(z8 oa R oc).ownBlock=Z k) w5 w8:=(Zt.alloc _).grown D (fun k hk=>.inl hk);exact f.whole h0.o (xF q0.o h0.o (by decide))
    have E1:G (w8.ownsRow w.heap.size 44 6 (V (Z ⟨g2,0,Y⟩) (R+1) E0) (T0 a i++T3 a i (j+1)).length (XD (T0 a i++T3 a i (j+1)))):=by
     show y4 _ _ _ _ _ _ _
     rw[x.o,<-List.append_assoc,lA,j0.o,Gr];exact G0
    go_wp2_with fail;go_roundg (M-(j+1))
    case measure=>omega
    exact⟨j+1,by omega,rfl,by go_num,E1,D1,C1⟩
  have Y0:¬(j:Int)<(M:Int):=by omega
  have ej:j=M:=by omega
  have F1:G (wj.ownsRow w.heap.size 44 6 (V oa R oc) (T0 a (i+1)).length (XD (T0 a (i+1)))):=by
   show y4 _ _ _ _ _ _ _
   have e:T0 a (i+1)=T0 a i++T3 a i j:=by
    conv=>lhs;unfold T0
    rw[HN.o,HM.o,ej]
   rw[e,j0.o];exact P.o
  have G1:=t;go_wp2_with fail;go_roundg (N-(i+1))
  case measure=>omega
  exact⟨i+1,by omega,rfl,by go_num,F1,G1⟩
 have N0:¬(i:Int)<(N:Int):=by omega
 have ei:i=N:=by omega
 have H1:=Za ei;go_wp2_with fail;go_ret;refine⟨⟨_,rfl,?_⟩,H.o⟩;have e:=HO.o;unfold T1;rw[HN.o,<-H1.o];exact e
def BF (w:y7)(T:Nat)(rts:List Zf)(R:List Ze):Prop:=LO w T rts R/\(∃a b c d,w.cell? ⟨T,0,Y⟩=Z (L (Z ⟨a,0,Y⟩))/\Bk w a b c rts R d)/\Yx rts R/\∀r,r∈R->Td r
theorem BF.fr {w w' T rts R}(h:BF w T rts R)(a:F0 w w'):BF w' T rts R:=by
 obtain⟨c,⟨d,e,f,g,b,i⟩,j⟩:=h;exact⟨c.fr a,⟨d,e,f,g,(a.cell (p:=⟨T,0,Y⟩) (bL w _ b)).trans b,i.fr a⟩,j⟩
def LS (R:List Ze):List ByteArray:=WT R R.length
theorem BG (w T rts R)(h:BF w T rts R):
  y8 X 89 #[L (Z ⟨T,0,Y⟩)] w fun e w'=>(∃v,e=z7 v/\w'.ownsRow w.heap.size 9 1 v (LS R).length (Sz (LS R))/\(LS R=[]->v=V Y 0 0))/\F0 w w':=by
 obtain⟨_,⟨g,q,s,t,u,b⟩,d,i⟩:=h;obtain⟨j,c,e,a⟩:=b.rules;have f:=b.c1;rw[e]at f;have k:=Za (BD w g j c R.length R rts.length f a rfl d.l8 (fun r a=>⟨d.rl r a,i r a⟩));go_enter Tryz.func89,Tryz.ntmps89
 go_wp2_with (go_at_call 140;refine k.o.mono ?_;rintro e x ⟨⟨v,rfl,l⟩,m⟩;have n:=Za l;have p:=Za m)
 go_ret;exact⟨⟨v,rfl,n.o⟩,p.o⟩
def tT (w:y7)(a:Option Addr)(l:List xE):Prop:=∀k x,l[k]?=Z x->∃g,a=Z ⟨g,0,Y⟩/\∀j v,(OC x)[j]?=Z v->w.cell? ⟨g,k*6+j,Y⟩=Z v
theorem M6:∀(l:List xE)(k:Nat)(x:xE),l[k]?=Z x->∀(j:Nat)(v:j0),(OC x)[j]?=Z v->(XD l)[k*6+j]?=Z v
 |[],k,x,h=>by simp at h
 |y::r,0,x,h=>by
  simp at h;subst h;intro j v a;have b:=(iG.1 a).1
  show(OC y++XD r)[0*6+j]?=Z v
  rw[List.getElem?_append_left (by omega),Nat.zero_mul,Nat.zero_add];exact a
 |y::r,k+1,x,h=>by
  intro j v a;have l:(OC y).length=6:=rfl
  show(OC y++XD r)[(k+1)*6+j]?=Z v
  rw[aR (by omega),l,show(k+1)*6+j-6=k*6+j from by omega];exact M6 r k x (by simpa using h) j v a
theorem zU {w base t v l}(h:w.ownsRow base t 6 v l.length (XD l)):∃a c,v=V a l.length c/\tT w a l:=by
 obtain⟨a,c,e⟩:=oL h;subst e;refine⟨a,c,rfl,fun k x d=>?_⟩;have o:=(iG.1 d).1;obtain⟨g,cap,e,_,_⟩:=h.form (by omega);injection e with i p m;subst i m;refine⟨g,rfl,fun j v n=>?_⟩;have f:=h.cells (g:=g) rfl _ _ (M6 l k x d j v n)
 have b:∀k,(⟨g,0,Y⟩:Addr).add k=⟨g,k,Y⟩:=fun k=>by unfold Addr.add;split<;>simp_all
 rw[b]at f;exact f
theorem zV {W:y7}{base n c j t a l x}(h:W.ownsRow base t 6 (V a n c) n (XD l))(b:l.length=n)(d:l[j]?=Z x):∃g,a=Z ⟨g,0,Y⟩/\∀o v,(OC x)[o]?=Z v->W.cell? ⟨g,j*6+o,Y⟩=Z v:=by
 subst b;obtain⟨i,k,e,f⟩:=zU h;injection e with e _ _;subst e;exact f j x d
theorem LT (w T rts R)(h:BF w T rts R)(j:QW w):
  y8 X 20 #[L (Z ⟨T,0,Y⟩)] w fun e w'=>(∃v,e=z7 v/\w'.ownsRow w.heap.size 44 6 v (T1 R).length (XD (T1 R)))/\F0 w w':=by
 obtain⟨_,⟨k,A,B,C,D,d⟩,i,l⟩:=h;obtain⟨m,c,e,b⟩:=d.rules
 have n:R.length<=c:=by
  have a:=d.lo;rw[e]at a;rcases a.2 with⟨f,p⟩|⟨g,cap,q,f,_,_,p,_⟩
  ·injection f with _ _ s
   omega
  injection f with _ _ s
  omega
 have a:=d.c1;rw[e]at a;have t:=Za (LR w k m c R.length R rts.length a b rfl i.l8 n (fun r b=>⟨i.rl r b,l r b⟩) j);go_enter Tryz.func20,Tryz.ntmps20
 go_wp2_with (go_at_call 39;refine t.o.mono ?_;rintro e E ⟨⟨v,rfl,u⟩,x⟩;have y:=Za u;have z:=Za x)
 go_ret;exact⟨⟨v,rfl,y.o⟩,z.o⟩
