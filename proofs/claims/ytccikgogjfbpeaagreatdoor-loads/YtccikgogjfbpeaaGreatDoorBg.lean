import Derived.Test.YtccikgogjfbpeaaGreatDoorAx
import Derived.Test.YtccikgogjfbpeaaGreatDoorBc
open Option renaming some->I,none->Y
open Go.Value renaming int->J,slice->U,slice->T,string->C,string->z3,bool->z9,ownBlock->x7,oneCell'->x9
open Go.IntKind renaming i64->V,u8->k8
open Or renaming inl->Z,inr->G
open Bool renaming and_eq_true->O,or_eq_true->x5,or_false->j9
open Nat renaming le_refl->E,le_trans->z5,mul_one->x6,zero_add->q8,le_of_eq->k4,mul_pos->k6,pow_pos->k7
open List renaming take_of_length_le->H,mem_cons_self->z0,take_add_one->z4,append_assoc->z8,getElem?_append_left->y0,mem_map->x0,length_filter_le->x8,flatMap_append->q0,mem_singleton->q9,mem_flatMap->j0,take_length->j1,getElem_mem->j2,any_eq_true->j3,map_append->j4,mem_append->j5,append_nil->j6,mem_cons->j7,any_cons->j8,any_nil->k5
open Go.RowKit renaming Hid->A
open Go.Obj renaming cells->F
open Go renaming World->z1,Value->x4
open Go.Proofs.Tryz renaming prog->z2
open Go.World renaming news_of_block->z6
open Int renaming toNat_of_nonneg->z7
namespace Go.Proofs.YtccikgogjfbpeaaGreatDoor
set_option maxRecDepth 30000
set_option maxHeartbeats 8000000
open Go.RowKit
theorem yi {w:z1}{b g x}(a:b<=g)(h:w.heap[g]?=I (F #[J V (x:Nat)] 3)):w.ownsRow b 3 1 (U (I ⟨g,0,Y⟩) 1 1) 1 (Zg [x]):=
 ⟨rfl,.inr ⟨g,1,_,rfl,a,h,E _,by unfold maxLen;simp,by simp,by simp[Zg]⟩⟩
theorem yj {w:z1}{b g}(a:b<=g)(h:w.heap[g]?=I (F #[] 3)):w.ownsRow b 3 1 (U (I ⟨g,0,Y⟩) 0 0) 0 (Zg []):=
 ⟨rfl,.inr ⟨g,0,_,rfl,a,h,E _,by unfold maxLen;simp,by simp,by simp[Zg]⟩⟩
theorem Pn {α}{R:List α}{i r x}(h:R[i]?=I r)(a:x∈R.take (i+1)):x∈R.take i\/x=r:=by
 rw[z4,h]at a
 simpa using a
theorem EG {w W:z1}{o a}{g:Nat}(h:w.alloc o=W)(b:w.heap[g]?=I a):W.heap[g]?=I a:=(Ed (S:=fun _=>False) h).whole b
theorem uO {w W:z1}{o}(h:w.alloc o=W):W.heap.size=w.heap.size+1:=by rw[<-h];simp
def sj (R:List Ze)(b c d e:List Nat)(n:Nat):Prop:=
 Nd b 999999 (1+2*n) (fun x=>x=0\/∃r,r∈R/\(x=sL r\/x=sH r))/\Nd c 9999 (4*n) (fun x=>∃r,r∈R/\x∈r.mcc)/\Nd d 999 (4*n) (fun x=>∃r,r∈R/\x∈r.cur)/\Nd e 1000000000 (1+2*n) fun x=>x=0\/∃r,r∈R/\∃a,r.am=I a/\(x=a.1\/x=a.2+1)
structure yl (w:z1)(X:Nat)(r:Ze)(ma:Option Addr)(mc:Nat)(ca:Option Addr)(cc:Nat)(pa:Option Addr)(pc:Nat)(W:z1)(ps:List (x4×List Nat)):Prop where
 rs:Rs W w.heap.size ps
 bx:W.heap[X]?=I (F (uL r ma mc ca cc pa pc).toArray 170)
 fr:F0 w W
theorem yl.rot {w W X r a b c d e f p g}(h:yl w X r a b c d e f W (p::g)):yl w X r a b c d e f W (g++[p]):=⟨h.rs.rot,h.bx,h.fr⟩
theorem yl.with {w W X r b c d f g i v l a}(h:yl w X r b c d f g i W ((v,l)::a)){n m N Q}(j:Nd l m N Q)(q:N<=4000)(s:n<=10000000000)(M:Int)(t:M=(m:Nat)):
  Calls z2 182 #[v,J V (n:Nat),J V M] W fun e w'=>∃v' l',e=.returned v'/\yl w X r b c d f g i w' ((v',l')::a)/\Nd l' m (N+1) fun y=>Q y\/y=n:=by
 refine(C5 W _ v l a n m M t h.rs (z5 j.2.1 q) s h.fr.size).mono ?_;rintro _ w' ⟨v',l',rfl,u,x,o⟩;have p:=h.rs.1 _ (z0 ..);exact⟨v',l',rfl,⟨u,o.whole h.bx (oN p h.bx (by decide)),h.fr.monoNew o fun k z=>G (p.lt k z).1⟩,j.more x⟩
theorem yl.cells {w W X r a b c d e f g}(h:yl w X r a b c d e f W g):W.cell? ⟨X,2,Y⟩=I (J V (r.digits:Nat))/\W.cell? ⟨X,3,Y⟩=I (J V (r.lo:Nat))/\W.cell? ⟨X,4,Y⟩=I (J V (r.hi:Nat))/\W.cell? ⟨X,5,Y⟩=I (U a r.mcc.length b)/\W.cell? ⟨X,6,Y⟩=I (U c r.cur.length d)/\W.cell? ⟨X,7,Y⟩=I (z9 r.am.isSome)/\W.cell? ⟨X,8,Y⟩=I (J V ((r.am.getD (0,0)).1:Nat))/\W.cell? ⟨X,9,Y⟩=I (J V ((r.am.getD (0,0)).2:Nat)):=
 ⟨Zc h.bx 2,Zc h.bx 3,Zc h.bx 4,Zc h.bx 5,Zc h.bx 6,Zc h.bx 7,Zc h.bx 8,Zc h.bx 9⟩
def uA (x k:Nat):UInt8:=UInt8.ofNat (48+x/10^k % 10)
def BK (x:Nat):Nat->List UInt8
 |0=>[]
 |k+1=>uA x k::BK x k
theorem Na (x:Nat):∀j,(BK x j).length=j
 |0=>rfl
 |j+1=>by rw[BK,List.length_cons,Na x j]
def LU (x:Nat):ByteArray:=⟨(BK x 6).toArray⟩
theorem J5 (x k):(uA x k).toNat=48+x/10^k % 10:=by
 have:x/10^k % 10<10:=Nat.mod_lt _ (by decide);rw[uA,UInt8.toNat_ofNat'];omega
theorem Lg {x}(h:x<=999999):XP (LU x)=true/\Zy (LU x)=x:=by
 refine⟨?_,?_⟩
 ·simp only[XP,LU,BK,List.all_cons,List.all_nil,J5,ByteArray.size,O,decide_eq_true_eq]
  simp;omega
 simp only[Zy,LU,BK,Yu,List.take_succ_cons,List.take_nil,List.foldl_cons,List.foldl_nil,J5]
 simp;omega
def SF (x y z u:Nat):WC:=⟨LU x,(y:Nat),(z:Nat),(u:Nat)⟩
structure KX (w:z1)(ps:List (x4×List Nat))(v:x4)(S:List WC)(n:Nat)(W:z1):Prop where
 rs:Rs W w.heap.size ps
 ou:W.ownsRow w.heap.size 35 4 v S.length (XQ S)
 fr:F0 w W
 le:S.length<=n
theorem KX.keep {w W b c v S n}(h:KX w c v S n W)(a:F0 W b):KX w c v S n b:=⟨h.rs.fr a,oF h.ou a,h.fr.trans a,h.le⟩
theorem KX.re {w W a v S S' n b}(h:KX w a v S n W)(e:S=S')(c:n<=b):KX w a v S' b W:=by subst e;exact⟨h.rs,h.ou,h.fr,z5 h.le c⟩
theorem KX.at {w W b v S n}(h:KX w b v S n W){a c l}(d:(T a l.length c,l)∈b){k x}(e:l[k]?=I x):∃g,a=I ⟨g,0,Y⟩/\W.cell? ⟨g,k,Y⟩=I (J V (x:Nat)):=Zu.of (h.rs.1 _ d) k x e
theorem KX.get {w W a v S n}(h:KX w a v S n W){g c l}(b:(T (I ⟨g,0,Y⟩) l.length c,l)∈a){k x}(d:l[k]?=I x):W.cell? ⟨g,k,Y⟩=I (J V (x:Nat)):=by
 obtain⟨f,e,h⟩:=h.at b d;injection e with e;injection e with e;subst e;exact h
theorem KX.more {w W w2 d v S n g m c p o}(h:KX w d v S n W)(j:(W.alloc o).grownBy w2 v.ownBlock)(l:w2.ownsRow w.heap.size 35 4 (U (I ⟨g,0,Y⟩) m c) (S.length+1) (XQ S++[C p.pan,J V p.mcc,J V p.am,J V p.cur])):KX w d (U (I ⟨g,0,Y⟩) m c) (S++[p]) (n+1) w2:=by
 have f:=((Fr.refl (fun k=>v.ownBlock=I k) W).alloc o).grown j (fun k a=>Z a);refine⟨⟨fun q i=>oA (h.rs.1 q i) f (fun k a e=>?_),h.rs.2⟩,?_,h.fr.monoNew f fun k a=>G (h.ou.lt k a).1,by have:=h.le;simp;omega⟩
 ·rcases WI (h.rs.1 q i) h.ou (by decide)with b|b
  ·rw[b]at a;cases a
  exact b (a.trans e.symm)
 rw[lA,XQ,q0]
 simpa[XQ]using l
theorem P3 {α β}{l:List α}{k x}(h:l[k]?=I x)(f:α->List β):(l.take (k+1)).flatMap f=(l.take k).flatMap f++f x:=by
 rw[z4,h,q0];simp
theorem zx.st {R f g i j}(h:zx R f g i j)(n:(f.flatMap fun x=>g.flatMap fun y=>i.flatMap fun z=>j.map (SF x y z)).length<=400000):xw R (f.flatMap fun x=>g.flatMap fun y=>i.flatMap fun z=>j.map (SF x y z)):=by
 obtain⟨_,k,_⟩:=h.b;obtain⟨_,o,_⟩:=h.a;obtain⟨_,_,q,_⟩:=h.m;obtain⟨_,_,r,_⟩:=h.c;refine⟨n,fun p e=>?_,fun p e=>?_⟩
 ·simp only[j0,x0]at e
  obtain⟨x,s,y,t,z,v,u,w,rfl⟩:=e;have:=q y t;have:=o z v;have:=r u w;rw[Xu,SF,(Lg (k x s)).1];simp[VX];omega
 obtain⟨b,m,a,c,l,A,B,C,d⟩:=h.cover e
 exact⟨SF b m a c,by simp only[j0,x0];exact⟨b,l,m,A,a,B,c,C,rfl⟩,d _ (Lg (k b l)).2 rfl rfl rfl⟩
theorem BL (m:Nat)(h:m<10):k8.wrap (48+(m:Int))=(48+(m:Int)):=by
 have:m=0\/m=1\/m=2\/m=3\/m=4\/m=5\/m=6\/m=7\/m=8\/m=9:=by omega
 rcases this with rfl|rfl|rfl|rfl|rfl|rfl|rfl|rfl|rfl|rfl<;>decide
theorem R6:(z2.info? 35).map (fun i=>(i.zero,i.size,i.bytes))=I (I (.agg #[C ByteArray.empty,J V 0,J V 0,J V 0]),4,40):=by kernel_rfl
def GF (l:List Nat)(o:Nat):Nat:=(l.filter fun x=>decide (o<=x)).length
theorem GG (x r o):GF (x::r) o=(if o<=x then 1 else 0)+GF r o:=by
 unfold GF;rw[List.filter_cons]
 split<;>simp_all<;>omega
theorem yn (l o):GF l (o+1)<=GF l o/\(o∈l->GF l (o+1)<GF l o):=by
 induction l with
 |nil=>exact⟨E _,fun h=>by cases h⟩
 |cons x r a=>
  obtain⟨c,b⟩:=a;rw[GG,GG];refine⟨by split<;>split<;>omega,fun h=>?_⟩;rcases j7.1 h with rfl|h
  ·rw[if_pos (E _),if_neg (by omega)];omega
  have:=b h;split<;>split<;>omega
theorem GH (w q rts R)(h:Sm w q rts R)(hb:Yx rts R)(ha:∀r,r∈R->r.mcc.length<=4/\r.cur.length<=4):
  Calls z2 141 #[.pointer (I ⟨q,0,Y⟩)] w fun e w'=>(∃v S,e=.returned v/\w'.ownsRow w.heap.size 35 4 v S.length (XQ S)/\xw R S)/\F0 w w':=by
 have w1:=Za hb;have HA:=Za ha;have z1:=hb.l8;obtain⟨ii,G0,H0,I0,J0⟩:=info_parts Y2;obtain⟨ij,B1,C1,D1,E1⟩:=info_parts R6;obtain⟨la,lc,K0,h3⟩:=h.c2;have H3:=Za h3;obtain⟨N,hN⟩:∃N,R.length=N:=⟨_,rfl⟩;have HN:=Za hN;rw[hN]at z1 K0;have H2:=Za K0;go_enter Tryz.func141,Tryz.ntmps141;go_wp2_with fail;generalize hA:w.alloc _=A1;generalize hB:A1.alloc _=A2;generalize hC:A2.alloc _=A3;generalize hD:A3.alloc _=A4;have s1:=uO hA;have s2:=uO hB;have s3:=uO hC
 have F1:A (Rs A4 w.heap.size [(U (I ⟨w.heap.size,0,Y⟩) 1 1,[0]),(U (I ⟨w.heap.size+1,0,Y⟩) 0 0,[]),(U (I ⟨w.heap.size+1+1,0,Y⟩) 0 0,[]),(U (I ⟨w.heap.size+1+1+1,0,Y⟩) 1 1,[0])]):=by
  have e2:=BW hB;have e3:=BW hC;have e4:=BW hD;rw[s1]at e2;rw[s2,s1]at e3;rw[s3,s2,s1]at e4;refine⟨fun p hp=>?_,by simp[x7];omega⟩;simp only[j7,List.not_mem_nil,or_false]at hp;rcases hp with rfl|rfl|rfl|rfl
  ·exact yi (E _) (EG hD (EG hC (EG hB (BW hA))))
  ·exact yj (by omega) (EG hD (EG hC e2))
  ·exact yj (by omega) (EG hD e3)
  exact yi (by omega) e4
 have G1:A (F0 w A4):=(((Ed hA).trans (Ed hB)).trans (Ed hC)).trans (Ed hD)
 go_loopg [3,4,5,6,7] N (fun m b1 m1 c1 a1 iv wr=>∃i Q l2 l3 s,i<=N/\m=N-i/\iv=J V (i:Nat)/\A (Rs wr w.heap.size [(b1,Q),(m1,l2),(c1,l3),(a1,s)])/\A (sj (R.take i) Q l2 l3 s i)/\A (F0 w wr))
 case atStart=>exact⟨0,[0],[],[],[0],by omega,rfl,rfl,F1,by simp[sj,Nd,Za],G1⟩
 obtain⟨i,Q,l2,l3,s,hi,rfl,rfl,HR,HS,D⟩:=hrel;have L:=D.o.get H2.o;by_cases g3:i<N
 ·have H1:(i:Int)<(N:Int):=by omega
  obtain⟨r,hr⟩:∃r,R[i]?=I r:=⟨_,gE (by have:=HN.o;omega)⟩;obtain⟨g,ma,mc,ca,cc,pa,pc,rfl,hc,hm,hu,_⟩:=H3.o i r hr;have a0:=Za (w1.o.rl r (mG hr));have L0:=Za (HA.o r (mG hr));have k0:=Za (fun x=>@Pn _ R i r x hr);have dr:=a0.o.bn.1
  have i3:r.lo<=1000000000:=by have:=a0.o.lo.1;omega
  have j3:r.hi<=1000000000:=by have:=a0.o.hi.1;omega
  obtain⟨v0,v1,v2,v3,v4,v5,v6,v7,v8,v9,k3,r3,t3⟩:=vH fun j v e=>D.o.get (hc j v e)
  have M0:=Za (And.intro hm hu);go_upto_region 9 with fail;generalize hW:wr.alloc _=W1 at*;obtain⟨X,hX⟩:∃X,wr.heap.size=X:=⟨_,rfl⟩;have N0:A (yl w X r ma mc ca cc pa pc W1 [(u3,Q),(u4,l2),(u5,l3),(u6,s)]):=⟨HR.o.fr (Ed (S:=fun _=>False) hW),hX▸BW hW,D.o.trans (Ed hW)⟩;rw[hX];obtain⟨y2,y3,y4,y5,y6,y7,y8,y9⟩:=N0.o.cells;obtain⟨n1,n2,n3,n4⟩:=HS.o;have O0:=MI a0.o;go_wp2_with fail;refine Dt (Rq r.lo r.digits (sL r) W1 dr rfl O0.1) ?_;go_wp2_with fail;refine(N0.o.with n1 (by omega) (n:=sL r) (by omega) _ rfl).mono ?_;rintro _ w2 ⟨b2,x3,rfl,I1,J1⟩;have P0:=Za I1;obtain⟨y2,y3,y4,y5,y6,y7,y8,y9⟩:=P0.o.cells;go_wp2_with fail;refine Dt (Rq (r.hi+1) r.digits (sH r) w2 dr rfl O0.2) ?_;go_wp2_with fail;refine(P0.o.with J1 (by omega) (n:=sH r) (by omega) _ rfl).mono ?_;rintro _ w3 ⟨b3,l5,rfl,K1,L1⟩;have Q0:=Za K1.rot
  have HB:=Za (L1.weak (show 1+2*i+1+1<=1+2*(i+1) by omega) (Q':=fun x=>x=0\/∃r,r∈R.take (i+1)/\(x=sL r\/x=sH r)) fun x hx=>by
   rcases hx with h|⟨r',h1,L⟩
   ·exact Z (Z (Z h))
   rcases k0.o r' h1 with h|rfl
   ·exact Z (Z (G ⟨r',h,L⟩))
   exact L.elim (fun h=>Z (G h)) G)
  have N4:=Za n2;have N5:=Za n3;have N6:=Za n4;obtain⟨y2,y3,y4,y5,y6,y7,y8,y9⟩:=Q0.o.cells;obtain⟨K,hK⟩:∃K,r.mcc.length=K:=⟨_,rfl⟩;have b0:=Za hK
  have M1:K<=4:=by have:=L0.o;omega
  rw[hK]at y5;go_wp2_with fail
  go_loopg [4,9] K (fun m mv kv wx=>∃k l',k<=K/\m=K-k/\kv=J V (k:Nat)/\A (yl w X r ma mc ca cc pa pc wx ((mv,l')::[(u5,l3),(u6,s),(b3,l5)]))/\A (Nd l' 9999 (4*i+k) fun x=>(∃r,r∈R.take i/\x∈r.mcc)\/x∈r.mcc.take k))
  case atStart=>exact⟨0,_,by omega,rfl,rfl,Q0,N4.o.weak (by omega) (by simp)⟩
  obtain⟨k,l',hk,rfl,rfl,HK,HD⟩:=hrel;generalize wr=W at*;obtain⟨y2,y3,y4,y5,y6,y7,y8,y9⟩:=HK.o.cells;rw[b0.o]at y5;by_cases R0:k<K
  ·have l0:(k:Int)<(K:Int):=by omega
   obtain⟨x,hx⟩:∃x,r.mcc[k]?=I x:=⟨_,gE (by have:=b0.o;omega)⟩;obtain⟨gm,em,O1⟩:=(M0.o.1.fr HK.o.fr) k x hx;subst em;have P1:=a0.o.mc.2 x (mG hx);go_wp2_with fail;refine(HK.o.with HD.o (by omega) (n:=x) (by omega) _ rfl).mono ?_;rintro _ w3 ⟨v',Q1,rfl,h1,L⟩;have t0:=Za h1
   have w0:=Za (L.weak (E _) (Q':=fun y=>(∃r,r∈R.take i/\y∈r.mcc)\/y∈r.mcc.take (k+1)) fun y hy=>by
    rcases hy with h|h
    ·exact Z (Z h)
    rcases Pn hx h with h|h
    ·exact Z (G h)
    exact G h)
   go_wp2_with fail;go_roundg (K-(k+1))
   case measure=>omega
   exact⟨k+1,_,by omega,rfl,by go_num,t0,w0⟩
  have l0:¬(k:Int)<(K:Int):=by omega
  obtain rfl:k=K:=by omega
  have HM:=Za (HD.o.weak (show 4*i+k<=4*(i+1) by omega) (Q':=fun x=>∃r,r∈R.take (i+1)/\x∈r.mcc) fun x ⟨r',h1,L⟩=>by
   rcases k0.o r' h1 with h|rfl
   ·exact Z ⟨r',h,L⟩
   exact G (by rw[<-b0.o,j1];exact L))
  have R1:=Za HK.o.rot;obtain⟨lm,rfl⟩:∃lm,lm=l':=⟨_,rfl⟩;obtain⟨K,hK⟩:∃K,r.cur.length=K:=⟨_,rfl⟩;have b0:=Za hK
  have M1:K<=4:=by have:=L0.o;omega
  rw[hK]at y6;go_wp2_with fail
  go_loopg [5,10] K (fun m mv kv wx=>∃k l',k<=K/\m=K-k/\kv=J V (k:Nat)/\A (yl w X r ma mc ca cc pa pc wx ((mv,l')::[(u6,s),(b3,l5),(u4,lm)]))/\A (Nd l' 999 (4*i+k) fun x=>(∃r,r∈R.take i/\x∈r.cur)\/x∈r.cur.take k))
  case atStart=>exact⟨0,_,by omega,rfl,rfl,R1,N5.o.weak (by omega) (by simp)⟩
  obtain⟨k,l',hk,rfl,rfl,HK,HD⟩:=hrel;generalize wr=W at*;obtain⟨y2,y3,y4,y5,y6,y7,y8,y9⟩:=HK.o.cells;rw[b0.o]at y6;by_cases R0:k<K
  ·have l0:(k:Int)<(K:Int):=by omega
   obtain⟨x,hx⟩:∃x,r.cur[k]?=I x:=⟨_,gE (by have:=b0.o;omega)⟩;obtain⟨gm,em,O1⟩:=(M0.o.2.fr HK.o.fr) k x hx;subst em;have P1:=a0.o.cu.2 x (mG hx);go_wp2_with fail;refine(HK.o.with HD.o (by omega) (n:=x) (by omega) _ rfl).mono ?_;rintro _ w3 ⟨v',Q1,rfl,h1,L⟩;have t0:=Za h1
   have w0:=Za (L.weak (E _) (Q':=fun y=>(∃r,r∈R.take i/\y∈r.cur)\/y∈r.cur.take (k+1)) fun y hy=>by
    rcases hy with h|h
    ·exact Z (Z h)
    rcases Pn hx h with h|h
    ·exact Z (G h)
    exact G h)
   go_wp2_with fail;go_roundg (K-(k+1))
   case measure=>omega
   exact⟨k+1,_,by omega,rfl,by go_num,t0,w0⟩
  have l0:¬(k:Int)<(K:Int):=by omega
  obtain rfl:k=K:=by omega
  have HC:=Za (HD.o.weak (show 4*i+k<=4*(i+1) by omega) (Q':=fun x=>∃r,r∈R.take (i+1)/\x∈r.cur) fun x ⟨r',h1,L⟩=>by
   rcases k0.o r' h1 with h|rfl
   ·exact Z ⟨r',h,L⟩
   exact G (by rw[<-b0.o,j1];exact L))
  have S0:=Za HK.o.rot
  cases ha:r.am with
  |none=>
   rw[ha]at y7
   have x0:=Za (N6.o.weak (show 1+2*i<=1+2*(i+1) by omega) (Q':=fun x=>x=0\/∃r,r∈R.take (i+1)/\∃ab,r.am=I ab/\(x=ab.1\/x=ab.2+1)) fun x hx=>by
    rcases hx with h|⟨r',h1,ab,L,h3⟩
    ·exact Z h
    rcases k0.o r' h1 with h|rfl
    ·exact G ⟨r',h,ab,L,h3⟩
    rw[ha]at L;cases L)
   have c0:=Za S0.o.rot;go_wp2_with fail;go_roundg (N-(i+1))
   case measure=>omega
   exact⟨i+1,_,_,_,_,by omega,rfl,by go_num,c0.o.rs,⟨HB.o,HM.o,HC.o,x0.o⟩,c0.o.fr⟩
  |some ab=>
   rw[ha]at y7 y8 y9;have z3:=a0.o.am ab ha;simp only[Option.getD_some]at y8 y9;go_wp2_with fail;refine(S0.o.with N6.o (by omega) (n:=ab.1) (by omega) _ rfl).mono ?_;rintro _ w5 ⟨a5,l6,rfl,S1,T1⟩;have c0:=Za S1;obtain⟨y2,y3,y4,y5,y6,y7,y8,y9⟩:=c0.o.cells;rw[ha]at y9;simp only[Option.getD_some]at y9;go_wp2_with fail;refine(c0.o.with T1 (by omega) (n:=ab.2+1) (by omega) _ rfl).mono ?_;rintro _ w6 ⟨a6,l7,rfl,V1,X1⟩;have T0:=Za V1.rot
   have x0:=Za (X1.weak (show 1+2*i+1+1<=1+2*(i+1) by omega) (Q':=fun x=>x=0\/∃r,r∈R.take (i+1)/\∃ab,r.am=I ab/\(x=ab.1\/x=ab.2+1)) fun x hx=>by
    rcases hx with h|⟨r',h1,Y1,L,h3⟩
    ·exact Z (Z (Z h))
    rcases k0.o r' h1 with h|rfl
    ·exact Z (Z (G ⟨r',h,Y1,L,h3⟩))
    rw[ha]at L
    injection L with L;subst L
    exact h3.elim (fun h=>Z (G h)) G)
   go_wp2_with fail;go_roundg (N-(i+1))
   case measure=>omega
   exact⟨i+1,_,_,_,_,by omega,rfl,by go_num,T0.o.rs,⟨HB.o,HM.o,HC.o,x0.o⟩,T0.o.fr⟩
 have H1:¬(i:Int)<(N:Int):=by omega
 obtain rfl:i=N:=by omega
 obtain⟨n1,n2,n3,n4⟩:=HS.o;rw[H (k4 HN.o)]at n1 n2 n3 n4;have N1:=Za n1;have N2:=Za n2;have N3:=Za n3;have N4:=Za n4;have B3:=n2.2.1;have C3:=n3.2.1;have m0:=Za HR.o.rot;obtain⟨va,vc,ev⟩:=oL (m0.o.1 _ (z0 ..))
 dsimp only at ev
 subst ev;have HO:=Za (m0.o.1 _ (z0 ..))
 dsimp only at HO
 have d0:=Za (fun o:Nat=>Rp _ va vc l2 o (Zu.of HO.o) (by omega));obtain⟨n,hn⟩:∃n,l2.length=n:=⟨_,rfl⟩;have e0:=Za hn;rw[hn]at d0 HO m0 ⊢
 have n0:n<=32:=by omega
 go_wp2_with fail
 go_loopg [11] (GF l2 0) (fun m ov wx=>∃o:Nat,ov=J V (o:Nat)/\m=GF l2 o/\wr=wx/\A (o+GF l2 o<=n))
 case atStart=>exact⟨0,rfl,rfl,rfl,by show _<=_;rw[<-e0.o];unfold GF;rw[q8];exact x8 ..⟩
 obtain⟨o,rfl,rfl,rfl,HG⟩:=hrel;have ho:=HG.o
 have o0:o<=32:=by omega
 go_wp2_with fail;refine Dt (d0.o o) ?_
 cases f0:Ul l2 (o:Int)with
 |true=>
  have h1:=(yn l2 o).2 ((V5 _ _).1 f0);go_wp2_with fail;go_roundg (GF l2 (o+1))
  case measure=>exact h1
  exact⟨o+1,by go_num,rfl,rfl,by have:=HG.o;show _<=_;omega⟩
 |false=>
  have p0:A (o∉l2):=fun h=>by rw[(V5 _ _).2 h]at f0;cases f0
  go_wp2_with (at_builtin;refine wpList_append_lies _ rfl (.tmp 99) (.tmp 101) 25 rfl w.heap.size 3 ii _ 1 8 Tryz.underlying25 G0 H0 I0 J0 rfl (by decide) (U va n vc) n (Zg l2) rfl ?p1 ⟨wr.heap.size,0,Y⟩ 1 1 [J V (o:Nat)] rfl rfl ?p2 ?p3 (by decide) ?p4 ?p5 ?p6 _ rfl ?_)
  case p1=>exact HO.o.alloc _
  case p2=>exact z6 (aN wr (F #[J V (o:Nat)] 3))
  case p3=>simp[x9]
  case p4=>unfold maxLen;omega
  case p5=>omega
  case p6=>have:=D.o.size;simp;omega
  intro gp V0 wp M B h0 _;have g0:=Za (m0.o.grow (Zt.alloc _) B (l':=l2++[o]) (by rw[XU,lA,e0.o];exact M) (h0.imp id (by omega)));have y0:=Za (D.o.monoNew g0.o.2 fun k hk=>G (HO.o.lt k hk).1);have i0:=Za g0.o.1.rot;have W0:A (∃m,m∈l2++[o]/\m∉l2):=⟨o,by simp,p0.o⟩;have r0:=Za (N2.o.more (G ⟨rfl,z5 o0 (by decide)⟩));obtain⟨O,X0⟩:∃l,l2++[o]=l:=⟨_,rfl⟩;rw[X0]at i0 W0 r0;generalize T (I ⟨gp,0,Y⟩) (n+1) V0=vp at*;clear M B h0 HO g0 p0 m0 d0 HG X0 D e0 n0;have D:=y0;obtain⟨va,vc,ev⟩:=oL (i0.o.1 _ (z0 ..))
  dsimp only at ev
  subst ev;have HO:=Za (i0.o.1 _ (z0 ..))
  dsimp only at HO
  have d0:=Za (fun o:Nat=>Rp _ va vc l3 o (Zu.of HO.o) (by omega));obtain⟨n,hn⟩:∃n,l3.length=n:=⟨_,rfl⟩;have e0:=Za hn;rw[hn]at d0 HO i0 ⊢
  have n0:n<=32:=by omega
  go_wp2_with fail
  go_loopg [11] (GF l3 0) (fun m ov wx=>∃o:Nat,ov=J V (o:Nat)/\m=GF l3 o/\wp=wx/\A (o+GF l3 o<=n))
  case atStart=>exact⟨0,rfl,rfl,rfl,by show _<=_;rw[<-e0.o];unfold GF;rw[q8];exact x8 ..⟩
  obtain⟨o,rfl,rfl,rfl,HG⟩:=hrel;have ho:=HG.o
  have o0:o<=32:=by omega
  go_wp2_with fail;refine Dt (d0.o o) ?_
  cases f0:Ul l3 (o:Int)with
  |true=>
   have h1:=(yn l3 o).2 ((V5 _ _).1 f0);go_wp2_with fail;go_roundg (GF l3 (o+1))
   case measure=>exact h1
   exact⟨o+1,by go_num,rfl,rfl,by have:=HG.o;show _<=_;omega⟩
  |false=>
   have p0:A (o∉l3):=fun h=>by rw[(V5 _ _).2 h]at f0;cases f0
   go_wp2_with (at_builtin;refine wpList_append_lies _ rfl (.tmp 108) (.tmp 110) 25 rfl w.heap.size 3 ii _ 1 8 Tryz.underlying25 G0 H0 I0 J0 rfl (by decide) (U va n vc) n (Zg l3) rfl ?q1 ⟨wp.heap.size,0,Y⟩ 1 1 [J V (o:Nat)] rfl rfl ?q2 ?q3 (by decide) ?q4 ?q5 ?q6 _ rfl ?_)
   case q1=>exact HO.o.alloc _
   case q2=>exact z6 (aN wp (F #[J V (o:Nat)] 3))
   case q3=>simp[x9]
   case q4=>unfold maxLen;omega
   case q5=>omega
   case q6=>have:=D.o.size;simp;omega
   intro gq Y0 wq M B h0 _;have g0:=Za (i0.o.grow (Zt.alloc _) B (l':=l3++[o]) (by rw[XU,lA,e0.o];exact M) (h0.imp id (by omega)));have y0:=Za (D.o.monoNew g0.o.2 fun k hk=>G (HO.o.lt k hk).1);have j0:=Za g0.o.1.rot;have Z0:A (∃m,m∈l3++[o]/\m∉l3):=⟨o,by simp,p0.o⟩;have s0:=Za (N3.o.more (G ⟨rfl,z5 o0 (by decide)⟩));obtain⟨t,d1⟩:∃l,l3++[o]=l:=⟨_,rfl⟩;rw[d1]at j0 Z0 s0;generalize T (I ⟨gq,0,Y⟩) (n+1) Y0=vq at*;clear M B h0 HO g0 p0 i0 d0 HG d1 D e0 n0;have D:=y0;have D3:=N1.o.2.1;have E3:=N4.o.2.1;have F3:=r0.o.2.1;have G3:=s0.o.2.1;obtain⟨a3,c3,e3⟩:=oL (j0.o.1 (u3,Q) (by simp));obtain⟨a4,c4,e4⟩:=oL (j0.o.1 (vp,O) (by simp));obtain⟨a5,c5,e5⟩:=oL (j0.o.1 (vq,t) (by simp));obtain⟨a6,c6,e6⟩:=oL (j0.o.1 (u6,s) (by simp))
   dsimp only at e3 e4 e5 e6
   subst e3 e4 e5 e6;obtain⟨ps,q0⟩:∃ps,[(T a6 s.length c6,s),(T a3 Q.length c3,Q),(T a4 O.length c4,O),(T a5 t.length c5,t)]=ps:=⟨_,rfl⟩;have Z1:A (KX w ps (U Y 0 0) [] 0 wq):=⟨q0▸j0.o,oZ _ _ _ _,D.o,E _⟩;have a2:=Za N1.o.1
   have m1:A ((T a3 Q.length c3,Q)∈ps):=by show _∈_;rw[<-q0];simp
   have m2:A ((T a4 O.length c4,O)∈ps):=by show _∈_;rw[<-q0];simp
   have m3:A ((T a6 s.length c6,s)∈ps):=by show _∈_;rw[<-q0];simp
   have m4:A ((T a5 t.length c5,t)∈ps):=by show _∈_;rw[<-q0];simp
   have d2:A (zx R Q O s t):=by
    obtain⟨x,x1,x2⟩:=W0.o;obtain⟨y,y1,y2⟩:=Z0.o;exact⟨⟨_,N1.o⟩,⟨_,N4.o⟩,⟨⟨x,x1,fun r hr h=>x2 (N2.o.2.2 x ⟨r,hr,h⟩ (r0.o.1 x x1))⟩,_,r0.o.weak (E _) fun _ h=>Z h⟩,⟨y,y1,fun r hr h=>y2 (N3.o.2.2 y ⟨r,hr,h⟩ (s0.o.1 y y1))⟩,_,s0.o.weak (E _) fun _ h=>Z h⟩
   go_wp2_with fail
   go_loopg [12,13] Q.length (fun m ov av wx=>∃a,a<=Q.length/\m=Q.length-a/\av=J V (a:Nat)/\A (KX w ps ov ((Q.take a).flatMap fun x=>O.flatMap fun y=>s.flatMap fun z=>t.map (SF x y z)) (((a*33+0)*17+0)*33+0) wx))
   case atStart=>exact⟨0,by omega,rfl,rfl,Z1⟩
   obtain⟨a,ha,rfl,rfl,HU⟩:=hrel;generalize wr=W at*;by_cases e1:a<Q.length
   ·have f2:(a:Int)<(Q.length:Int):=by omega
    have hx:=gE e1;have i2:=Za (fun f=>@P3 _ WC _ _ _ hx f);obtain⟨g,eg,hc⟩:=HU.o.at m1.o hx;subst eg;have k2:=a2.o _ (j2 e1);generalize Q[a]=x at*;generalize r2:(Q.take a).flatMap (fun x=>O.flatMap fun y=>s.flatMap fun z=>t.map (SF x y z))=S6 at*;have c0:=Za r2;go_wp2_with fail
    go_loopg [14,15,16] 6 (fun m pv nv kv wx=>∃k,k<=6/\m=6-k/\pv=C ⟨(BK x k).toArray⟩/\nv=J V ((x/10^k:Nat):Int)/\kv=J V (k:Nat)/\A (KX w ps u12 S6 (((a*33+0)*17+0)*33+0) wx))
    case atStart=>exact⟨0,by omega,rfl,rfl,by simp,rfl,HU⟩
    obtain⟨k,hk,rfl,rfl,rfl,rfl,HK⟩:=hrel;by_cases R0:k<6
    ·have l0:(k:Int)<6:=by omega
     have I3:x/10^k<=999999:=z5 (Nat.div_le_self _ _) k2
     have t2:x/10^k/10=x/10^(k+1):=by rw[Nat.div_div_eq_div_mul,Nat.pow_succ]
     have J3:=J5 x k;have B2:A ((⟨#[uA x k]⟩:ByteArray)++⟨(BK x k).toArray⟩=⟨(BK x (k+1)).toArray⟩):=ByteArray.ext (by simp[BK])
     have K3:(⟨(BK x k).toArray⟩:ByteArray).size<=6:=by
      show(BK x k).toArray.size<=6
      rw[List.size_toArray,Na];omega
     have A0:=Za t2;generalize(⟨(BK x k).toArray⟩:ByteArray)=P at*;generalize uA x k=b8 at*;generalize x/10^k=c at*;obtain⟨m,hm⟩:∃m,c % 10=m:=⟨_,rfl⟩
     have f1:m<10:=by omega
     have L3:(c:Int).tmod 10=(m:Int):=by rw[Int.tmod_eq_emod_of_nonneg (by omega)];omega
     have C2:(b8.toNat:Int)=48+(m:Int):=by omega
     have M3:=BL m f1;have D2:=Za (HK.o.keep (Zt.alloc (F #[J .u8 (48+(m:Int))] 5)))
     have O3:(convert 50 9 (U (I ⟨wr.heap.size,0,Y⟩) 1 1)).run z2 (wr.alloc (F #[J .u8 (48+(m:Int))] 5))=.ok (C ⟨#[b8]⟩) (wr.alloc (F #[J .u8 (48+(m:Int))] 5)):=by
      have e:=run_convert_bytes_back (P:=z2) (wr.alloc (F #[J .u8 (48+(m:Int))] 5)) 50 9 5 ⟨wr.heap.size,0,Y⟩ 1 [b8] Tryz.underlying50 Tryz.underlying5 Tryz.underlying9 (by
       intro j hj
       have:j=0:=by simpa using hj
       subst this;rw[Yc]
       exact bC (heap_alloc_new wr _) 0 _ (by simp[C2]))
      simpa using e
     go_wp2_with fail;go_roundg (6-(k+1))
     case measure=>omega
     exact⟨k+1,by omega,rfl,by rw[<-B2.o],by rw[<-A0.o];congr 1,by go_num,D2⟩
    have l0:¬(k:Int)<6:=by omega
    obtain rfl:k=6:=by omega
    have E2:=Za (HK.o.re (S':=S6++(O.take 0).flatMap fun y=>s.flatMap fun z=>t.map (SF x y z)) (by simp) (E _));go_wp2_with fail
    go_loopg [12,17] O.length (fun m ov av wx=>∃b,b<=O.length/\m=O.length-b/\av=J V (b:Nat)/\A (KX w ps ov (S6++(O.take b).flatMap fun y=>s.flatMap fun z=>t.map (SF x y z)) (((a*33+b)*17+0)*33+0) wx))
    case atStart=>exact⟨0,by omega,rfl,rfl,E2⟩
    obtain⟨b,hb,rfl,rfl,HB⟩:=hrel;by_cases F2:b<O.length
    ·have G2:(b:Int)<(O.length:Int):=by omega
     have hy:=gE F2;have I2:=Za (fun f=>@P3 _ WC _ _ _ hy f);generalize O[b]=y at*;have HY:=Za hy;have J2:=Za (HB.o.re (S':=S6++(O.take b).flatMap (fun y=>s.flatMap fun z=>t.map (SF x y z))++(s.take 0).flatMap fun z=>t.map (SF x y z)) (by simp) (E _));generalize K2:S6++(O.take b).flatMap (fun y=>s.flatMap fun z=>t.map (SF x y z))=S8 at*;have L2:=Za K2;go_wp2_with fail
     go_loopg [12,18] s.length (fun m ov av wx=>∃c,c<=s.length/\m=s.length-c/\av=J V (c:Nat)/\A (KX w ps ov (S8++(s.take c).flatMap fun z=>t.map (SF x y z)) (((a*33+b)*17+c)*33+0) wx))
     case atStart=>exact⟨0,by omega,rfl,rfl,J2⟩
     obtain⟨c,hc,rfl,rfl,HC⟩:=hrel;by_cases M2:c<s.length
     ·have O2:(c:Int)<(s.length:Int):=by omega
      have hz:=gE M2;have P2:=Za (fun f=>@P3 _ WC _ _ _ hz f);generalize s[c]=z at*;have HZ:=Za hz;have Q2:=Za (HC.o.re (S':=S8++(s.take c).flatMap (fun z=>t.map (SF x y z))++(t.take 0).map (SF x y z)) (by simp) (E _));generalize R2:S8++(s.take c).flatMap (fun z=>t.map (SF x y z))=S9 at*;have S2:=Za R2;go_wp2_with fail
      go_loopg [12,19] t.length (fun m ov av wx=>∃d,d<=t.length/\m=t.length-d/\av=J V (d:Nat)/\A (KX w ps ov (S9++(t.take d).map (SF x y z)) (((a*33+b)*17+c)*33+d) wx))
      case atStart=>exact⟨0,by omega,rfl,rfl,Q2⟩
      obtain⟨d,hd,rfl,rfl,HD⟩:=hrel;by_cases T2:d<t.length
      ·have V2:(d:Int)<(t.length:Int):=by omega
       obtain⟨u,hu⟩:∃u,t[d]?=I u:=⟨_,gE T2⟩
       have W2:A ((t.take (d+1)).map (SF x y z)=(t.take d).map (SF x y z)++[SF x y z u]):=by show _=_;rw[z4,hu];simp
       obtain⟨g4,e4,_⟩:=HD.o.at m2.o HY.o;obtain⟨g6,e6,_⟩:=HD.o.at m3.o HZ.o;obtain⟨g5,e5,_⟩:=HD.o.at m4.o hu;obtain⟨oa,oc,eo⟩:=oL HD.o.ou;subst e4 e5 e6 eo
       have B0:A (∀W v S n,KX w ps v S n W->W.cell? ⟨g4,b,Y⟩=I (J V (y:Nat))/\W.cell? ⟨g6,c,Y⟩=I (J V (z:Nat))/\W.cell? ⟨g5,d,Y⟩=I (J V (u:Nat))):=fun W v S n h=>⟨h.get m2.o HY.o,h.get m3.o HZ.o,h.get m4.o hu⟩
       have Q3:=HD.o.le;have C0:=Za (HD.o.keep Zt.drew);generalize g1:S9++(t.take d).map (SF x y z)=i1 at*;have k1:=Za g1;generalize X2:i1.length=nn at*;have r1:=Za X2;go_upto_region 50 with fail;refine wp_region_held_drew (S:=fun W=>W.cell? ⟨g4,b,Y⟩=I (J V (y:Nat))/\W.cell? ⟨g6,c,Y⟩=I (J V (z:Nat))/\W.cell? ⟨g5,d,Y⟩=I (J V (u:Nat))) (by kernel_rfl) (B0.o _ _ _ _ C0.o) (fun hH=>?_)
       iterate 15 (refine YO 0 hH ?_;try go_frame)
       have D0:=Za (C0.o.keep (Zt.alloc (F #[C (LU x),J V (y:Nat),J V (z:Nat),J V (u:Nat)] 35)));refine Vv 15 (fun K hK=>?_);go_simp;refine hK.out _ _ (B0.o _ _ _ _ D0.o) (fun hH=>?_)
       try go_frame
       refine Vv 16 (fun K hK=>?_);refine wp_append_lies _ (.tmp 154) (.tmp 169) 94 rfl w.heap.size 35 ij _ 4 40 Tryz.underlying94 B1 C1 D1 E1 rfl (by decide) (U oa nn oc) nn (XQ i1) rfl ?o1 ⟨wr.drew.heap.size,0,Y⟩ 1 1 [C (LU x),J V (y:Nat),J V (z:Nat),J V (u:Nat)] rfl rfl ?o2 ?o3 (by decide) ?o4 ?o5 ?o6 _ rfl ?_
       case o1=>have e:=D0.o.ou;rw[r1.o]at e;exact e
       case o2=>exact z6 (aN wr.drew (F #[C (LU x),J V (y:Nat),J V (z:Nat),J V (u:Nat)] 35))
       case o3=>simp[x9]
       case o4=>unfold maxLen;omega
       case o5=>omega
       case o6=>exact D0.o.fr.size
       intro g2 f3 w8 M B h0 _;have t1:=Za (C0.o.more B (p:=SF x y z u) (by rw[r1.o];exact M));refine hK.out _ _ (B0.o _ _ _ _ t1.o) (fun hH=>?_)
       try go_frame
       refine ZX 17 hH ?_
       try go_frame
       refine wpAnyH_done (by kernel_rfl) ?_ _;go_wp2_with fail;go_roundg (t.length-(d+1))
       case measure=>omega
       exact⟨d+1,by omega,rfl,by go_num,by rw[W2.o,<-z8,k1.o];exact t1⟩
      have V2:¬(d:Int)<(t.length:Int):=by omega
      have Z2:=Za (HD.o.re (S':=S9++t.map (SF x y z)) (by rw[H (by omega)]) (show((a*33+b)*17+c)*33+d<=((a*33+b)*17+(c+1))*33+0 by omega));go_wp2_with fail;go_roundg (s.length-(c+1))
      case measure=>omega
      exact⟨c+1,by omega,rfl,by go_num,by rw[P2.o,<-z8,S2.o];exact Z2⟩
     have O2:¬(c:Int)<(s.length:Int):=by omega
     have A0:=Za (HC.o.re (S':=S8++s.flatMap fun z=>t.map (SF x y z)) (by rw[H (by omega)]) (show((a*33+b)*17+c)*33+0<=((a*33+(b+1))*17+0)*33+0 by omega));go_wp2_with fail;go_roundg (O.length-(b+1))
     case measure=>omega
     exact⟨b+1,by omega,rfl,by go_num,by rw[I2.o,<-z8,L2.o];exact A0⟩
    have G2:¬(b:Int)<(O.length:Int):=by omega
    have d3:=Za (HB.o.re (S':=S6++O.flatMap fun y=>s.flatMap fun z=>t.map (SF x y z)) (by rw[H (by omega)]) (show((a*33+b)*17+0)*33+0<=(((a+1)*33+0)*17+0)*33+0 by omega));go_wp2_with fail;go_roundg (Q.length-(a+1))
    case measure=>omega
    exact⟨a+1,by omega,rfl,by go_num,by rw[i2.o,c0.o];exact d3⟩
   have f2:¬(a:Int)<(Q.length:Int):=by omega
   have E0:=Za (HU.o.re (S':=Q.flatMap fun x=>O.flatMap fun y=>s.flatMap fun z=>t.map (SF x y z)) (by rw[H (by omega)]) (show(((a*33+0)*17+0)*33+0)<=400000 by omega));go_wp2_with fail;go_ret;exact⟨⟨_,rfl,_,E0.o.ou,d2.o.st E0.o.le⟩,E0.o.fr⟩
def GX (w W:z1)(D N:Nat)(Q:Nat->Bool->Prop):Prop:=∃a,W.ownsRow w.heap.size 4 1 (U (I ⟨D,0,Y⟩) N N) N a/\(∀k,k<N->∃b,a[k]?=I (z9 b)/\Q k b)/\F0 w W
theorem GX.fr {w W a D N Q}(h:GX w W D N Q)(b:F0 W a):GX w a D N Q:=by
 obtain⟨c,d,e,f⟩:=h;exact⟨c,oF d b,e,f.trans b⟩
theorem GX.weak {w W D N Q Q'}(h:GX w W D N Q)(c:∀k b,k<N->Q k b->Q' k b):GX w W D N Q':=by
 obtain⟨d,f,g,i⟩:=h;exact⟨d,f,fun k a=>let⟨b,e,j⟩:=g k a;⟨b,e,c k b a j⟩,i⟩
theorem GX.step {w W D N i Q Q'}(h:GX w W D N Q)(hi:i<N)(v)(d:∀k b,k<N->k≠i->Q k b->Q' k b)(f:Q' i v):GX w (W.setCell ⟨D,i,Y⟩ (z9 v)) D N Q'/\(∃u,W.cell? ⟨D,i,Y⟩=I u)/\W.frozen? ⟨D,i,Y⟩=false:=by
 obtain⟨o,a,g,j⟩:=h;have q:=a.1;obtain⟨l,_⟩:=a.stored i (z9 v);refine⟨⟨_,l,fun k c=>?_,j.setCell (p:=⟨D,i,Y⟩) (G (a.lt D rfl).1) _⟩,?_,a.frozenAt i⟩
 ·by_cases e:k=i
  ·subst e
   exact⟨v,by rw[List.getElem?_set_self (by omega)],f⟩
  obtain⟨b,m,n⟩:=g k c
  exact⟨b,by rw[List.getElem?_set_ne (by omega)];exact m,d k b c e n⟩
 rw[a.cellAt i (by omega),gE (by omega)]
 exact⟨_,rfl⟩
theorem BM {S i p}(h:S[i]?=I p):∀j v,[z3 p.pan,J V p.mcc,J V p.am,J V p.cur][j]?=I v->(XQ S)[i*4+j]?=I v:=by
 induction S generalizing i with
 |nil=>simp at h
 |cons q r c=>
  intro j v a;have b:=(iG.1 a).1;simp at b
  cases i with
  |zero=>
   simp at h;subst h
   show([z3 q.pan,J V q.mcc,J V q.am,J V q.cur]++XQ r)[0*4+j]?=_
   rw[Nat.zero_mul,q8,y0 (by simp;omega)];exact a
  |succ i=>
   show([z3 q.pan,J V q.mcc,J V q.am,J V q.cur]++XQ r)[(i+1)*4+j]?=_
   rw[aR (by simp;omega)];have:=c (by simpa using h) j v a;rw[<-this]
   congr 1
   simp;omega
theorem J6 {W:z1}{base n c j a S p}(h:W.ownsRow base 35 4 (U a n c) n (XQ S))(i:S.length=n)(b:S[j]?=I p):
  ∃g,a=I ⟨g,0,Y⟩/\W.cell? ⟨g,j*4,Y⟩=I (C p.pan)/\W.cell? ⟨g,j*4+1,Y⟩=I (J V p.mcc)/\W.cell? ⟨g,j*4+2,Y⟩=I (J V p.am)/\W.cell? ⟨g,j*4+3,Y⟩=I (J V p.cur):=by
 have l:=(iG.1 b).1;obtain⟨g,m,e,_⟩:=h.form (by omega);injection e with e _ f;subst e f
 have k:∀o v,[z3 p.pan,J V p.mcc,J V p.am,J V p.cur][o]?=I v->W.cell? ⟨g,j*4+o,Y⟩=I v:=fun o v d=>(h.cellAt _ (by have:=(iG.1 d).1;simp at this;omega)).trans (BM b o v d)
 exact⟨g,rfl,k 0 _ rfl,k 1 _ rfl,k 2 _ rfl,k 3 _ rfl⟩
theorem Lh:(z2.info? 4).map (fun i=>(i.zero,i.size,i.bytes))=I (I (z9 false),1,1):=by kernel_rfl
theorem EH (w q rts R)(h:Sm w q rts R)(hb:Yx rts R)(ha:∀r,r∈R->r.mcc.length<=4/\r.cur.length<=4):
  Calls z2 90 #[.pointer (I ⟨q,0,Y⟩)] w fun e w'=>∃D,e=.returned (U (I ⟨D,0,Y⟩) R.length R.length)/\GX w w' D R.length fun k b=>b=false↔∃p,Y5 p=true/\Qo R p=I k:=by
 obtain⟨ij,c0,d0,e0,f0⟩:=info_parts Lh
 have g0:=Za fun W B=>GH W q rts R (h.fr B) hb ha
 have h0:=Za fun W B p C=>Pd W q rts R p (h.fr (w':=W) B) hb C
 obtain⟨la,lc,a,_⟩:=h.c2;have i0:=hb.l8;obtain⟨N,hN⟩:∃N,R.length=N:=⟨_,rfl⟩;have HN:=Za hN;rw[hN]at i0 a ⊢;have j0:=run_make (P:=z2) w 95 4 ij _ Tryz.underlying95 c0 d0 V V (N:Int) (N:Int) (by omega) (by omega) (by rw[f0];omega) (by omega);rw[show(N:Int).toNat=N from by omega,e0,x6]at j0;have H2:=Za a
 have G:A (GX w (w.alloc (F (madeCells #[z9 false] N) 4)) w.heap.size N fun _ _=>True):=by
  have e:=toList_madeCells_one (z9 false) N;refine⟨(madeCells #[z9 false] N).toList,⟨by rw[Array.length_toList,size_madeCells,x6],.inr ⟨_,N,_,rfl,E _,aN w _,E _,by unfold maxLen;omega,by rw[size_madeCells,x6],?_⟩⟩,fun k l=>⟨false,?_,trivial⟩,Zt.alloc _⟩
  ·rw[H (by rw[Array.length_toList,size_madeCells,x6];exact E _)]
  show(madeCells #[z9 false] N).toList[k]?=_
  rw[e,List.getElem?_replicate,if_pos l]
 go_enter Tryz.func90,Tryz.ntmps90;go_wp2_with fail;generalize w.alloc _=W0 at*;obtain⟨D,hD⟩:∃D,w.heap.size=D:=⟨_,rfl⟩;rw[hD]at G ⊢
 go_loopg [4] N (fun m iv wr=>∃i,i<=N/\m=N-i/\iv=J V (i:Nat)/\A (GX w wr D N fun k b=>k<i->b=true))
 case atStart=>exact⟨0,by omega,rfl,rfl,G.o.weak fun k b _ _ h=>by omega⟩
 obtain⟨i,hi,rfl,rfl,HB⟩:=hrel;obtain⟨K,rfl⟩:∃K,K=wr:=⟨_,rfl⟩;obtain⟨_,_,_,B⟩:=HB.o;have a:=B.get H2.o;by_cases l0:i<N
 ·have m0:(i:Int)<(N:Int):=by omega
  obtain⟨hs,⟨uu,hu⟩,hz⟩:=HB.o.step l0 true (Q':=fun k b=>k<i+1->b=true) (fun k b _ l h hl=>h (by omega)) fun _=>rfl
  have s:=Za hs;go_wp2_with fail;generalize K.setCell _ _=W1 at*;go_wp2_with fail;go_roundg (N-(i+1))
  case measure=>omega
  exact⟨i+1,by omega,rfl,by go_num,s⟩
 have m0:¬(i:Int)<(N:Int):=by omega
 go_wp2_with fail;refine(g0.o K B).mono ?_;rintro _ w1 ⟨⟨v,S,rfl,ho,hS⟩,n0⟩;obtain⟨sa,sc,e⟩:=oL ho;subst e;have t:=Za ho;have L:=Za hS;have o0:=hS.1
 have p0:A (GX w w1 D N fun k b=>b=false↔∃p,p∈S.take 0/\Qo R p=I k):=(HB.o.fr n0).weak fun k b l h=>by simp[h (by omega)]
 obtain⟨n,hn⟩:∃n,S.length=n:=⟨_,rfl⟩;have u:=Za hn;rw[hn]at t o0 ⊢
 have q0:A (D<K.heap.size):=by
  obtain⟨_,f,_⟩:=HB.o;exact(f.lt D rfl).2
 go_wp2_with fail
 go_loopg [6] n (fun m iv wx=>∃j,j<=n/\m=n-j/\iv=J V (j:Nat)/\A (GX w wx D N fun k b=>b=false↔∃p,p∈S.take j/\Qo R p=I k)/\A (Fr (fun k=>k=D) w1 wx))
 case atStart=>exact⟨0,by omega,rfl,rfl,p0,Zt⟩
 obtain⟨j,hj,rfl,rfl,HJ,M⟩:=hrel;generalize wr=W at*;by_cases y0:j<n
 ·have r0:(j:Int)<(n:Int):=by omega
  obtain⟨p,C⟩:∃p,S[j]?=I p:=⟨_,gE (by have:=u.o;omega)⟩;obtain⟨g,e,k0,k1,k2,k3⟩:=J6 (oA t.o M.o fun k l e=>by have:=(t.o.lt k l).1;have:=q0.o;omega) u.o C;subst e;obtain⟨_,_,_,s0⟩:=HJ.o;have Q:=L.o.2.1 p (mG C);rw[Xu,O]at Q;have HC:=Za (h0.o W s0 p Q.1)
  have HT:=Za fun x=>@Pn _ S j p x C
  have y:A (p∈S.take (j+1)/\∀x,x∈S.take j->x∈S.take (j+1)):=by
   show _/\_
   rw[z4,C];simp
   exact fun x h=>Z h
  obtain⟨d,c⟩:∃d,Qo R p=d:=⟨_,rfl⟩;have z:=Za c;have T:=Za (Ur (Zv R) (YX R p (Zy p.pan)) R.length);unfold Qo at c;rw[c]at HC T;unfold UI at HC;go_wp2_with fail
  refine cf HC.o fun w2 X=>?_
  have a0:=Za (HJ.o.fr X);have b0:=Za (M.o.trans (X.mono))
  cases d with
  |none=>
   have t0:=Za (a0.o.weak (Q':=fun k b=>b=false↔∃p,p∈S.take (j+1)/\Qo R p=I k) fun k b _ h=>h.trans ⟨fun⟨x,f,a⟩=>⟨x,y.o.2 x f,a⟩,fun⟨x,f,a⟩=>by
    rcases HT.o x f with h|rfl
    ·exact⟨x,h,a⟩
    rw[z.o]at a;cases a⟩)
   unfold VW;go_wp2_with fail;go_roundg (n-(j+1))
   case measure=>omega
   exact⟨j+1,by omega,rfl,by go_num,t0,b0⟩
  |some k=>
   have v0:=HN.o▸T.o.1
   have z0:(k:Int)<(N:Int):=by omega
   have A0:(0:Int)<=(k:Int):=by omega
   obtain⟨hs,⟨uu,hu⟩,hz⟩:=a0.o.step v0 false (Q':=fun k b=>b=false↔∃p,p∈S.take (j+1)/\Qo R p=I k) (fun k' b _ l h=>h.trans ⟨fun⟨x,f,a⟩=>⟨x,y.o.2 x f,a⟩,fun⟨x,f,a⟩=>by
    rcases HT.o x f with h|rfl
    ·exact⟨x,h,a⟩
    rw[z.o]at a;injection a with a;exact absurd a.symm l⟩) ⟨fun _=>⟨p,y.o.1,z.o⟩,fun _=>rfl⟩
   have s:=Za hs;have w0:A (Fr (fun k=>k=D) w1 (w2.setCell ⟨D,k,Y⟩ (z9 false))):=b0.o.setCell (p:=⟨D,k,Y⟩) (Z rfl) _;unfold VW;go_wp2_with fail;go_roundg (n-(j+1))
   case measure=>omega
   exact⟨j+1,by omega,rfl,by go_num,s,w0⟩
 have r0:¬(j:Int)<(n:Int):=by omega
 have x0:=Za (HJ.o.weak (Q':=fun k b=>b=false↔∃p,Y5 p=true/\Qo R p=I k) fun k b _ h=>by rw[<-L.o.best];rw[H (by have:=u.o;omega)]at h;exact h);go_wp2_with fail;go_ret;exact⟨D,rfl,x0.o⟩
theorem vT {x}(h:x<=999999):ZQ (TP x 6)=LU x:=by
 have b:(LU x).size=6:=Na x 6;obtain⟨c,d⟩:=Lg h
 have f:Zd ⟨0,LU x,0⟩=x:=by
  have e:=d;rw[Zy,H (show(LU x).data.toList.length<=6 from k4 (Na x 6))]at e;exact e
 have e:=(QJ ⟨0,LU x,0⟩ ⟨by show(LU x).size<=9;omega,fun k g=>?_⟩ (by show 1<=(LU x).size;omega)).1
 ·rw[f]at e
  dsimp only at e
  rw[b]at e;exact congrArg ZQ e
 have a:k<(LU x).data.toList.length:=by simpa using g
 have:=(UM c).2.2 _ (j2 a)
 show 48<=ZC (LU x) k/\ZC (LU x) k<=57
 rw[ZC,gD,gE a,Option.getD_some];omega
theorem KY {l m n}(a:∀x,x∈l->x<=m)(h:((Yk l m).any fun s=>YY s n)=true):n<=m:=by
 obtain⟨s,b,hi⟩:=j3.1 h;unfold YY at hi;simp only[O,decide_eq_true_eq]at hi;rcases M4 b with⟨_,rfl⟩|⟨k,c,rfl⟩
 ·exact hi.2
 have:=a k c
 have:=hi.2
 dsimp only at this
 omega
theorem GI {l m n}(c:n<=m):((Yk l m).any fun s=>YY s n)=(decide (l=[])||Ul l (n:Int)):=by
 rw[Bool.eq_iff_iff,j3,x5,V5,decide_eq_true_eq];unfold Yk YY
 split
 ·rename_i e
  simp[e];omega
 rename_i e
 constructor
 ·rintro⟨s,a,h⟩
  obtain⟨x,b,rfl⟩:=x0.1 a;simp at h
  obtain rfl:x=n:=by omega
  exact G b
 exact fun h=>⟨(n,n),x0.2 ⟨n,h.resolve_left e,rfl⟩,by simp⟩
theorem Tt {r}(y)(h:y.p0<=999999/\y.p1<=9999/\y.p2<=1000000000/\y.p3<=999):V6 (Ua r) 4 y=V4 r (SF y.p0 y.p1 y.p2 y.p3):=by
 obtain⟨a,b,i,c⟩:=h;have d:Xv (Ua r) 1 y.p1=(decide (r.mcc=[])||Ul r.mcc (y.p1:Int)):=GI b;have e:Xv (Ua r) 3 y.p3=(decide (r.cur=[])||Ul r.cur (y.p3:Int)):=GI c
 have f:Xv (Ua r) 0 y.p0=(decide (sL r<=y.p0)&&decide (y.p0<sH r)):=by
  show([WN r.digits r.lo r.hi].any fun s=>YY s y.p0)=_
  have:0<sH r:=k6 (by omega) (k7 (by decide));simp only[j8,k5,j9,YY,WN]
  congr 1
  exact decide_eq_decide.2 (show y.p0<=sH r-1↔_ by omega)
 have g:Xv (Ua r) 2 y.p2=Mi r (SF y.p0 y.p1 y.p2 y.p3):=by
  show([if r.am.isSome=true then((r.am.getD (0,0)).1,(r.am.getD (0,0)).2)else(0,1000000000)].any fun s=>YY s y.p2)=_
  unfold Mi YY SF
  cases r.am with
  |none=>simp;omega
  |some j=>
   simp only[Option.isSome_some,if_true,Option.getD_some,j8,k5,j9]
   congr 1<;>exact decide_eq_decide.2 (by omega)
 show(Xv (Ua r) 0 y.p0&&(Xv (Ua r) 1 y.p1&&(Xv (Ua r) 2 y.p2&&(Xv (Ua r) 3 y.p3&&true))))=_
 rw[Us,V9,f,d,g,e,show(SF y.p0 y.p1 y.p2 y.p3).pan=LU y.p0 from rfl,(Lg a).2,Bool.and_true];rfl
theorem KZ {n r}(h:Tc n r)(e:Td r){p}(f:V6 (Ua r) 4 p=true):p.p0<=999999/\p.p1<=9999/\p.p2<=1000000000/\p.p3<=999:=by
 have a:(Xv (Ua r) 0 p.p0&&(Xv (Ua r) 1 p.p1&&(Xv (Ua r) 2 p.p2&&(Xv (Ua r) 3 p.p3&&true))))=true:=f;simp only[O]at a;obtain⟨g,i,j,c,_⟩:=a;refine⟨?_,KY e.mx i,?_,KY e.cx c⟩
 ·have c:YY (WN r.digits r.lo r.hi) p.p0=true:=by
   have:([WN r.digits r.lo r.hi].any fun s=>YY s p.p0)=true:=g
   simpa using this
  unfold YY WN at c;simp only[O,decide_eq_true_eq]at c;have:=(MI h).2;unfold sH at this;have d:0<(r.hi+1)*10^(6-r.digits):=k6 (by omega) (k7 (by decide));omega
 have b:YY (if r.am.isSome=true then((r.am.getD (0,0)).1,(r.am.getD (0,0)).2)else(0,1000000000)) p.p2=true:=by
  have:([if r.am.isSome=true then((r.am.getD (0,0)).1,(r.am.getD (0,0)).2)else(0,1000000000)].any fun s=>YY s p.p2)=true:=j
  simpa using this
 unfold YY at b;simp only[O,decide_eq_true_eq]at b
 cases d:r.am with
 |none=>rw[d]at b;simpa using b.2
 |some k=>
  rw[d]at b;have:=h.am k d;have l:=b.2;simp at l;omega
theorem xK {p}(a:Y5 p=true):∃y:Ry,(y.p0<=999999/\y.p1<=9999/\y.p2<=1000000000/\y.p3<=999)/\∀r,V4 r (SF y.p0 y.p1 y.p2 y.p3)=V4 r p:=by
 rw[Xu]at a;simp only[O,VX,decide_eq_true_eq]at a;obtain⟨b,⟨c,f⟩,⟨d,g⟩,e,h⟩:=a;have i:=JG b;refine⟨⟨Zy p.pan,p.mcc.toNat,p.am.toNat,p.cur.toNat⟩,⟨by show Zy p.pan<=_;omega,by show p.mcc.toNat<=_;omega,by show p.am.toNat<=_;omega,by show p.cur.toNat<=_;omega⟩,fun r=>?_⟩;rw[Us,Us]
 show(decide (sL r<=Zy (LU (Zy p.pan)))&&decide (Zy (LU (Zy p.pan))<sH r)&&V9 r (SF _ _ _ _))=_
 rw[(Lg (show Zy p.pan<=999999 by omega)).2];unfold V9 Mi SF;rw[z7 c,z7 d,z7 e]
theorem ww {y:Ry}(h:y.p0<=999999/\y.p1<=9999/\y.p2<=1000000000/\y.p3<=999):Y5 (SF y.p0 y.p1 y.p2 y.p3)=true:=by
 rw[Xu,SF,(Lg h.1).1];simp[VX];omega
theorem GJ {n r q}(h:Tc n r)(b:Td r){y}(d:Re (Ua r) (Ua q)=I y):Y5 (TC y.1)=true/\V4 r (TC y.1)=true/\V4 q (TC y.1)=true:=by
 obtain⟨c,f⟩:=KQ (fun i s g=>(Qt h b i s g).1) d;have a:=KZ h b c
 have e:TC y.1=SF y.1.p0 y.1.p1 y.1.p2 y.1.p3:=by rw[TC,SF,vT a.1]
 rw[e];exact⟨ww a,(Tt _ a).symm.trans c,(Tt _ a).symm.trans f⟩
theorem DL {a b m}(h:Qn a b=true)(c:∀x,x∈a->x<=m)(e:∀x,x∈b->x<=m):∃x,x<=m/\(decide (a=[])||Ul a (x:Int))=true/\(decide (b=[])||Ul b (x:Int))=true:=by
 simp only[x5,decide_eq_true_eq,V5];rcases(Du a b).1 h with rfl|rfl|⟨x,d,f⟩
 ·cases b with
  |nil=>exact⟨0,by omega,Z rfl,Z rfl⟩
  |cons x r=>exact⟨x,e x (by simp),Z rfl,G (by simp)⟩
 ·cases a with
  |nil=>exact⟨0,by omega,Z rfl,Z rfl⟩
  |cons x r=>exact⟨x,c x (by simp),G (by simp),Z rfl⟩
 exact⟨x,c x d,G d,G f⟩
theorem DM {a b x}(c:(decide (a=[])||Ul a x)=true)(d:(decide (b=[])||Ul b x)=true)(e:0<=x):Qn a b=true:=by
 obtain⟨k,rfl⟩:=Int.eq_ofNat_of_zero_le e;simp only[x5,decide_eq_true_eq,V5]at c d;rw[Du];rcases c with h|h
 ·exact Z h
 exact G (d.imp id fun f=>⟨k,h,f⟩)
theorem EI {r p}(a:0<=p.am)(b:p.am<=1000000000):Mi r p=true↔((aL r:Int)<=p.am/\p.am<=(aH r:Int)):=by
 unfold Mi aL aH
 cases r.am<;>simp<;>omega
theorem DN {n r s}(j:Tc n r)(a:Td r)(f:Td s):vI r s=true↔∃y,Re (Ua r) (Ua s)=I y:=by
 constructor
 ·intro h
  unfold vI at h;simp only[O,decide_eq_true_eq]at h;obtain⟨c,b,k,z⟩:=h;obtain⟨x,l,m,o⟩:=DL b a.mx f.mx;obtain⟨u,u1,u2,u3⟩:=DL k a.cx f.cx
  have A:aH r<=1000000000:=by
   unfold aH
   cases e:r.am with
   |none=>simp
   |some q=>have:=j.am q e;simp;omega
  have B:=(MI j).2;have g:(max (sL r) (sL s))<=999999/\x<=9999/\max (aL r) (aL s)<=1000000000/\u<=999:=⟨by omega,l,by omega,u1⟩
  cases t:Re (Ua r) (Ua s)with
  |some y=>exact⟨y,rfl⟩
  |none=>
   refine absurd ?_ (BE (fun i s v=>(Qt j a i s v).1) t ⟨max (sL r) (sL s),x,max (aL r) (aL s),u⟩);rw[Tt _ g,Tt _ g,Us,Us];have w:=(Lg g.1).2
   have C:∀r,aL r<=max (aL r) (aL s)->True:=fun _ _=>trivial
   simp only[V9,O,decide_eq_true_eq];rw[show Zy (SF (max (sL r) (sL s)) x (max (aL r) (aL s)) u).pan=max (sL r) (sL s)from w,EI (by show(0:Int)<=((_:Nat):Int);omega) (by show((max (aL r) (aL s):Nat):Int)<=_;omega),EI (by show(0:Int)<=((_:Nat):Int);omega) (by show((max (aL r) (aL s):Nat):Int)<=_;omega)]
   show((_/\_)/\_/\(((_:Nat):Int)<=((_:Nat):Int)/\((_:Nat):Int)<=_)/\_)/\(_/\_)/\_/\(((_:Nat):Int)<=((_:Nat):Int)/\((_:Nat):Int)<=_)/\_
   exact⟨⟨⟨by omega,by omega⟩,m,⟨by omega,by omega⟩,u2⟩,⟨by omega,by omega⟩,o,⟨by omega,by omega⟩,u3⟩
 rintro⟨y,g⟩
 obtain⟨d,c,b⟩:=GJ j a g;generalize TC y.1=p at*;rw[Xu]at d;simp only[O,VX,decide_eq_true_eq]at d;rw[Us,V9]at c b;simp only[O,decide_eq_true_eq]at c b;rw[EI d.2.2.1.1 d.2.2.1.2]at c b;unfold vI;simp only[O,decide_eq_true_eq];exact⟨by omega,DM c.2.1 b.2.1 d.2.1.1,DM c.2.2.2 b.2.2.2 d.2.2.2.1,by omega⟩
theorem GK {R p j r}(d:R[j]?=I r):Qo R p=I j↔V4 r p=true/\∀i q,R[i]?=I q->(r.rank<q.rank\/(q.rank=r.rank/\i<j))->V4 q p=false:=by
 have a:=Ur (Zv R) (YX R p (Zy p.pan)) R.length
 have rk:∀{i q},R[i]?=I q->Zv R i=q.rank:=fun h=>by simp[Zv,h]
 unfold Qo
 constructor
 ·intro h
  rw[h]at a
  dsimp only at a
  rw[Tn R p j r d]at a;refine⟨a.2.1,fun i q c t=>?_⟩
  cases o:V4 q p with
  |false=>rfl
  |true=>
   have hi:=(iG.1 c).1
   have g:i≠j:=fun e=>by subst e;rw[d]at c;injection c with c;subst c;omega
   have:=a.2.2 i hi (by rw[Tn R p i q c];exact o) g;unfold Ss at this;rw[rk c,rk d]at this;omega
 rintro⟨l,s⟩
 have f:=(iG.1 d).1
 cases m:YF (Zv R) (YX R p (Zy p.pan)) R.length with
 |none=>
  rw[m]at a;have:=a j f;rw[Tn R p j r d,l]at this
  cases this
 |some b=>
  rw[m]at a
  dsimp only at a
  by_cases e:b=j
  ·rw[e]
  have c:=gE a.1
  have n:=a.2.2 j f (by rw[Tn R p j r d];exact l) (fun h=>e h.symm);have k:=a.2.1;rw[Tn R p b _ c]at k;unfold Ss at n;rw[rk c,rk d]at n;rw[s b _ c (by omega)]at k
  cases k
theorem xL {rts R}(k:Yx rts R)(l:∀r,r∈R->Td r){j r}(a:R[j]?=I r):Rz R j=true↔∃p,Y5 p=true/\Qo R p=I j:=by
 have g:=mG a;unfold Rz;rw[a]
 dsimp only
 rw[Gm (fun i s n=>(Qt (k.rl r g) (l r g) i s n).1)]
 constructor
 ·rintro⟨y,d,h⟩
  have b:=KZ (k.rl r g) (l r g) d;rw[Tt y b]at d;refine⟨_,ww b,(GK a).2 ⟨d,fun i q c e=>?_⟩⟩;rw[<-Tt y b];refine h _ ((Pk R j _ R.length).2 ⟨i,q,(iG.1 c).1,c,?_,rfl⟩);unfold BC;rw[c,a]
  simpa using e
 rintro⟨p,o,f⟩
 obtain⟨d,h⟩:=(GK a).1 f;obtain⟨y,b,m⟩:=xK o;refine⟨y,by rw[Tt y b,m];exact d,fun B t=>?_⟩;obtain⟨i,q,_,c,e,rfl⟩:=(Pk R j _ R.length).1 t;rw[Tt y b,m];refine h i q c ?_;unfold BC at e;rw[c,a]at e
 simpa using e
def GY (v b c d e:x4)(a:Nat):Obj:=F #[v,U Y 0 0,b,c,d,e,J V (a:Nat)] 58
def Cl (c:Nat->Nat)(v:x4)(t:Nat):Prop:=∀k,v.ownBlock=I k->c k=t
def Wz (w:z1)(c a:Nat->Nat):Prop:=∀k,k<w.heap.size->a k=c k
abbrev SG (Q:List Nat)(c:Nat->Nat)(w w':z1):Prop:=Fr (fun k=>c k∈Q) w w'
theorem Wz.trans {w w' c a d}(h:Wz w c a)(k:Wz w' a d)(b:w.heap.size<=w'.heap.size):Wz w c d:=fun i hi=>(k i (nL hi b)).trans (h i hi)
theorem SG.cls {Q w a w2 c c1 S}(h:SG Q c w a)(b:Wz w c c1)(k:Fr S a w2)(d:∀i,S i->c1 i∈Q):SG Q c w w2:=
 h.monoNew k fun i hi=>(Nat.lt_or_ge i w.heap.size).imp (fun e=>b i e▸d i hi) id
def GZ (s:Nat)(m:ByteArray):List x4:=if s=1 then[C m]else[C m,C m,C ByteArray.empty,J V 0,J V 0,J V 0]
def uP (c:Nat->Nat)(w:z1)(t:Nat)(d:TypeId)(s:Nat)(e:J9):Prop:=
 ∀k,k<e.n->∃g,e.a=I ⟨g,0,Y⟩/\c g=t/\∃b,w.heap[g]?=I (F b d)/\∀j v,(GZ s e.m)[j]?=I v->b[k*s+j]?=I v
theorem uP.keep {c a w w' t b s e S}(h:uP c w t b s e)(i:Fr S w w')(j:Wz w c a)(l:∀k,S k->c k≠t):uP a w' t b s e:=by
 intro k m;obtain⟨g,n,d,o,f,p⟩:=h k m;exact⟨g,n,(j g (iA.1 f).1).trans d,o,i.whole f (fun h=>l g h d),p⟩
structure LV (c:Nat->Nat)(w:z1)(L tn tm tl:Nat)(tR tE:TypeId)(s:Nat)(nv mv:x4)(es pend:List J9):Prop where
 nm:w.ownsRow (L+1) tR 1 nv (es++pend).length ((es++pend).map J9.val)
 nc:Cl c nv tn
 ma:w.ownsRow (L+1) 9 1 mv es.length (es.map fun e=>z3 e.m)
 mc:Cl c mv tm
 el:∀e,e∈es++pend->uP c w tl tE s e
theorem XR {c d w w' b t n s e v f S}(h:w.ownsRow b e s v n f)(g:Cl c v t)(i:Fr S w w')(j:Wz w c d)(l:∀k,S k->c k≠t):w'.ownsRow b e s v n f/\Cl d v t:=
 ⟨oA h i fun k a m=>l k m (g k a),fun k a=>(j k (h.lt k a).2).trans (g k a)⟩
theorem LV.keep {c l w w' L tn d f m n s o p es a S}(h:LV c w L tn d f m n s o p es a)(g:Fr S w w')(i:Wz w c l)(j:∀k,S k->c k≠tn/\c k≠d/\c k≠f):LV l w' L tn d f m n s o p es a:=by
 obtain⟨q,r⟩:=XR h.nm h.nc g i fun k b=>(j k b).1
 obtain⟨t,u⟩:=XR h.ma h.mc g i fun k b=>(j k b).2.1
 exact⟨q,r,t,u,fun e v=>(h.el e v).keep g i fun k b=>(j k b).2.2⟩
theorem Po {c w w2 t g v o}(b:Cl c v t)(i:(w.alloc o).grownBy w2 v.ownBlock)(a:v.ownBlock=I g\/w.heap.size<=g):∃d,Wz w c d/\d g=t/\Fr (fun k=>c k=t) w w2:=by
 refine⟨fun k=>if k=g then t else c k,fun k f=>?_,if_pos rfl,(Zt.alloc o).grown i fun k f=>Z (b k f)⟩
 dsimp only
 split
 ·rename_i e
  subst e;exact(a.elim (fun h=>b k h) fun h=>by omega).symm
 rfl
theorem P4 {c g n cap t}(h:c g=t):Cl c (U (I ⟨g,0,Y⟩) n cap) t:=fun k a=>by
 obtain rfl:k=g:=by simpa[x7]using a.symm
 exact h
def yB (c:Nat->Nat)(w:z1)(L f:Nat)(h:TypeId)(s:Nat)(b:x4)(n:Nat)(x:ByteArray)(es:List J9):Prop:=
 ∃d,w.ownsRow (L+1) h s b n d/\(∀k j v,k<n->(GZ s x)[j]?=I v->d[k*s+j]?=I v)/\Cl c b f/\∀e,e∈es->∀k,k<e.n->∀g,e.a=I ⟨g,0,Y⟩->b.ownBlock=I g->e.m=x/\e.n<=n
theorem yB.keep {c b w w' L a d s e n x es S}(h:yB c w L a d s e n x es)(f:Fr S w w')(g:Wz w c b)(i:∀k,S k->c k≠a):yB b w' L a d s e n x es:=by
 obtain⟨j,l,m,o,p⟩:=h;obtain⟨q,r⟩:=XR l o f g i;exact⟨j,q,m,r,p⟩
theorem K0 {w:z1}{b n c g s e j}(h:w.ownsRow b e s (U (I ⟨g,0,Y⟩) n c) n j):∃a:Array x4,w.heap[g]?=I (F a e)/\∀(k:Nat) v,j[k]?=I v->a[k]?=I v:=by
 rcases h.2 with⟨f,_⟩|⟨p,l,a,f,_,m,_,_,o,d⟩
 ·simp at f
 simp only[T.injEq,Option.some.injEq,Addr.mk.injEq,and_true,true_and]at f
 obtain⟨rfl,rfl⟩:=f;refine⟨a,m,fun k v i=>?_⟩;rw[<-d,List.getElem?_take]at i
 split at i
 ·simpa using i
 cases i
theorem LV.step1 {c w w2 L tn r f t m s u F es i n cap g2 d x o}(h:LV c w L tn r f t m s u F es [])(J:yB c w L f m s (U i n cap) n x es)(y:tn≠r/\tn≠f)(K:(w.alloc o).grownBy w2 u.ownBlock)(M:w2.ownsRow (L+1) t 1 (U (I ⟨g2,0,Y⟩) (es.length+1) d) (es.length+1) (es.map J9.val++[U i n cap]))(z:u.ownBlock=I g2\/w.heap.size<=g2):
  ∃l,Wz w c l/\LV l w2 L tn r f t m s (U (I ⟨g2,0,Y⟩) (es.length+1) d) F es [⟨i,n,cap,x⟩]/\yB l w2 L f m s (U i n cap) n x (es++[⟨i,n,cap,x⟩])/\Fr (fun k=>c k=tn) w w2:=by
 obtain⟨l,p,A,q⟩:=Po h.nc K z
 obtain⟨N,O⟩:=XR h.ma h.mc q p fun k b=>b▸y.1
 obtain⟨P,B,G,H,Q⟩:=J.keep q p fun k b=>b▸y.2
 refine⟨l,p,⟨by rw[lA,j4];exact M,P4 A,N,O,fun e a=>?_⟩,⟨P,B,G,H,fun e a k b g R S=>?_⟩,q⟩
 ·rcases j5.1 a with a|a
  ·exact(h.el e (by simp[a])).keep q p fun k b=>b▸y.2
  obtain rfl:=q9.1 a
  intro k b;obtain⟨g,W,e,_⟩:=B.form (by have:k<n:=b;omega);injection e with e _ T;subst e T;obtain⟨C,A,D⟩:=K0 B;exact⟨g,rfl,H g rfl,C,A,fun j v V=>D _ _ (G k j v b V)⟩
 rcases j5.1 a with a|a
 ·exact Q e a k b g R S
 obtain rfl:=q9.1 a
 exact⟨rfl,E _⟩
theorem LV.step2 {c w w2 L tn b d u j s v q es f y n g2 a x o}(h:LV c w L tn b d u j s v q es [f])(A:yB c w L d j s y n x (es++[f]))(B:f.m=x)(r:b≠tn/\b≠d)(D:(w.alloc o).grownBy w2 q.ownBlock)(E:w2.ownsRow (L+1) 9 1 (U (I ⟨g2,0,Y⟩) (es.length+1) a) (es.length+1) ((es.map fun e=>z3 e.m)++[C x]))(t:q.ownBlock=I g2\/w.heap.size<=g2):
  ∃g,Wz w c g/\LV g w2 L tn b d u j s v (U (I ⟨g2,0,Y⟩) (es.length+1) a) (es++[f]) []/\yB g w2 L d j s y n x (es++[f])/\Fr (fun k=>c k=b) w w2:=by
 obtain⟨g,l,F,p⟩:=Po h.mc D t
 obtain⟨G,H⟩:=XR h.nm h.nc p l fun k i=>i▸r.1
 refine⟨g,l,⟨by rw[j6];exact G,H,?_,P4 F,fun e z=>?_⟩,A.keep p l fun k i=>i▸r.2,p⟩
 ·rw[lA,j4]
  simpa[B]using E
 rw[j6]at z
 exact(h.el e z).keep p l fun k i=>i▸r.2
theorem LV.step3 {c w w2 L tn B i P q s Q R es z n cap g2 o x A}(h:LV c w L tn B i P q s Q R es [])(l1:w.ownsRow (L+1) q s (U z n cap) n A)(l2:∀k j v,k<n->(GZ s x)[j]?=I v->A[k*s+j]?=I v)(S:Cl c (U z n cap) i)(V:∀e,e∈es->∀k,k<e.n->∀g,e.a=I ⟨g,0,Y⟩->(T z n cap).ownBlock=I g->e.m=x/\e.n<=n)(W:i≠tn/\i≠B)(hs:(GZ s x).length=s)(X:w2.ownsRow (L+1) q s (U (I ⟨g2,0,Y⟩) (n+1) o) (n+1) (A++GZ s x))(d:(z=I ⟨g2,0,Y⟩/\Fr (fun k=>k=g2) w w2)\/(w.heap.size<=g2/\F0 w w2)):
  ∃C,Wz w c C/\LV C w2 L tn B i P q s Q R es []/\yB C w2 L i q s (U (I ⟨g2,0,Y⟩) (n+1) o) (n+1) x es/\Fr (fun k=>c k=i) w w2:=by
 have D:=l1.1
 have r:∀k j v,k<n+1->(GZ s x)[j]?=I v->(A++GZ s x)[k*s+j]?=I v:=fun k j v b E=>by
  have a0:=(iG.1 E).1;have b0:k*s+s=(k+1)*s:=(Nat.succ_mul k s).symm;by_cases t:k<n
  ·have:(k+1)*s<=n*s:=Nat.mul_le_mul_right _ t
   rw[y0 (by omega)];exact l2 k j v t E
  obtain rfl:k=n:=by omega
  rw[aR (by omega),D,Nat.add_sub_cancel_left];exact E
 obtain⟨F,u,G⟩:=K0 X
 have H:Fr (fun k=>c k=i) w w2:=d.elim (fun⟨e,f⟩=>f.mono fun k b=>S k (by rw[e,b];rfl)) fun h=>h.2.mono
 have J:Wz w c fun k=>if k=g2 then i else c k:=fun k b=>by
  dsimp only
  split
  ·rename_i e
   subst e;rcases d with⟨e,_⟩|⟨Z,_⟩
   ·exact(S k (by rw[e];rfl)).symm
   omega
  rfl
 refine⟨fun k=>if k=g2 then i else c k,J,?_,⟨_,X,r,P4 (if_pos rfl),fun e y k b g l K=>?_⟩,H⟩
 ·obtain⟨h1,h2⟩:=XR h.nm h.nc H J fun k b=>b▸W.1
  obtain⟨h3,h4⟩:=XR h.ma h.mc H J fun k b=>b▸W.2
  refine⟨h1,h2,h3,h4,fun e y k b=>?_⟩;obtain⟨g,l,K,cs,M,e4⟩:=h.el e y k b;by_cases N:g=g2
  ·subst N
   rcases d with⟨p,f⟩|⟨Z,f⟩
   ·obtain⟨O,hn⟩:=V e (by simpa using y) k b g l (by rw[p];rfl)
    exact⟨g,l,if_pos rfl,F,u,fun j v hv=>G _ _ (r k j v (by omega) (O▸hv))⟩
   have:=(iA.1 M).1
   omega
  exact⟨g,l,(if_neg N).trans K,cs,d.elim (fun h=>h.2.whole M N) fun h=>h.2.whole M,e4⟩
 obtain rfl:g=g2:=by simpa[x7]using K.symm
 rcases d with⟨p,f⟩|⟨Z,f⟩
 ·obtain⟨O,hn⟩:=V e y k b g l (by rw[p];rfl)
  exact⟨O,by omega⟩
 obtain⟨g',k1,_,cs,k3,_⟩:=h.el e (by simpa using y) k b
 rw[k1]at l;injection l with l;injection l with l;have:=(iA.1 k3).1;omega
