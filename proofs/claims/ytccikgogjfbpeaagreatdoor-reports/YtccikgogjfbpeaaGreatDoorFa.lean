import Derived.Test.YtccikgogjfbpeaaGreatDoorMf
open Option renaming some->I,none->U
open Go.Value renaming int->J,slice->O,slice->G,string->z2,oneCell'->z4
open Go.IntKind renaming i64->V,u8->x0
open Or renaming inl->Y,inr->E
open Nat renaming le_refl->Z,le_trans->C,zero_add->y0
open List renaming take_of_length_le->H,mem_cons_self->T,take_add_one->z0,append_assoc->z1,length_filter_le->z3,flatMap_append->z5,mem_flatMap->z6,take_length->z7,mem_cons->z8,mem_map->z9
open Go renaming Value->B,World->D
open Go.RowKit renaming Hid->L
open Go.Obj renaming cells->A
open Go.World renaming news_of_block->F
namespace Go.Proofs.YtccikgogjfbpeaaGreatDoor
set_option maxRecDepth 30000
set_option maxHeartbeats 8000000
open Go.RowKit
theorem Dy {w:D}{b g x:Nat}(a:b<=g)(h:w.heap[g]?=I (A #[J V (x:Nat)] 3)):w.ownsRow b 3 1 (G (I ⟨g,0,U⟩) 1 1) 1 (Zg [x]):=
 ⟨rfl,.inr ⟨g,1,_,rfl,a,h,Z _,by unfold maxLen;simp,by simp,by simp[Zg]⟩⟩
theorem Dz {w:D}{b g:Nat}(a:b<=g)(h:w.heap[g]?=I (A #[] 3)):w.ownsRow b 3 1 (G (I ⟨g,0,U⟩) 0 0) 0 (Zg []):=
 ⟨rfl,.inr ⟨g,0,_,rfl,a,h,Z _,by unfold maxLen;simp,by simp,by simp[Zg]⟩⟩
theorem Qd {α:Type}{R:List α}{i:Nat}{r x:α}(h:R[i]?=I r)(a:x∈R.take (i+1)):x∈R.take i\/x=r:=by
 rw[z0,h]at a
 simpa using a
theorem BF {w W:D}{o a:Obj}{g:Nat}(h:w.alloc o=W)(b:w.heap[g]?=I a):W.heap[g]?=I a:=(IOq (S:=fun _=>False) h).whole b (by simp)
theorem Fr.get {w W:D}(h:F0 w W){p:Addr}{v:B}(a:w.cell? p=I v):W.cell? p=I v:=(h.cell (bL w _ a) (by simp)).trans a
theorem Ae {w W:D}{o:Obj}(h:w.alloc o=W):W.heap.size=w.heap.size+1:=by rw[<-h];simp
def AP (R:List Zc)(b c d e:List Nat)(n:Nat):Prop:=
 Nd b 999999 (1+2*n) (fun x=>x=0\/∃r,r∈R/\(x=sL r\/x=sH r))/\Nd c 9999 (4*n) (fun x=>∃r,r∈R/\x∈r.mcc)/\Nd d 999 (4*n) (fun x=>∃r,r∈R/\x∈r.cur)/\Nd e 1000000000 (1+2*n) fun x=>x=0\/∃r,r∈R/\∃a,r.am=I a/\(x=a.1\/x=a.2+1)
structure DA (w:D)(X:Nat)(r:Zc)(ma:Option Addr)(mc:Nat)(ca:Option Addr)(cc:Nat)(pa:Option Addr)(pc:Nat)(W:D)(ps:List (B×List Nat)):Prop where
 rs:Rs W w.heap.size ps
 bx:W.heap[X]?=I (A (Ac r ma mc ca cc pa pc).toArray 170)
 fr:F0 w W
theorem DA.rot {w W:D}{X:Nat}{r:Zc}{a:Option Addr}{b:Nat}{c:Option Addr}{d:Nat}{e:Option Addr}{f:Nat}{p:B×List Nat}{g:List (B×List Nat)}(h:DA w X r a b c d e f W (p::g)):DA w X r a b c d e f W (g++[p]):=⟨h.rs.rot,h.bx,h.fr⟩
theorem DA.with {w W:D}{X:Nat}{r:Zc}{c:Option Addr}{d:Nat}{f:Option Addr}{g:Nat}{i:Option Addr}{j:Nat}{v:B}{l:List Nat}{b:List (B×List Nat)}(h:DA w X r c d f g i j W ((v,l)::b)){n m N:Nat}{Q:Nat->Prop}(o:Nd l m N Q)(s:N<=4000)(t:n<=10000000000)(M:Int)(u:M=(m:Nat)):
  Calls Tryz.prog 182 #[v,J V (n:Nat),J V M] W fun e w'=>∃a l',e=.returned a/\DA w X r c d f g i j w' ((a,l')::b)/\Nd l' m (N+1) fun y=>Q y\/y=n:=by
 refine(FP W _ v l b n m M u h.rs (C o.2.1 s) t h.fr.size).mono ?_;rintro _ w' ⟨a,l',rfl,x,z,p⟩;have q:=h.rs.1 _ (T ..);exact⟨a,l',rfl,⟨x,p.whole h.bx (oN q h.bx (by decide)),h.fr.monoNew p fun k A=>E (q.lt k A).1⟩,o.more z⟩
theorem DA.cells {w W:D}{X:Nat}{r:Zc}{a:Option Addr}{b:Nat}{c:Option Addr}{d:Nat}{e:Option Addr}{f:Nat}{g:List (B×List Nat)}(h:DA w X r a b c d e f W g):W.cell? ⟨X,2,U⟩=I (J V (r.digits:Nat))/\W.cell? ⟨X,3,U⟩=I (J V (r.lo:Nat))/\W.cell? ⟨X,4,U⟩=I (J V (r.hi:Nat))/\W.cell? ⟨X,5,U⟩=I (G a r.mcc.length b)/\W.cell? ⟨X,6,U⟩=I (G c r.cur.length d)/\W.cell? ⟨X,7,U⟩=I (.bool r.am.isSome)/\W.cell? ⟨X,8,U⟩=I (J V ((r.am.getD (0,0)).1:Nat))/\W.cell? ⟨X,9,U⟩=I (J V ((r.am.getD (0,0)).2:Nat)):=
 ⟨bC h.bx 2 _ rfl,bC h.bx 3 _ rfl,bC h.bx 4 _ rfl,bC h.bx 5 _ rfl,bC h.bx 6 _ rfl,bC h.bx 7 _ rfl,bC h.bx 8 _ rfl,bC h.bx 9 _ rfl⟩
def BZ (x k:Nat):UInt8:=UInt8.ofNat (48+x/10^k % 10)
def FQ (x:Nat):Nat->List UInt8
 |0=>[]
 |k+1=>BZ x k::FQ x k
theorem PG (x:Nat):∀j,(FQ x j).length=j
 |0=>rfl
 |j+1=>by rw[FQ,List.length_cons,PG x j]
def NM (x:Nat):ByteArray:=⟨(FQ x 6).toArray⟩
theorem Ls (x k:Nat):(BZ x k).toNat=48+x/10^k % 10:=by
 have:x/10^k % 10<10:=Nat.mod_lt _ (by decide);rw[BZ,UInt8.toNat_ofNat'];omega
theorem Ne {x:Nat}(h:x<=999999):Xv (NM x)=true/\Zz (NM x)=x:=by
 refine⟨?_,?_⟩
 ·simp only[Xv,NM,FQ,List.all_cons,List.all_nil,Ls,ByteArray.size,Bool.and_eq_true,decide_eq_true_eq]
  simp;omega
 ·simp only[Zz,NM,FQ,Yt,List.take_succ_cons,List.take_nil,List.foldl_cons,List.foldl_nil,Ls]
  simp;omega
def TQ (x y z u:Nat):ZI:=⟨NM x,(y:Nat),(z:Nat),(u:Nat)⟩
structure Mx (w:D)(ps:List (B×List Nat))(v:B)(S:List ZI)(n:Nat)(W:D):Prop where
 rs:Rs W w.heap.size ps
 ou:W.ownsRow w.heap.size 35 4 v S.length (XH S)
 fr:F0 w W
 le:S.length<=n
theorem Mx.keep {w W b:D}{c:List (B×List Nat)}{v:B}{S:List ZI}{n:Nat}(h:Mx w c v S n W)(a:F0 W b):Mx w c v S n b:=⟨h.rs.fr a (by simp),oF h.ou a (by simp),h.fr.trans a,h.le⟩
theorem Mx.re {w W:D}{a:List (B×List Nat)}{v:B}{S S':List ZI}{n b:Nat}(h:Mx w a v S n W)(e:S=S')(c:n<=b):Mx w a v S' b W:=by subst e;exact⟨h.rs,h.ou,h.fr,C h.le c⟩
theorem Mx.at {w W:D}{b:List (B×List Nat)}{v:B}{S:List ZI}{n:Nat}(h:Mx w b v S n W){a:Option Addr}{c:Nat}{l:List Nat}(d:(O a l.length c,l)∈b){k x:Nat}(e:l[k]?=I x):∃g,a=I ⟨g,0,U⟩/\W.cell? ⟨g,k,U⟩=I (J V (x:Nat)):=Zw.of (h.rs.1 _ d) k x e
theorem Mx.get {w W:D}{a:List (B×List Nat)}{v:B}{S:List ZI}{n:Nat}(h:Mx w a v S n W){g c:Nat}{l:List Nat}(b:(O (I ⟨g,0,U⟩) l.length c,l)∈a){k x:Nat}(d:l[k]?=I x):W.cell? ⟨g,k,U⟩=I (J V (x:Nat)):=by
 obtain⟨f,e,h⟩:=h.at b d;injection e with e;injection e with e;subst e;exact h
theorem Mx.more {w W w2:D}{d:List (B×List Nat)}{v:B}{S:List ZI}{n g m c:Nat}{p:ZI}{o:Obj}(h:Mx w d v S n W)(j:(W.alloc o).grownBy w2 v.ownBlock)(l:w2.ownsRow w.heap.size 35 4 (G (I ⟨g,0,U⟩) m c) (S.length+1) (XH S++[z2 p.pan,J V p.mcc,J V p.am,J V p.cur])):Mx w d (G (I ⟨g,0,U⟩) m c) (S++[p]) (n+1) w2:=by
 have f:=((Fr.refl (fun k=>v.ownBlock=I k) W).alloc o).grown j (fun k a=>Y a);refine⟨⟨fun q i=>oA (h.rs.1 q i) f (fun k a e=>?_),h.rs.2⟩,?_,h.fr.monoNew f fun k a=>E (h.ou.lt k a).1,by have:=h.le;simp;omega⟩
 ·rcases WW (h.rs.1 q i) h.ou (by decide)with b|b
  ·rw[b]at a;cases a
  ·exact b (a.trans e.symm)
 ·rw[lA,XH,z5]
  simpa[XH]using l
theorem QI {α β:Type}{l:List α}{k:Nat}{x:α}(h:l[k]?=I x)(f:α->List β):(l.take (k+1)).flatMap f=(l.take k).flatMap f++f x:=by
 rw[z0,h,z5];simp
theorem Dx.st {R:List Zc}{f g i j:List Nat}(h:Dx R f g i j)(n:(f.flatMap fun x=>g.flatMap fun y=>i.flatMap fun z=>j.map (TQ x y z)).length<=400000):Cz R (f.flatMap fun x=>g.flatMap fun y=>i.flatMap fun z=>j.map (TQ x y z)):=by
 obtain⟨_,k,_⟩:=h.b;obtain⟨_,o,_⟩:=h.a;obtain⟨_,_,q,_⟩:=h.m;obtain⟨_,_,r,_⟩:=h.c;refine⟨n,fun p e=>?_,fun p e=>?_⟩
 ·simp only[z6,z9]at e
  obtain⟨x,s,y,t,z,v,u,w,rfl⟩:=e;have:=q y t;have:=o z v;have:=r u w;rw[Y7,TQ,(Ne (k x s)).1];simp[XD];omega
 ·obtain⟨b,m,a,c,l,A,B,C,d⟩:=h.cover e
  exact⟨TQ b m a c,by simp only[z6,z9];exact⟨b,l,m,A,a,B,c,C,rfl⟩,d _ (Ne (k b l)).2 rfl rfl rfl⟩
theorem FR (m:Nat)(h:m<10):x0.wrap (48+(m:Int))=(48+(m:Int)):=by
 have:m=0\/m=1\/m=2\/m=3\/m=4\/m=5\/m=6\/m=7\/m=8\/m=9:=by omega
 rcases this with rfl|rfl|rfl|rfl|rfl|rfl|rfl|rfl|rfl|rfl<;>decide
theorem ST:(Tryz.prog.info? 35).map (fun i=>(i.zero,i.size,i.bytes))=I (I (.agg #[z2 ByteArray.empty,J V 0,J V 0,J V 0]),4,40):=by kernel_rfl
def K3 (l:List Nat)(o:Nat):Nat:=(l.filter fun x=>decide (o<=x)).length
theorem K4 (x:Nat)(r:List Nat)(o:Nat):K3 (x::r) o=(if o<=x then 1 else 0)+K3 r o:=by
 unfold K3;rw[List.filter_cons]
 split<;>simp_all<;>omega
theorem DB (l:List Nat)(o:Nat):K3 l (o+1)<=K3 l o/\(o∈l->K3 l (o+1)<K3 l o):=by
 induction l with
 |nil=>exact⟨Z _,fun h=>by cases h⟩
 |cons x r a=>
  obtain⟨c,b⟩:=a;rw[K4,K4];refine⟨by split<;>split<;>omega,fun h=>?_⟩;rcases z8.1 h with rfl|h
  ·rw[if_pos (Z _),if_neg (by omega)];omega
  ·have:=b h;split<;>split<;>omega
theorem K5 (w:D)(q:Nat)(S0:List Zd)(R:List Zc)(h:TO w q S0 R)(hb:YE S0 R)(ha:∀r,r∈R->r.mcc.length<=4/\r.cur.length<=4):
  Calls Tryz.prog 141 #[.pointer (I ⟨q,0,U⟩)] w fun e w'=>(∃v S,e=.returned v/\w'.ownsRow w.heap.size 35 4 v S.length (XH S)/\Cz R S)/\F0 w w':=by
 have T0:=Za hb;have HA:=Za ha;have Y1:=hb.l8;obtain⟨ii,V0,W0,X0,Y0⟩:=info_parts YZ;obtain⟨ij,Z1,a2,d2,f2⟩:=info_parts ST;obtain⟨la,lc,B0,h3⟩:=h.c2;have H3:=Za h3;clear h hb ha h3;obtain⟨N,hN⟩:∃N,R.length=N:=⟨_,rfl⟩;have HN:=Za hN;rw[hN]at Y1 B0;have H2:=Za B0;clear hN B0;go_enter Tryz.func141,Tryz.ntmps141;go_wp2_with fail;generalize hA:w.alloc _=A1;generalize hB:A1.alloc _=A2;generalize hC:A2.alloc _=A3;generalize hD:A3.alloc _=A4;have s1:=Ae hA;have s2:=Ae hB;have s3:=Ae hC
 have Z0:L (Rs A4 w.heap.size [(G (I ⟨w.heap.size,0,U⟩) 1 1,[0]),(G (I ⟨w.heap.size+1,0,U⟩) 0 0,[]),(G (I ⟨w.heap.size+1+1,0,U⟩) 0 0,[]),(G (I ⟨w.heap.size+1+1+1,0,U⟩) 1 1,[0])]):=by
  have e2:=F2 hB;have e3:=F2 hC;have e4:=F2 hD;rw[s1]at e2;rw[s2,s1]at e3;rw[s3,s2,s1]at e4;refine⟨fun p hp=>?_,by simp[Value.ownBlock];omega⟩;simp only[z8,List.not_mem_nil,or_false]at hp;rcases hp with rfl|rfl|rfl|rfl
  ·exact Dy (Z _) (BF hD (BF hC (BF hB (F2 hA))))
  ·exact Dz (by omega) (BF hD (BF hC e2))
  ·exact Dz (by omega) (BF hD e3)
  ·exact Dy (by omega) e4
 have d1:L (F0 w A4):=(((IOq hA).trans (IOq hB)).trans (IOq hC)).trans (IOq hD);clear hA hB hC hD s1 s2 s3
 go_loopg [3,4,5,6,7] N (fun m b1 m1 c1 a1 iv wr=>∃i l1 l2 l3 t,i<=N/\m=N-i/\iv=J V (i:Nat)/\L (Rs wr w.heap.size [(b1,l1),(m1,l2),(c1,l3),(a1,t)])/\L (AP (R.take i) l1 l2 l3 t i)/\L (F0 w wr))
 case atStart=>exact⟨0,[0],[],[],[0],by omega,rfl,rfl,Z0,by simp[AP,Nd,Za],d1⟩
 case round=>
  obtain⟨i,l1,l2,l3,t,hi,rfl,rfl,HR,HS,M⟩:=hrel;have Q:=M.o.get H2.o;by_cases B3:i<N
  ·have i2:(i:Int)<(N:Int):=by omega
   obtain⟨r,hr⟩:∃r,R[i]?=I r:=⟨_,gE (by have:=HN.o;omega)⟩;obtain⟨g,ma,mc,ca,cc,pa,pc,rfl,hc,hm,hu,_⟩:=H3.o i r hr;have e0:=Za (T0.o.rl r (mG hr));have e1:=Za (HA.o r (mG hr));have m0:=Za (fun x=>@Qd _ R i r x hr);have dr:=e0.o.bn.1
   have C3:r.lo<=1000000000:=by have:=e0.o.lo.1;omega
   have D3:r.hi<=1000000000:=by have:=e0.o.hi.1;omega
   obtain⟨v0,v1,v2,v3,v4,v5,v6,v7,v8,v9,j2,k2,r2⟩:=BD fun j v e=>M.o.get (hc j v e)
   have f1:=Za (And.intro hm hu);clear hc hr hm hu;go_upto_region 9 with fail;generalize hW:wr.alloc _=W1 at*;obtain⟨X,hX⟩:∃X,wr.heap.size=X:=⟨_,rfl⟩;have C0:L (DA w X r ma mc ca cc pa pc W1 [(u3,l1),(u4,l2),(u5,l3),(u6,t)]):=⟨HR.o.fr (IOq (S:=fun _=>False) hW) (by simp),hX▸F2 hW,M.o.trans (IOq hW)⟩;rw[hX];clear hW hX v0 v1 v2 v3 v4 v5 v6 v7 v8 v9 j2 k2 r2 Q HR M;obtain⟨y2,y3,y4,y5,y6,y7,y8,y9⟩:=C0.o.cells;obtain⟨n1,n2,n3,n4⟩:=HS.o;have D0:=Nc e0.o;go_wp2_with fail;refine Hz (Ss r.lo r.digits (sL r) W1 dr rfl D0.1) ?_;go_wp2_with fail;refine(C0.o.with n1 (by omega) (n:=sL r) (by omega) _ rfl).mono ?_;rintro _ w2 ⟨b2,E3,rfl,g1,i1⟩;have E0:=Za g1;clear g1 y2 y3 y4 y5 y6 y7 y8 y9 C0;obtain⟨y2,y3,y4,y5,y6,y7,y8,y9⟩:=E0.o.cells;go_wp2_with fail;refine Hz (Ss (r.hi+1) r.digits (sH r) w2 dr rfl D0.2) ?_;go_wp2_with fail;refine(E0.o.with i1 (by omega) (n:=sH r) (by omega) _ rfl).mono ?_;rintro _ w3 ⟨b3,l5,rfl,j1,k1⟩;have G0:=Za j1.rot
   have HB:=Za (k1.weak (show 1+2*i+1+1<=1+2*(i+1) by omega) (Q':=fun x=>x=0\/∃r,r∈R.take (i+1)/\(x=sL r\/x=sH r)) fun x hx=>by
    rcases hx with h|⟨r',h1,Q⟩
    ·exact Y (Y (Y h))
    ·rcases m0.o r' h1 with h|rfl
     ·exact Y (Y (E ⟨r',h,Q⟩))
     ·exact Q.elim (fun h=>Y (E h)) E)
   have N4:=Za n2;have N5:=Za n3;have N6:=Za n4;clear j1 i1 k1 y2 y3 y4 y5 y6 y7 y8 y9 E0 n1 n2 n3 n4 HS D0;obtain⟨y2,y3,y4,y5,y6,y7,y8,y9⟩:=G0.o.cells;obtain⟨K,hK⟩:∃K,r.mcc.length=K:=⟨_,rfl⟩;have b0:=Za hK
   have t2:K<=4:=by have:=e1.o;omega
   rw[hK]at y5;clear hK;go_wp2_with fail
   go_loopg [4,9] K (fun m mv kv wx=>∃k l',k<=K/\m=K-k/\kv=J V (k:Nat)/\L (DA w X r ma mc ca cc pa pc wx ((mv,l')::[(u5,l3),(u6,t),(b3,l5)]))/\L (Nd l' 9999 (4*i+k) fun x=>(∃r,r∈R.take i/\x∈r.mcc)\/x∈r.mcc.take k))
   case atStart=>exact⟨0,_,by omega,rfl,rfl,G0,N4.o.weak (by omega) (by simp)⟩
   case round=>
    obtain⟨k,l',hk,rfl,rfl,HK,HD⟩:=hrel;generalize wr=W at*;obtain⟨y2,y3,y4,y5,y6,y7,y8,y9⟩:=HK.o.cells;rw[b0.o]at y5;by_cases r1:k<K
    ·have n0:(k:Int)<(K:Int):=by omega
     obtain⟨x,hx⟩:∃x,r.mcc[k]?=I x:=⟨_,gE (by have:=b0.o;omega)⟩;obtain⟨gm,em,H0⟩:=(f1.o.1.fr HK.o.fr (by simp)) k x hx;subst em;have B2:=e0.o.mc.2 x (mG hx);go_wp2_with fail;refine(HK.o.with HD.o (by omega) (n:=x) (by omega) _ rfl).mono ?_;rintro _ w3 ⟨v',C2,rfl,h1,Q⟩;have I0:=Za h1
     have J0:=Za (Q.weak (Z _) (Q':=fun y=>(∃r,r∈R.take i/\y∈r.mcc)\/y∈r.mcc.take (k+1)) fun y hy=>by
      rcases hy with h|h
      ·exact Y (Y h)
      ·rcases Qd hx h with h|h
       ·exact Y (E h)
       ·exact E h)
     clear h1 Q y2 y3 y4 y5 y6 y7 y8 y9 H0 hx;go_wp2_with fail;go_roundg (K-(k+1))
     case measure=>omega
     case rel=>exact⟨k+1,_,by omega,rfl,by go_num,I0,J0⟩
    ·have n0:¬(k:Int)<(K:Int):=by omega
     obtain rfl:k=K:=by omega
     have HM:=Za (HD.o.weak (show 4*i+k<=4*(i+1) by omega) (Q':=fun x=>∃r,r∈R.take (i+1)/\x∈r.mcc) fun x ⟨r',h1,Q⟩=>by
      rcases m0.o r' h1 with h|rfl
      ·exact Y ⟨r',h,Q⟩
      ·exact E (by rw[<-b0.o,z7];exact Q))
     have t1:=Za HK.o.rot;obtain⟨lm,rfl⟩:∃lm,lm=l':=⟨_,rfl⟩;clear HK HD b0 G0 N4;obtain⟨K,hK⟩:∃K,r.cur.length=K:=⟨_,rfl⟩;have b0:=Za hK
     have t2:K<=4:=by have:=e1.o;omega
     rw[hK]at y6;clear hK;go_wp2_with fail
     go_loopg [5,10] K (fun m mv kv wx=>∃k l',k<=K/\m=K-k/\kv=J V (k:Nat)/\L (DA w X r ma mc ca cc pa pc wx ((mv,l')::[(u6,t),(b3,l5),(u4,lm)]))/\L (Nd l' 999 (4*i+k) fun x=>(∃r,r∈R.take i/\x∈r.cur)\/x∈r.cur.take k))
     case atStart=>exact⟨0,_,by omega,rfl,rfl,t1,N5.o.weak (by omega) (by simp)⟩
     case round=>
      obtain⟨k,l',hk,rfl,rfl,HK,HD⟩:=hrel;generalize wr=W at*;obtain⟨y2,y3,y4,y5,y6,y7,y8,y9⟩:=HK.o.cells;rw[b0.o]at y6;by_cases r1:k<K
      ·have n0:(k:Int)<(K:Int):=by omega
       obtain⟨x,hx⟩:∃x,r.cur[k]?=I x:=⟨_,gE (by have:=b0.o;omega)⟩;obtain⟨gm,em,H0⟩:=(f1.o.2.fr HK.o.fr (by simp)) k x hx;subst em;have B2:=e0.o.cu.2 x (mG hx);go_wp2_with fail;refine(HK.o.with HD.o (by omega) (n:=x) (by omega) _ rfl).mono ?_;rintro _ w3 ⟨v',C2,rfl,h1,Q⟩;have I0:=Za h1
       have J0:=Za (Q.weak (Z _) (Q':=fun y=>(∃r,r∈R.take i/\y∈r.cur)\/y∈r.cur.take (k+1)) fun y hy=>by
        rcases hy with h|h
        ·exact Y (Y h)
        ·rcases Qd hx h with h|h
         ·exact Y (E h)
         ·exact E h)
       clear h1 Q y2 y3 y4 y5 y6 y7 y8 y9 H0 hx;go_wp2_with fail;go_roundg (K-(k+1))
       case measure=>omega
       case rel=>exact⟨k+1,_,by omega,rfl,by go_num,I0,J0⟩
      ·have n0:¬(k:Int)<(K:Int):=by omega
       obtain rfl:k=K:=by omega
       have HC:=Za (HD.o.weak (show 4*i+k<=4*(i+1) by omega) (Q':=fun x=>∃r,r∈R.take (i+1)/\x∈r.cur) fun x ⟨r',h1,Q⟩=>by
        rcases m0.o r' h1 with h|rfl
        ·exact Y ⟨r',h,Q⟩
        ·exact E (by rw[<-b0.o,z7];exact Q))
       have x0:=Za HK.o.rot;clear HK HD b0 t1 N5
       cases ha:r.am with
       |none=>
        rw[ha]at y7
        have K0:=Za (N6.o.weak (show 1+2*i<=1+2*(i+1) by omega) (Q':=fun x=>x=0\/∃r,r∈R.take (i+1)/\∃ab,r.am=I ab/\(x=ab.1\/x=ab.2+1)) fun x hx=>by
         rcases hx with h|⟨r',h1,ab,Q,h3⟩
         ·exact Y h
         ·rcases m0.o r' h1 with h|rfl
          ·exact E ⟨r',h,ab,Q,h3⟩
          ·rw[ha]at Q;cases Q)
        have d0:=Za x0.o.rot;clear ha x0 N6;go_wp2_with fail;go_roundg (N-(i+1))
        case measure=>omega
        case rel=>exact⟨i+1,_,_,_,_,by omega,rfl,by go_num,d0.o.rs,⟨HB.o,HM.o,HC.o,K0.o⟩,d0.o.fr⟩
       |some ab=>
        rw[ha]at y7 y8 y9;have D2:=e0.o.am ab ha;simp only[Option.getD_some]at y8 y9;go_wp2_with fail;refine(x0.o.with N6.o (by omega) (n:=ab.1) (by omega) _ rfl).mono ?_;rintro _ w5 ⟨a5,l6,rfl,w1,B1⟩;have d0:=Za w1;clear w1 y2 y3 y4 y5 y6 y7 y8 y9 x0;obtain⟨y2,y3,y4,y5,y6,y7,y8,y9⟩:=d0.o.cells;rw[ha]at y9;simp only[Option.getD_some]at y9;go_wp2_with fail;refine(d0.o.with B1 (by omega) (n:=ab.2+1) (by omega) _ rfl).mono ?_;rintro _ w6 ⟨a6,l7,rfl,C1,D1⟩;have E1:=Za C1.rot
        have K0:=Za (D1.weak (show 1+2*i+1+1<=1+2*(i+1) by omega) (Q':=fun x=>x=0\/∃r,r∈R.take (i+1)/\∃ab,r.am=I ab/\(x=ab.1\/x=ab.2+1)) fun x hx=>by
         rcases hx with h|⟨r',h1,E2,Q,h3⟩
         ·exact Y (Y (Y h))
         ·rcases m0.o r' h1 with h|rfl
          ·exact Y (Y (E ⟨r',h,E2,Q,h3⟩))
          ·rw[ha]at Q
           injection Q with Q;subst Q
           exact h3.elim (fun h=>Y (E h)) E)
        clear C1 D1 B1 y2 y3 y4 y5 y6 y7 y8 y9 d0 N6 ha D2;go_wp2_with fail;go_roundg (N-(i+1))
        case measure=>omega
        case rel=>exact⟨i+1,_,_,_,_,by omega,rfl,by go_num,E1.o.rs,⟨HB.o,HM.o,HC.o,K0.o⟩,E1.o.fr⟩
  ·have i2:¬(i:Int)<(N:Int):=by omega
   obtain rfl:i=N:=by omega
   obtain⟨n1,n2,n3,n4⟩:=HS.o;rw[H (Nat.le_of_eq HN.o)]at n1 n2 n3 n4;have N1:=Za n1;have N2:=Za n2;have N3:=Za n3;have N4:=Za n4;have F3:=n2.2.1;have G3:=n3.2.1;have o0:=Za HR.o.rot;clear n1 n2 n3 n4 HS HR;obtain⟨va,vc,ev⟩:=oL (o0.o.1 _ (T ..))
   dsimp only at ev
   subst ev;have HO:=Za (o0.o.1 _ (T ..))
   dsimp only at HO
   have f0:=Za (fun o:Nat=>So _ va vc l2 o (Zw.of HO.o) (by omega));obtain⟨n,hn⟩:∃n,l2.length=n:=⟨_,rfl⟩;have g0:=Za hn;rw[hn]at f0 HO o0 ⊢
   have p0:n<=32:=by omega
   clear hn;go_wp2_with fail
   go_loopg [11] (K3 l2 0) (fun m ov wx=>∃o:Nat,ov=J V (o:Nat)/\m=K3 l2 o/\wr=wx/\L (o+K3 l2 o<=n))
   case atStart=>exact⟨0,rfl,rfl,rfl,by show _<=_;rw[<-g0.o];unfold K3;rw[y0];exact z3 ..⟩
   case round=>
    obtain⟨o,rfl,rfl,rfl,HG⟩:=hrel;have ho:=HG.o
    have q0:o<=32:=by omega
    clear ho;go_wp2_with fail;refine Hz (f0.o o) ?_
    cases c0:Vo l2 (o:Int)with
    |true=>
     have h1:=(DB l2 o).2 ((VK _ _).1 c0);go_wp2_with fail;go_roundg (K3 l2 (o+1))
     case measure=>exact h1
     case rel=>exact⟨o+1,by go_num,rfl,rfl,by have:=HG.o;show _<=_;omega⟩
    |false=>
     have r0:L (o∉l2):=fun h=>by rw[(VK _ _).2 h]at c0;cases c0
     clear c0
     go_wp2_with (at_builtin;refine wpList_append_lies _ rfl (.tmp 99) (.tmp 101) 25 rfl w.heap.size 3 ii _ 1 8 Tryz.underlying25 V0 W0 X0 Y0 rfl (by decide) (G va n vc) n (Zg l2) rfl ?p1 ⟨wr.heap.size,0,U⟩ 1 1 [J V (o:Nat)] rfl rfl ?p2 ?p3 (by decide) ?p4 ?p5 ?p6 _ rfl ?p7)
     case p1=>exact HO.o.alloc _
     case p2=>exact F (aN wr (A #[J V (o:Nat)] 3))
     case p3=>simp[z4]
     case p4=>unfold maxLen;omega
     case p5=>omega
     case p6=>have:=M.o.size;simp;omega
     case p7=>
      intro gp F1 wp a0 s h0 _;have i0:=Za (o0.o.grow ((Fr.refl _ _).alloc _) s (l':=l2++[o]) (by rw[Xl,lA,g0.o];exact a0) (h0.imp id (by omega)));have s0:=Za (M.o.monoNew i0.o.2 fun k hk=>E (HO.o.lt k hk).1);have k0:=Za i0.o.1.rot;have L0:L (∃m,m∈l2++[o]/\m∉l2):=⟨o,by simp,r0.o⟩;have t0:=Za (N2.o.more (E ⟨rfl,C q0 (by decide)⟩));obtain⟨lp,G1⟩:∃l,l2++[o]=l:=⟨_,rfl⟩;rw[G1]at k0 L0 t0;generalize O (I ⟨gp,0,U⟩) (n+1) F1=vp at*;clear a0 s h0 HO i0 r0 o0 f0 HG G1 M g0 p0;have M:=s0;clear s0;obtain⟨va,vc,ev⟩:=oL (k0.o.1 _ (T ..))
      dsimp only at ev
      subst ev;have HO:=Za (k0.o.1 _ (T ..))
      dsimp only at HO
      have f0:=Za (fun o:Nat=>So _ va vc l3 o (Zw.of HO.o) (by omega));obtain⟨n,hn⟩:∃n,l3.length=n:=⟨_,rfl⟩;have g0:=Za hn;rw[hn]at f0 HO k0 ⊢
      have p0:n<=32:=by omega
      clear hn;go_wp2_with fail
      go_loopg [11] (K3 l3 0) (fun m ov wx=>∃o:Nat,ov=J V (o:Nat)/\m=K3 l3 o/\wp=wx/\L (o+K3 l3 o<=n))
      case atStart=>exact⟨0,rfl,rfl,rfl,by show _<=_;rw[<-g0.o];unfold K3;rw[y0];exact z3 ..⟩
      case round=>
       obtain⟨o,rfl,rfl,rfl,HG⟩:=hrel;have ho:=HG.o
       have q0:o<=32:=by omega
       clear ho;go_wp2_with fail;refine Hz (f0.o o) ?_
       cases c0:Vo l3 (o:Int)with
       |true=>
        have h1:=(DB l3 o).2 ((VK _ _).1 c0);go_wp2_with fail;go_roundg (K3 l3 (o+1))
        case measure=>exact h1
        case rel=>exact⟨o+1,by go_num,rfl,rfl,by have:=HG.o;show _<=_;omega⟩
       |false=>
        have r0:L (o∉l3):=fun h=>by rw[(VK _ _).2 h]at c0;cases c0
        clear c0
        go_wp2_with (at_builtin;refine wpList_append_lies _ rfl (.tmp 108) (.tmp 110) 25 rfl w.heap.size 3 ii _ 1 8 Tryz.underlying25 V0 W0 X0 Y0 rfl (by decide) (G va n vc) n (Zg l3) rfl ?q1 ⟨wp.heap.size,0,U⟩ 1 1 [J V (o:Nat)] rfl rfl ?q2 ?q3 (by decide) ?q4 ?q5 ?q6 _ rfl ?q7)
        case q1=>exact HO.o.alloc _
        case q2=>exact F (aN wp (A #[J V (o:Nat)] 3))
        case q3=>simp[z4]
        case q4=>unfold maxLen;omega
        case q5=>omega
        case q6=>have:=M.o.size;simp;omega
        case q7=>
         intro gq H1 wq a0 s h0 _;have i0:=Za (k0.o.grow ((Fr.refl _ _).alloc _) s (l':=l3++[o]) (by rw[Xl,lA,g0.o];exact a0) (h0.imp id (by omega)));have s0:=Za (M.o.monoNew i0.o.2 fun k hk=>E (HO.o.lt k hk).1);have j0:=Za i0.o.1.rot;have M0:L (∃m,m∈l3++[o]/\m∉l3):=⟨o,by simp,r0.o⟩;have w0:=Za (N3.o.more (E ⟨rfl,C q0 (by decide)⟩));obtain⟨B,I1⟩:∃l,l3++[o]=l:=⟨_,rfl⟩;rw[I1]at j0 M0 w0;generalize O (I ⟨gq,0,U⟩) (n+1) H1=vq at*;clear a0 s h0 HO i0 r0 k0 f0 HG I1 M g0 p0;have M:=s0;clear s0;have I3:=N1.o.2.1;have J3:=N4.o.2.1;have L3:=t0.o.2.1;have M3:=w0.o.2.1;obtain⟨a3,c3,e3⟩:=oL (j0.o.1 (u3,l1) (by simp));obtain⟨a4,c4,e4⟩:=oL (j0.o.1 (vp,lp) (by simp));obtain⟨a5,c5,e5⟩:=oL (j0.o.1 (vq,B) (by simp));obtain⟨a6,c6,e6⟩:=oL (j0.o.1 (u6,t) (by simp))
         dsimp only at e3 e4 e5 e6
         subst e3 e4 e5 e6;obtain⟨ps,l0⟩:∃ps,[(O a6 t.length c6,t),(O a3 l1.length c3,l1),(O a4 lp.length c4,lp),(O a5 B.length c5,B)]=ps:=⟨_,rfl⟩;have G2:L (Mx w ps (G U 0 0) [] 0 wq):=⟨l0▸j0.o,oZ _ _ _ _,M.o,Z _⟩;have I2:=Za N1.o.1
         have m1:L ((O a3 l1.length c3,l1)∈ps):=by show _∈_;rw[<-l0];simp
         have m2:L ((O a4 lp.length c4,lp)∈ps):=by show _∈_;rw[<-l0];simp
         have m3:L ((O a6 t.length c6,t)∈ps):=by show _∈_;rw[<-l0];simp
         have m4:L ((O a5 B.length c5,B)∈ps):=by show _∈_;rw[<-l0];simp
         have J2:L (Dx R l1 lp t B):=by
          obtain⟨x,x1,x2⟩:=L0.o;obtain⟨y,y1,y2⟩:=M0.o;exact⟨⟨_,N1.o⟩,⟨_,N4.o⟩,⟨⟨x,x1,fun r hr h=>x2 (N2.o.2.2 x ⟨r,hr,h⟩ (t0.o.1 x x1))⟩,_,t0.o.weak (Z _) fun _ h=>Y h⟩,⟨y,y1,fun r hr h=>y2 (N3.o.2.2 y ⟨r,hr,h⟩ (w0.o.1 y y1))⟩,_,w0.o.weak (Z _) fun _ h=>Y h⟩
         clear N1 N2 N3 N4 t0 w0 L0 M0 j0 l0 M T0 HA H3 HN H2 Z0 d1;go_wp2_with fail
         go_loopg [12,13] l1.length (fun m ov av wx=>∃a,a<=l1.length/\m=l1.length-a/\av=J V (a:Nat)/\L (Mx w ps ov ((l1.take a).flatMap fun x=>lp.flatMap fun y=>t.flatMap fun z=>B.map (TQ x y z)) (((a*33+0)*17+0)*33+0) wx))
         case atStart=>exact⟨0,by omega,rfl,rfl,G2⟩
         case round=>
          obtain⟨a,ha,rfl,rfl,HU⟩:=hrel;generalize wr=W at*;by_cases J1:a<l1.length
          ·have K2:(a:Int)<(l1.length:Int):=by omega
           have hx:=gE J1;have L2:=Za (fun f=>@QI _ ZI _ _ _ hx f);obtain⟨g,eg,hc⟩:=HU.o.at m1.o hx;subst eg;have M2:=I2.o _ (List.getElem_mem J1);generalize l1[a]=x at*;generalize K1:(l1.take a).flatMap (fun x=>lp.flatMap fun y=>t.flatMap fun z=>B.map (TQ x y z))=S6 at*;have d0:=Za K1;clear hx K1;go_wp2_with fail;clear hc
           go_loopg [14,15,16] 6 (fun m pv nv kv wx=>∃k,k<=6/\m=6-k/\pv=z2 ⟨(FQ x k).toArray⟩/\nv=J V ((x/10^k:Nat):Int)/\kv=J V (k:Nat)/\L (Mx w ps u12 S6 (((a*33+0)*17+0)*33+0) wx))
           case atStart=>exact⟨0,by omega,rfl,rfl,by simp,rfl,HU⟩
           case round=>
            obtain⟨k,hk,rfl,rfl,rfl,rfl,HK⟩:=hrel;by_cases r1:k<6
            ·have n0:(k:Int)<6:=by omega
             have O3:x/10^k<=999999:=C (Nat.div_le_self _ _) M2
             have L1:x/10^k/10=x/10^(k+1):=by rw[Nat.div_div_eq_div_mul,Nat.pow_succ]
             have O2:=Ls x k;have P2:L ((⟨#[BZ x k]⟩:ByteArray)++⟨(FQ x k).toArray⟩=⟨(FQ x (k+1)).toArray⟩):=ByteArray.ext (by simp[FQ])
             have P3:(⟨(FQ x k).toArray⟩:ByteArray).size<=6:=by
              show(FQ x k).toArray.size<=6
              rw[List.size_toArray,PG];omega
             have N0:=Za L1;generalize(⟨(FQ x k).toArray⟩:ByteArray)=P at*;generalize BZ x k=b8 at*;generalize x/10^k=c at*;obtain⟨m,hm⟩:∃m,c % 10=m:=⟨_,rfl⟩
             have M1:m<10:=by omega
             have Q3:(c:Int).tmod 10=(m:Int):=by rw[Int.tmod_eq_emod_of_nonneg (by omega)];omega
             have O1:(b8.toNat:Int)=48+(m:Int):=by omega
             have R3:=FR m M1;have Q2:=Za (HK.o.keep ((Fr.refl _ _).alloc (A #[J .u8 (48+(m:Int))] 5)))
             have S3:(convert 50 9 (G (I ⟨wr.heap.size,0,U⟩) 1 1)).run Tryz.prog (wr.alloc (A #[J .u8 (48+(m:Int))] 5))=.ok (z2 ⟨#[b8]⟩) (wr.alloc (A #[J .u8 (48+(m:Int))] 5)):=by
              have e:=run_convert_bytes_back (P:=Tryz.prog) (wr.alloc (A #[J .u8 (48+(m:Int))] 5)) 50 9 5 ⟨wr.heap.size,0,U⟩ 1 [b8] Tryz.underlying50 Tryz.underlying5 Tryz.underlying9 (by
               intro j hj
               have:j=0:=by simpa using hj
               subst this;rw[YN]
               exact bC (heap_alloc_new wr _) 0 _ (by simp[O1]))
              simpa using e
             clear hm O1 O2 L1;go_wp2_with fail;go_roundg (6-(k+1))
             case measure=>omega
             case rel=>exact⟨k+1,by omega,rfl,by rw[<-P2.o],by rw[<-N0.o];congr 1,by go_num,Q2⟩
            ·have n0:¬(k:Int)<6:=by omega
             obtain rfl:k=6:=by omega
             have R2:=Za (HK.o.re (S':=S6++(lp.take 0).flatMap fun y=>t.flatMap fun z=>B.map (TQ x y z)) (by simp) (Z _));clear HU HK;go_wp2_with fail
             go_loopg [12,17] lp.length (fun m ov av wx=>∃b,b<=lp.length/\m=lp.length-b/\av=J V (b:Nat)/\L (Mx w ps ov (S6++(lp.take b).flatMap fun y=>t.flatMap fun z=>B.map (TQ x y z)) (((a*33+b)*17+0)*33+0) wx))
             case atStart=>exact⟨0,by omega,rfl,rfl,R2⟩
             case round=>
              obtain⟨b,hb,rfl,rfl,HB⟩:=hrel;by_cases S2:b<lp.length
              ·have T2:(b:Int)<(lp.length:Int):=by omega
               have hy:=gE S2;have V2:=Za (fun f=>@QI _ ZI _ _ _ hy f);generalize lp[b]=y at*;have HY:=Za hy;have W2:=Za (HB.o.re (S':=S6++(lp.take b).flatMap (fun y=>t.flatMap fun z=>B.map (TQ x y z))++(t.take 0).flatMap fun z=>B.map (TQ x y z)) (by simp) (Z _));generalize P1:S6++(lp.take b).flatMap (fun y=>t.flatMap fun z=>B.map (TQ x y z))=S8 at*;have X2:=Za P1;clear hy HB P1;go_wp2_with fail
               go_loopg [12,18] t.length (fun m ov av wx=>∃c,c<=t.length/\m=t.length-c/\av=J V (c:Nat)/\L (Mx w ps ov (S8++(t.take c).flatMap fun z=>B.map (TQ x y z)) (((a*33+b)*17+c)*33+0) wx))
               case atStart=>exact⟨0,by omega,rfl,rfl,W2⟩
               case round=>
                obtain⟨c,hc,rfl,rfl,HC⟩:=hrel;by_cases Y2:c<t.length
                ·have Z2:(c:Int)<(t.length:Int):=by omega
                 have hz:=gE Y2;have d3:=Za (fun f=>@QI _ ZI _ _ _ hz f);generalize t[c]=z at*;have HZ:=Za hz;have f3:=Za (HC.o.re (S':=S8++(t.take c).flatMap (fun z=>B.map (TQ x y z))++(B.take 0).map (TQ x y z)) (by simp) (Z _));generalize Q1:S8++(t.take c).flatMap (fun z=>B.map (TQ x y z))=S9 at*;have g3:=Za Q1;clear hz HC Q1;go_wp2_with fail
                 go_loopg [12,19] B.length (fun m ov av wx=>∃d,d<=B.length/\m=B.length-d/\av=J V (d:Nat)/\L (Mx w ps ov (S9++(B.take d).map (TQ x y z)) (((a*33+b)*17+c)*33+d) wx))
                 case atStart=>exact⟨0,by omega,rfl,rfl,f3⟩
                 case round=>
                  obtain⟨d,hd,rfl,rfl,HD⟩:=hrel;by_cases i3:d<B.length
                  ·have j3:(d:Int)<(B.length:Int):=by omega
                   obtain⟨u,hu⟩:∃u,B[d]?=I u:=⟨_,gE i3⟩
                   have k3:L ((B.take (d+1)).map (TQ x y z)=(B.take d).map (TQ x y z)++[TQ x y z u]):=by show _=_;rw[z0,hu];simp
                   obtain⟨g4,e4,_⟩:=HD.o.at m2.o HY.o;obtain⟨g6,e6,_⟩:=HD.o.at m3.o HZ.o;obtain⟨g5,e5,_⟩:=HD.o.at m4.o hu;obtain⟨oa,oc,eo⟩:=oL HD.o.ou;subst e4 e5 e6 eo
                   have O0:L (∀W v S n,Mx w ps v S n W->W.cell? ⟨g4,b,U⟩=I (J V (y:Nat))/\W.cell? ⟨g6,c,U⟩=I (J V (z:Nat))/\W.cell? ⟨g5,d,U⟩=I (J V (u:Nat))):=fun W v S n h=>⟨h.get m2.o HY.o,h.get m3.o HZ.o,h.get m4.o hu⟩
                   have T3:=HD.o.le;have P0:=Za (HD.o.keep (Fr.refl _ _).drew);generalize A0:S9++(B.take d).map (TQ x y z)=R1 at*;have S1:=Za A0;clear A0;generalize T1:R1.length=nn at*;have V1:=Za T1;clear hu T1 HD;go_upto_region 50 with fail;refine wp_region_held_drew (S:=fun W=>W.cell? ⟨g4,b,U⟩=I (J V (y:Nat))/\W.cell? ⟨g6,c,U⟩=I (J V (z:Nat))/\W.cell? ⟨g5,d,U⟩=I (J V (u:Nat))) (by kernel_rfl) (O0.o _ _ _ _ P0.o) (fun hH=>?_);refine Zf 0 hH ?_
                   try go_frame
                   refine Zf 1 hH ?_
                   try go_frame
                   refine Zf 2 hH ?_
                   try go_frame
                   refine Zf 3 hH ?_
                   try go_frame
                   refine Zf 4 hH ?_
                   try go_frame
                   refine Zf 5 hH ?_
                   try go_frame
                   refine Zf 6 hH ?_
                   try go_frame
                   refine Zf 7 hH ?_
                   try go_frame
                   refine Zf 8 hH ?_
                   try go_frame
                   refine Zf 9 hH ?_
                   try go_frame
                   refine Zf 10 hH ?_
                   try go_frame
                   refine Zf 11 hH ?_
                   try go_frame
                   refine Zf 12 hH ?_
                   try go_frame
                   refine Zf 13 hH ?_
                   try go_frame
                   refine Zf 14 hH ?_
                   try go_frame
                   have Q0:=Za (P0.o.keep ((Fr.refl _ _).alloc (A #[z2 (NM x),J V (y:Nat),J V (z:Nat),J V (u:Nat)] 35)));refine SX 15 (fun K hK=>?_);go_simp;refine hK.out _ _ (O0.o _ _ _ _ Q0.o) (fun hH=>?_);clear hK K
                   try go_frame
                   refine SX 16 (fun K hK=>?_);refine wp_append_lies _ (.tmp 154) (.tmp 169) 94 rfl w.heap.size 35 ij _ 4 40 Tryz.underlying94 Z1 a2 d2 f2 rfl (by decide) (G oa nn oc) nn (XH R1) rfl ?o1 ⟨wr.drew.heap.size,0,U⟩ 1 1 [z2 (NM x),J V (y:Nat),J V (z:Nat),J V (u:Nat)] rfl rfl ?o2 ?o3 (by decide) ?o4 ?o5 ?o6 _ rfl ?o7
                   case o1=>have e:=Q0.o.ou;rw[V1.o]at e;exact e
                   case o2=>exact F (aN wr.drew (A #[z2 (NM x),J V (y:Nat),J V (z:Nat),J V (u:Nat)] 35))
                   case o3=>simp[z4]
                   case o4=>unfold maxLen;omega
                   case o5=>omega
                   case o6=>exact Q0.o.fr.size
                   case o7=>
                    intro g2 x3 w8 a0 s h0 _;have X1:=Za (P0.o.more s (p:=TQ x y z u) (by rw[V1.o];exact a0));clear a0 s h0;refine hK.out _ _ (O0.o _ _ _ _ X1.o) (fun hH=>?_);clear hK K
                    try go_frame
                    refine Zf 17 hH ?_
                    try go_frame
                    refine wpAnyH_done (by kernel_rfl) ?_ _;go_wp2_with fail;go_roundg (B.length-(d+1))
                    case measure=>omega
                    case rel=>exact⟨d+1,by omega,rfl,by go_num,by rw[k3.o,<-z1,S1.o];exact X1⟩
                  ·have j3:¬(d:Int)<(B.length:Int):=by omega
                   have r3:=Za (HD.o.re (S':=S9++B.map (TQ x y z)) (by rw[H (by omega)]) (show((a*33+b)*17+c)*33+d<=((a*33+b)*17+(c+1))*33+0 by omega));go_wp2_with fail;go_roundg (t.length-(c+1))
                   case measure=>omega
                   case rel=>exact⟨c+1,by omega,rfl,by go_num,by rw[d3.o,<-z1,g3.o];exact r3⟩
                ·have Z2:¬(c:Int)<(t.length:Int):=by omega
                 have N0:=Za (HC.o.re (S':=S8++t.flatMap fun z=>B.map (TQ x y z)) (by rw[H (by omega)]) (show((a*33+b)*17+c)*33+0<=((a*33+(b+1))*17+0)*33+0 by omega));go_wp2_with fail;go_roundg (lp.length-(b+1))
                 case measure=>omega
                 case rel=>exact⟨b+1,by omega,rfl,by go_num,by rw[V2.o,<-z1,X2.o];exact N0⟩
              ·have T2:¬(b:Int)<(lp.length:Int):=by omega
               have t3:=Za (HB.o.re (S':=S6++lp.flatMap fun y=>t.flatMap fun z=>B.map (TQ x y z)) (by rw[H (by omega)]) (show((a*33+b)*17+0)*33+0<=(((a+1)*33+0)*17+0)*33+0 by omega));go_wp2_with fail;go_roundg (l1.length-(a+1))
               case measure=>omega
               case rel=>exact⟨a+1,by omega,rfl,by go_num,by rw[L2.o,d0.o];exact t3⟩
          ·have K2:¬(a:Int)<(l1.length:Int):=by omega
           have R0:=Za (HU.o.re (S':=l1.flatMap fun x=>lp.flatMap fun y=>t.flatMap fun z=>B.map (TQ x y z)) (by rw[H (by omega)]) (show(((a*33+0)*17+0)*33+0)<=400000 by omega));go_wp2_with fail;go_ret;exact⟨⟨_,rfl,_,R0.o.ou,J2.o.st R0.o.le⟩,R0.o.fr⟩
