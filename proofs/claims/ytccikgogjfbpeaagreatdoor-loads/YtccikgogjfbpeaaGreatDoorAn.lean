import Derived.Test.YtccikgogjfbpeaaGreatDoorAm
import Derived.Lib.RowBridge
open Go.Value renaming slice->I,int->V,bool->y4,agg->y5,string->q9,int->j2,oneCell'->j3,slice->j5,pointer->j6
open Go.IntKind renaming i64->J
open Option renaming none->Y,some->U
open Go.AllReadyH renaming nil->O
open Go.Obj renaming cells->E
open Go.Proofs.Tryz renaming prog->G
open Go.RowKit renaming Hid->T
open Go.Ending renaming returned->C
open Or renaming inr->F,inl->j0
open List renaming take_of_length_le->z4,take_add_one->z6,mem_map->y7,length_append->x7,flatMap_cons->q8,length_cons->j1,mem_mergeSort->j4,length_take->j7,length_map->j8,replicate->v1
open Go renaming Value->z5,World->z8,Calls->z9
open Nat renaming le_trans->z7,zero_add->y6,mul_one->y9,le_refl->x5,mul_le_mul->j9
open Go.World renaming news_of_block->y8,ownsRow->x8
namespace Go.Proofs.YtccikgogjfbpeaaGreatDoor
set_option maxRecDepth 30000
set_option maxHeartbeats 8000000
open Go.RowKit
def GZ (w W:z8)(D N:Nat)(Q:Nat->Bool->Prop):Prop:=∃a,W.ownsRow w.heap.size 4 1 (I (U ⟨D,0,Y⟩) N N) N a/\(∀k,k<N->∃b,a[k]?=U (y4 b)/\Q k b)/\F0 w W
theorem GZ.fr {w W a D N Q}(h:GZ w W D N Q)(b:F0 W a):GZ w a D N Q:=by
 obtain⟨c,d,e,f⟩:=h;exact⟨c,oF d b,e,f.trans b⟩
theorem GZ.weak {w W D N Q Q'}(h:GZ w W D N Q)(c:∀k b,k<N->Q k b->Q' k b):GZ w W D N Q':=by
 obtain⟨d,f,g,i⟩:=h;exact⟨d,f,fun k a=>let⟨b,e,j⟩:=g k a;⟨b,e,c k b a j⟩,i⟩
theorem GZ.step {w W D N i Q Q'}(h:GZ w W D N Q)(hi:i<N)(v)(d:∀k b,k<N->k≠i->Q k b->Q' k b)(f:Q' i v):GZ w (W.setCell ⟨D,i,Y⟩ (y4 v)) D N Q'/\(∃u,W.cell? ⟨D,i,Y⟩=U u)/\W.frozen? ⟨D,i,Y⟩=false:=by
 obtain⟨o,a,g,j⟩:=h;have q:=a.1;obtain⟨l,_⟩:=a.stored i (y4 v);refine⟨⟨_,l,fun k c=>?_,j.setCell (p:=⟨D,i,Y⟩) (F (a.lt D rfl).1) _⟩,?_,a.frozenAt i⟩
 ·by_cases e:k=i
  ·subst e
   exact⟨v,by rw[List.getElem?_set_self (by omega)],f⟩
  obtain⟨b,m,n⟩:=g k c
  exact⟨b,by rw[List.getElem?_set_ne (by omega)];exact m,d k b c e n⟩
 rw[a.cellAt i (by omega),gE (by omega)]
 exact⟨_,rfl⟩
theorem C9 {S i p}(h:S[i]?=U p):∀j v,[q9 p.pan,V J p.mcc,V J p.am,V J p.cur][j]?=U v->(XU S)[i*4+j]?=U v:=by
 induction S generalizing i with
 |nil=>simp at h
 |cons q r c=>
  intro j v a;have b:=(iG.1 a).1;simp at b
  cases i with
  |zero=>
   simp at h;subst h
   show([q9 q.pan,V J q.mcc,V J q.am,V J q.cur]++XU r)[0*4+j]?=_
   rw[Nat.zero_mul,y6,List.getElem?_append_left (by simp;omega)];exact a
  |succ i=>
   show([q9 q.pan,V J q.mcc,V J q.am,V J q.cur]++XU r)[(i+1)*4+j]?=_
   rw[aR (by simp;omega)];have:=c (by simpa using h) j v a;rw[<-this]
   congr 1
   simp;omega
theorem JO {W:z8}{base n c j a S p}(h:W.ownsRow base 35 4 (I a n c) n (XU S))(i:S.length=n)(b:S[j]?=U p):
  ∃g,a=U ⟨g,0,Y⟩/\W.cell? ⟨g,j*4,Y⟩=U (.string p.pan)/\W.cell? ⟨g,j*4+1,Y⟩=U (V J p.mcc)/\W.cell? ⟨g,j*4+2,Y⟩=U (V J p.am)/\W.cell? ⟨g,j*4+3,Y⟩=U (V J p.cur):=by
 have l:=(iG.1 b).1;obtain⟨g,m,e,_⟩:=h.form (by omega);injection e with e _ f;subst e f
 have k:∀o v,[q9 p.pan,V J p.mcc,V J p.am,V J p.cur][o]?=U v->W.cell? ⟨g,j*4+o,Y⟩=U v:=fun o v d=>(h.cellAt _ (by have:=(iG.1 d).1;simp at this;omega)).trans (C9 b o v d)
 exact⟨g,rfl,k 0 _ rfl,k 1 _ rfl,k 2 _ rfl,k 3 _ rfl⟩
theorem MA:(G.info? 4).map (fun i=>(i.zero,i.size,i.bytes))=U (U (y4 false),1,1):=by kernel_rfl
theorem F5 (w q rts R)(h:Sm w q rts R)(hb:Yy rts R)(ha:∀r,r∈R->r.mcc.length<=4/\r.cur.length<=4):
  z9 G 90 #[j6 (U ⟨q,0,Y⟩)] w fun e w'=>∃D,e=C (I (U ⟨D,0,Y⟩) R.length R.length)/\GZ w w' D R.length fun k b=>b=false↔∃p,Y6 p=true/\Qr R p=U k:=by
 obtain⟨ij,a0,b0,c0,d0⟩:=info_parts MA
 have e0:=Za fun W A=>Ho W q rts R (h.fr A) hb ha
 have f0:=Za fun W A p B=>Pe W q rts R p (h.fr (w':=W) A) hb B
 obtain⟨la,lc,a,_⟩:=h.c2;have g0:=hb.l8;obtain⟨N,hN⟩:∃N,R.length=N:=⟨_,rfl⟩;have HN:=Za hN;rw[hN]at g0 a ⊢;have h0:=run_make (P:=G) w 95 4 ij _ Tryz.underlying95 a0 b0 J J (N:Int) (N:Int) (by omega) (by omega) (by rw[d0];omega) (by omega);rw[show(N:Int).toNat=N from by omega,c0,y9]at h0;have H2:=Za a
 have F:T (GZ w (w.alloc (E (madeCells #[y4 false] N) 4)) w.heap.size N fun _ _=>True):=by
  have e:=toList_madeCells_one (y4 false) N;refine⟨(madeCells #[y4 false] N).toList,⟨by rw[Array.length_toList,size_madeCells,y9],.inr ⟨_,N,_,rfl,x5 _,aN w _,x5 _,by unfold maxLen;omega,by rw[size_madeCells,y9],?_⟩⟩,fun k l=>⟨false,?_,trivial⟩,Zt.alloc _⟩
  ·rw[z4 (by rw[Array.length_toList,size_madeCells,y9];exact x5 _)]
  show(madeCells #[y4 false] N).toList[k]?=_
  rw[e,List.getElem?_replicate,if_pos l]
 go_enter Tryz.func90,Tryz.ntmps90;go_wp2_with fail;generalize w.alloc _=W0 at*;obtain⟨D,hD⟩:∃D,w.heap.size=D:=⟨_,rfl⟩;rw[hD]at F ⊢
 go_loopg [4] N (fun m iv wr=>∃i,i<=N/\m=N-i/\iv=V J (i:Nat)/\T (GZ w wr D N fun k b=>k<i->b=true))
 case atStart=>exact⟨0,by omega,rfl,rfl,F.o.weak fun k b _ _ h=>by omega⟩
 obtain⟨i,hi,rfl,rfl,HB⟩:=hrel;obtain⟨H,rfl⟩:∃H,H=wr:=⟨_,rfl⟩;obtain⟨_,_,_,A⟩:=HB.o;have a:=A.get H2.o;by_cases i0:i<N
 ·have l0:(i:Int)<(N:Int):=by omega
  obtain⟨hs,⟨uu,hu⟩,hz⟩:=HB.o.step i0 true (Q':=fun k b=>k<i+1->b=true) (fun k b _ l h hl=>h (by omega)) fun _=>rfl
  have s:=Za hs;go_wp2_with fail;generalize H.setCell _ _=W1 at*;go_wp2_with fail;go_roundg (N-(i+1))
  case measure=>omega
  exact⟨i+1,by omega,rfl,by go_num,s⟩
 have l0:¬(i:Int)<(N:Int):=by omega
 go_wp2_with fail;refine(e0.o H A).mono ?_;rintro _ w1 ⟨⟨v,S,rfl,ho,hS⟩,m0⟩;obtain⟨sa,sc,e⟩:=oL ho;subst e;have t:=Za ho;have K:=Za hS;have n0:=hS.1
 have o0:T (GZ w w1 D N fun k b=>b=false↔∃p,p∈S.take 0/\Qr R p=U k):=(HB.o.fr m0).weak fun k b l h=>by simp[h (by omega)]
 obtain⟨n,hn⟩:∃n,S.length=n:=⟨_,rfl⟩;have u:=Za hn;rw[hn]at t n0 ⊢
 have p0:T (D<H.heap.size):=by
  obtain⟨_,f,_⟩:=HB.o;exact(f.lt D rfl).2
 go_wp2_with fail
 go_loopg [6] n (fun m iv wx=>∃j,j<=n/\m=n-j/\iv=V J (j:Nat)/\T (GZ w wx D N fun k b=>b=false↔∃p,p∈S.take j/\Qr R p=U k)/\T (Fr (fun k=>k=D) w1 wx))
 case atStart=>exact⟨0,by omega,rfl,rfl,o0,Zt⟩
 obtain⟨j,hj,rfl,rfl,HJ,L⟩:=hrel;generalize wr=W at*;by_cases x0:j<n
 ·have q0:(j:Int)<(n:Int):=by omega
  obtain⟨p,B⟩:∃p,S[j]?=U p:=⟨_,gE (by have:=u.o;omega)⟩;obtain⟨g,e,k0,k1,k2,k3⟩:=JO (oA t.o L.o fun k l e=>by have:=(t.o.lt k l).1;have:=p0.o;omega) u.o B;subst e;obtain⟨_,_,_,r0⟩:=HJ.o;have M:=K.o.2.1 p (mG B);rw[Xw,Bool.and_eq_true]at M;have HC:=Za (f0.o W r0 p M.1)
  have HT:=Za fun x=>@Pf _ S j p x B
  have y:T (p∈S.take (j+1)/\∀x,x∈S.take j->x∈S.take (j+1)):=by
   show _/\_
   rw[z6,B];simp
   exact fun x h=>j0 h
  obtain⟨d,c⟩:∃d,Qr R p=d:=⟨_,rfl⟩;have z:=Za c;have O:=Za (Uu (Zv R) (YY R p (Zy p.pan)) R.length);unfold Qr at c;rw[c]at HC O;unfold UL at HC;go_wp2_with fail
  refine cf HC.o fun w2 Q=>?_
  have X:=Za (HJ.o.fr Q);have Z:=Za (L.o.trans (Q.mono))
  cases d with
  |none=>
   have s0:=Za (X.o.weak (Q':=fun k b=>b=false↔∃p,p∈S.take (j+1)/\Qr R p=U k) fun k b _ h=>h.trans ⟨fun⟨x,f,a⟩=>⟨x,y.o.2 x f,a⟩,fun⟨x,f,a⟩=>by
    rcases HT.o x f with h|rfl
    ·exact⟨x,h,a⟩
    rw[z.o]at a;cases a⟩)
   unfold V0;go_wp2_with fail;go_roundg (n-(j+1))
   case measure=>omega
   exact⟨j+1,by omega,rfl,by go_num,s0,Z⟩
  |some k=>
   have t0:=HN.o▸O.o.1
   have y0:(k:Int)<(N:Int):=by omega
   have z0:(0:Int)<=(k:Int):=by omega
   obtain⟨hs,⟨uu,hu⟩,hz⟩:=X.o.step t0 false (Q':=fun k b=>b=false↔∃p,p∈S.take (j+1)/\Qr R p=U k) (fun k' b _ l h=>h.trans ⟨fun⟨x,f,a⟩=>⟨x,y.o.2 x f,a⟩,fun⟨x,f,a⟩=>by
    rcases HT.o x f with h|rfl
    ·exact⟨x,h,a⟩
    rw[z.o]at a;injection a with a;exact absurd a.symm l⟩) ⟨fun _=>⟨p,y.o.1,z.o⟩,fun _=>rfl⟩
   have s:=Za hs;have v0:T (Fr (fun k=>k=D) w1 (w2.setCell ⟨D,k,Y⟩ (y4 false))):=Z.o.setCell (p:=⟨D,k,Y⟩) (j0 rfl) _;unfold V0;go_wp2_with fail;go_roundg (n-(j+1))
   case measure=>omega
   exact⟨j+1,by omega,rfl,by go_num,s,v0⟩
 have q0:¬(j:Int)<(n:Int):=by omega
 have w0:=Za (HJ.o.weak (Q':=fun k b=>b=false↔∃p,Y6 p=true/\Qr R p=U k) fun k b _ h=>by rw[<-K.o.best];rw[z4 (by have:=u.o;omega)]at h;exact h);go_wp2_with fail;go_ret;exact⟨D,rfl,w0.o⟩
abbrev Rt:=Nat×Nat
def YZ (s:Rt)(n:Nat):Bool:=decide (s.1<=n)&&decide (n<=s.2)
structure SJ where
 s0:List Rt
 s1:List Rt
 s2:List Rt
 s3:List Rt
def SJ.at (A:SJ):Nat->List Rt
 |0=>A.s0
 |1=>A.s1
 |2=>A.s2
 |_=>A.s3
def Xx (A:SJ)(side n:Nat):Bool:=(A.at side).any fun s=>YZ s n
def RA (w:z8)(a:Option Addr)(l:List Rt):Prop:=∀k s,l[k]?=U s->∃g o,a=U ⟨g,o,Y⟩/\w.cell? ⟨g,o+2*k,Y⟩=U (V J (s.1:Nat))/\w.cell? ⟨g,o+2*k+1,Y⟩=U (V J (s.2:Nat))
theorem RA.fr {w w' S a l}(h:RA w a l)(b:Fr S w w')(c:∀g o,a=U ⟨g,o,Y⟩->¬S g:=by simp):RA w' a l:=by
 intro k s i;obtain⟨g,o,e,d,f⟩:=h k s i;exact⟨g,o,e,(b.cell (p:=⟨g,o+2*k,Y⟩) (bL w _ d) (c g o e)).trans d,(b.cell (p:=⟨g,o+2*k+1,Y⟩) (bL w _ f) (c g o e)).trans f⟩
structure G0 where
 a:Option Addr
 c:Nat
def Xp (x:G0)(l:List Rt):z5:=I x.a l.length x.c
structure PW (w:z8)(A:SJ)(x0 x1 x2 x3:G0):Prop where
 p0:RA w x0.a A.s0
 p1:RA w x1.a A.s1
 p2:RA w x2.a A.s2
 p3:RA w x3.a A.s3
 few:∀k,(A.at k).length<=10
theorem PW.fr {w w' A b c d e}(h:PW w A b c d e)(a:F0 w w'):PW w' A b c d e:=⟨h.p0.fr a,h.p1.fr a,h.p2.fr a,h.p3.fr a,h.few⟩
def Ru (A:SJ)(a b c d:G0):Array z5:=#[Xp a A.s0,Xp b A.s1,Xp c A.s2,Xp d A.s3]
def Hp (a b c d:G0):Nat->G0
 |0=>a
 |1=>b
 |2=>c
 |_=>d
theorem PW.at {w A b c d e}(h:PW w A b c d e)(k):RA w (Hp b c d e k).a (A.at k):=by
 unfold SJ.at Hp
 split
 ·exact h.p0
 ·exact h.p1
 ·exact h.p2
 exact h.p3
theorem JP {w:z8}{b A a c d e t}(h:w.heap[b]?=U (E (Ru A a c d e) t)){k}(f:k<4):w.cell? ⟨b,k,Y⟩=U (Xp (Hp a c d e k) (A.at k)):=by
 have:k=0\/k=1\/k=2\/k=3:=by omega
 rcases this with rfl|rfl|rfl|rfl
 ·exact Zc h 0
 ·exact Zc h 1
 ·exact Zc h 2
 exact Zc h 3
theorem MB (w)(lo hi n:Nat)(g h i:Int)(l:g=lo)(m:h=hi)(p:i=n):
  z9 G 264 #[y5 #[V J g,V J h],V J i] w fun e w'=>e=C (y4 (YZ (lo,hi) n))/\F0 w w':=by
 subst l m p;have j:=aN w (E #[V J (lo:Int),V J (hi:Int)] 118);have q:=Zc j 0;have r:=Zc j 1;have b:=(VA w (E #[V J (lo:Int),V J (hi:Int)] 118)).1;by_cases c:lo<=n
 ·have d:(lo:Int)<=(n:Int):=by omega
  by_cases k:n<=hi
  ·have f:(n:Int)<=(hi:Int):=by omega
   have a:T (YZ (lo,hi) n=true):=by show _=_;simp[YZ,c,k]
   go_enter Tryz.func264,Tryz.ntmps264;go_wp2_with fail;go_ret;rw[a.o];exact⟨rfl,b.o⟩
  have f:¬(n:Int)<=(hi:Int):=by omega
  have a:T (YZ (lo,hi) n=false):=by show _=_;simp[YZ,c,k]
  go_enter Tryz.func264,Tryz.ntmps264;go_wp2_with fail;go_ret;rw[a.o];exact⟨rfl,b.o⟩
 have d:¬(lo:Int)<=(n:Int):=by omega
 have a:T (YZ (lo,hi) n=false):=by show _=_;simp[YZ,c]
 go_enter Tryz.func264,Tryz.ntmps264;go_wp2_with fail;go_ret;rw[a.o];exact⟨rfl,b.o⟩
theorem zx (w A c d f i)(side n:Nat)(K L:Int)(h:PW w A c d f i)(Z:side<4)(e1:K=side)(e2:L=n):
  z9 G 245 #[y5 #[Xp c A.s0,Xp d A.s1,Xp f A.s2,Xp i A.s3],V J K,V J L] w fun e w'=>e=C (y4 (Xx A side n))/\F0 w w':=by
 subst e1 e2;have HA:=Za h;have v:=JP (t:=215) (aN w (E (Ru A c d f i) 215)) Z;have j:=(VA w (E #[Xp c A.s0,Xp d A.s1,Xp f A.s2,Xp i A.s3] 215)).1;unfold Ru at v;obtain⟨l,y⟩:∃l,A.at side=l:=⟨_,rfl⟩;obtain⟨x,z⟩:∃x,Hp c d f i side=x:=⟨_,rfl⟩
 have HS:T (RA w x.a l):=by have e:=h.at side;rw[y,z]at e;exact e
 have HV:T (Xx A side n=l.any fun s=>YZ s n):=by show _=_;unfold Xx;rw[y]
 have B:T (l.length<=10):=by have e:=h.few side;rw[y]at e;exact e
 rw[y,z]at v
 have p:(side:Int)<4:=by omega
 unfold Xp at v j ⊢;go_enter Tryz.func245,Tryz.ntmps245;go_wp2_with fail;obtain⟨N,M⟩:∃N,l.length=N:=⟨_,rfl⟩;rw[M]at v ⊢;have q:=Za M
 have O:N<=10:=by have:=B.o;omega
 go_loopg [8,13] N (fun m _ iv wr=>∃k,k<=N/\m=N-k/\iv=V J (k:Nat)/\T (Xx A side n=(l.drop k).any fun s=>YZ s n)/\T (F0 w wr))
 case atStart=>exact⟨0,by omega,rfl,rfl,by show _=_;rw[List.drop_zero];exact HV.o,j⟩
 obtain⟨k,hk,rfl,rfl,P,b⟩:=hrel;by_cases a0:k<N
 ·have p:(k:Int)<(N:Int):=by omega
  have z:=gE (show k<l.length by have:=q.o;omega);obtain⟨g,o,Q,R,S⟩:=(HS.o.fr b.o) k _ z
  have U:T (Xx A side n=(YZ (l[k]'(by have:=q.o;omega)) n||(l.drop (k+1)).any fun s=>YZ s n)):=by
   show _=_
   rw[P.o,dC (by have:=q.o;omega),List.any_cons]
  generalize l[k]'(by have:=q.o;omega)=s at*;obtain⟨lo,hi⟩:=s
  dsimp only at R S
  obtain⟨xa,xc⟩:=x
  dsimp only at Q
  subst Q;have D:=Za (b.o.alloc (E #[V J (lo:Nat),V J (hi:Nat)] 118));have X:=aN wr (E #[V J (lo:Int),V J (hi:Int)] 118);have z0:=Zc X 0;have z1:=Zc X 1
  have Y:(k:Int)*2=((2*k:Nat):Int):=by omega
  rw[show o+2*k=o+k*2 from by omega]at R;rw[show o+2*k+1=o+k*2+1 from by omega]at S
  have F:T (∀W,z9 G 264 #[y5 #[V J (lo:Nat),V J (hi:Nat)],V J (n:Nat)] W fun e w'=>e=C (y4 (YZ (lo,hi) n))/\F0 W w'):=fun W=>MB W lo hi n _ _ _ rfl rfl rfl
  go_wp2_with fail;refine(F.o _).mono ?_;rintro e w5 ⟨rfl,H⟩;have r:=Za (D.o.trans H)
  cases u:YZ (lo,hi) n with
  |true=>
   have I:T (Xx A side n=true):=by show _=_;rw[U.o,u];rfl
   go_wp2_with fail;go_ret;rw[I.o];exact⟨rfl,r.o⟩
  |false=>
   have I:T (Xx A side n=(l.drop (k+1)).any fun s=>YZ s n):=by show _=_;rw[U.o,u];rfl
   go_wp2_with fail;go_roundg (N-(k+1))
   case measure=>omega
   exact⟨k+1,by omega,rfl,by go_num,I,r⟩
 have p:¬(k:Int)<(N:Int):=by omega
 have HE:T (Xx A side n=false):=by show _=_;rw[P.o,dL (by have:=q.o;omega)];rfl
 go_wp2_with fail;go_ret;rw[HE.o];exact⟨rfl,b.o⟩
def RB (Yr:Rt)(n:Nat):List Nat:=if YZ Yr n then[n]else[]
def OX (Yr:Rt)(s:Rt):List Nat:=RB Yr s.1++RB Yr (s.2+1)
def YC (Yr:Rt)(l:List Rt):List Nat:=l.flatMap (OX Yr)
def V4 (Yr s:Rt):Nat->List Nat
 |0=>[]
 |1=>RB Yr s.1
 |_=>OX Yr s
theorem MC (Yr n):(RB Yr n).length<=1:=by unfold RB;split<;>simp
theorem Hq (Yr s):(OX Yr s).length<=2:=by
 have a:=MC Yr s.1;have b:=MC Yr (s.2+1);unfold OX;rw[lA];omega
theorem Rv (Yr:Rt):∀l:List Rt,(YC Yr l).length<=2*l.length
 |[]=>by simp[YC]
 |s::r=>by
  have a:=Rv Yr r;have b:=Hq Yr s;simp only[YC,q8,x7,j1]at*;omega
theorem F6 (Yr){l:List Rt}{k s}(h:l[k]?=U s):YC Yr (l.take (k+1))=YC Yr (l.take k)++OX Yr s:=by
 rw[z6,h];simp[YC]
theorem zy (Yr s j):(V4 Yr s j).length<=2:=by
 unfold V4
 split
 ·simp
 ·have:=MC Yr s.1;omega
 exact Hq Yr s
theorem vE {Yr s}(h:YZ Yr s.1=true):V4 Yr s (0+1)=V4 Yr s 0++[s.1]:=by simp[V4,RB,h]
theorem vF {Yr s}(h:YZ Yr s.1=false):V4 Yr s (0+1)=V4 Yr s 0:=by simp[V4,RB,h]
theorem vG {Yr s}(h:YZ Yr (s.2+1)=true):V4 Yr s (1+1)=V4 Yr s 1++[s.2+1]:=by
 show OX Yr s=RB Yr s.1++_
 unfold OX
 congr 1
 unfold RB;rw[h];rfl
theorem vH {Yr s}(h:YZ Yr (s.2+1)=false):V4 Yr s (1+1)=V4 Yr s 1:=by
 show OX Yr s=RB Yr s.1
 unfold OX;rw[show RB Yr (s.2+1)=[]from by unfold RB;rw[h];rfl,List.append_nil]
theorem zz (w Yr)(x:G0)(l)(hS:RA w x.a l)(hl:l.length<=10)(hb:∀s,s∈l->s.1<=10000000000/\s.2<=10000000000):
  z9 G 242 #[y5 #[V J (Yr.1:Nat),V J (Yr.2:Nat)],I x.a l.length x.c] w fun e w'=>(∃v,e=C v/\w'.ownsRow w.heap.size 3 1 v (YC Yr l).length (Zg (YC Yr l))/\((YC Yr l).length=0->v=I Y 0 0))/\F0 w w':=by
 obtain⟨ii,hi,d0,e0,f0⟩:=info_parts Y3;obtain⟨lo,b⟩:=Yr
 dsimp only
 have HS:=Za hS;have HB:=Za hb;obtain⟨g0,Q⟩:=VA w (E #[V J (lo:Nat),V J (b:Nat)] 118);obtain⟨N,hN⟩:∃N,l.length=N:=⟨_,rfl⟩;have HN:=Za hN
 have A0:N<=10:=by omega
 rw[hN];go_enter Tryz.func242,Tryz.ntmps242;go_wp2_with fail;generalize w.alloc _=w0 at*;obtain⟨P,hP⟩:∃P,w.heap.size=P:=⟨_,rfl⟩;have HP:=Za hP;rw[hP]at Q;rw[hP]
 go_loopg [5,7,9,12] N (fun m R _ _ iv wr=>∃k,k<=N/\m=N-k/\iv=V J (k:Nat)/\T ((YC (lo,b) (l.take k)).length=0->R=I Y 0 0)/\T (wr.ownsRow (P+1) 3 1 R (YC (lo,b) (l.take k)).length (Zg (YC (lo,b) (l.take k))))/\T (F0 w wr)/\T (wr.heap[P]?=U (E #[V J (lo:Nat),V J (b:Nat)] 118)))
 case atStart=>exact⟨0,by omega,rfl,rfl,fun _=>rfl,oZ _ _ _ _,g0,Q⟩
 obtain⟨k,L,rfl,rfl,HZ,HO,y,h0⟩:=hrel;by_cases B0:k<N
 ·have i0:(k:Int)<(N:Int):=by omega
  have hx:=gE (show k<l.length by have:=HN.o;omega);obtain⟨g,o,ea,h1,h2⟩:=(HS.o.fr y.o) k _ hx;have k0:=HB.o _ (List.getElem_mem (show k<l.length by have:=HN.o;omega));have S:=Za (F6 (lo,b) hx);generalize l[k]'(by have:=HN.o;omega)=s at*;obtain⟨d,f⟩:=s
  dsimp only at h1 h2 k0
  obtain⟨xa,xc⟩:=x
  dsimp only at ea
  subst ea;rw[show o+2*k=o+k*2 from by omega]at h1;rw[show o+2*k+1=o+k*2+1 from by omega]at h2;have hb:=aN wr (E #[V J (d:Int),V J (f:Int)] 118);have z0:=Zc hb 0;have z1:=Zc hb 1;have z:=(VA wr (E #[V J (d:Int),V J (f:Int)] 118)).1;go_wp2_with fail;have l0:=Za (y.o.trans z.o);have m0:=Za (oF HO.o z.o);have n0:=Za (z.o.whole h0.o);generalize wr.alloc _=w1 at*
  go_loopg [5,9,22] 2 (fun m R _ jv wq=>∃j,j<=2/\m=2-j/\jv=V J (j:Nat)/\T ((YC (lo,b) (l.take k)++V4 (lo,b) (d,f) j).length=0->R=I Y 0 0)/\T (wq.ownsRow (P+1) 3 1 R (YC (lo,b) (l.take k)++V4 (lo,b) (d,f) j).length (Zg (YC (lo,b) (l.take k)++V4 (lo,b) (d,f) j)))/\T (F0 w wq)/\T (wq.heap[P]?=U (E #[V J (lo:Nat),V J (b:Nat)] 118)))
  case atStart=>exact⟨0,by omega,rfl,rfl,fun h=>HZ.o (by simpa[V4]using h),by show x8 _ _ _ _ _ _ _;simpa[V4]using m0.o,l0,n0⟩
  obtain⟨j,hj,rfl,rfl,A,r,X,t⟩:=hrel;obtain⟨M,O,ho⟩:=oL r.o;subst ho;obtain⟨i,u⟩:∃i,(YC (lo,b) (l.take k)++V4 (lo,b) (d,f) j).length=i:=⟨_,rfl⟩
  have C0:i<=40:=by
   rw[<-u,lA];have e1:=Rv (lo,b) (l.take k);have e2:=zy (lo,b) (d,f) j;rw[j7]at e1;omega
  have n:=Za u;rw[u]at r A;rw[u];by_cases D0:j<2
  ·have z0:=bC t.o 0 _ rfl
   have z1:=Zc t.o 1
   have o0:(j:Int)<2:=by omega
   obtain⟨q,E0,H0,p0,q0⟩:∃q:Nat,q<=10000000001/\(∀W:z8,(Instr.index 355 (y5 #[V J (d:Int),V J ((f:Int)+1)]) (V J (j:Nat))).run G W=.ok (V J (q:Nat)) W)/\T (YZ (lo,b) q=true->V4 (lo,b) (d,f) (j+1)=V4 (lo,b) (d,f) j++[q])/\T (YZ (lo,b) q=false->V4 (lo,b) (d,f) (j+1)=V4 (lo,b) (d,f) j):=by
    rcases(by omega:j=0\/j=1)with rfl|rfl
    ·exact⟨d,by omega,fun _=>by kernel_rfl,vE (s:=(d,f)),vF (s:=(d,f))⟩
    exact⟨f+1,by omega,fun _=>by kernel_rfl,vG (s:=(d,f)),vH (s:=(d,f))⟩
   go_wp2_with fail;refine(MB _ lo b q _ _ _ rfl rfl rfl).mono ?_;rintro e w5 ⟨rfl,B⟩;have D:=Za (X.o.trans B);have H:=Za (oF r.o B);have K:=Za (B.whole t.o)
   cases Z:YZ (lo,b) q with
   |true=>
    have HC:=Za (p0.o Z)
    go_wp2_with (at_builtin;refine wpList_append_lies _ rfl (.tmp 28) (.tmp 30) 25 rfl (P+1) 3 ii _ 1 8 Tryz.underlying25 hi d0 e0 f0 rfl (by decide) (I M i O) i (Zg (YC (lo,b) (l.take k)++V4 (lo,b) (d,f) j)) rfl ?q1 ⟨w5.heap.size,0,Y⟩ 1 1 [V J (q:Nat)] rfl rfl ?q2 ?q3 (by decide) ?q4 ?q5 ?q6 _ rfl ?q7)
    case q1=>exact H.o.alloc _
    case q2=>exact y8 (aN w5 (E #[V J (q:Nat)] 3))
    case q3=>simp[j3]
    case q4=>unfold maxLen;omega
    case q5=>omega
    case q6=>have h6:=D.o.size;have h7:=(iA.1 K.o).1;simp;omega
    intro g2 a0 w8 b0 p I0 _
    have c0:∀k,(j5 M i O).ownBlock=U k->P+1<=k:=fun k L=>(H.o.lt k L).1
    have r0:=Za ((D.o.alloc _).grown p (fun k L=>F (by have:=c0 k L;have:=HP.o;omega)));have s0:=Za ((((Fr.refl (fun k=>(j5 M i O).ownBlock=U k) w5).alloc _).grown p (fun k L=>j0 L)).whole K.o (fun e=>by have:=c0 P e;omega))
    have t0:T (w8.ownsRow (P+1) 3 1 (I (U ⟨g2,0,Y⟩) (i+1) a0) (YC (lo,b) (l.take k)++V4 (lo,b) (d,f) (j+1)).length (Zg (YC (lo,b) (l.take k)++V4 (lo,b) (d,f) (j+1)))):=by
     rw[HC.o,<-List.append_assoc,XZ,lA,n.o];exact b0
    go_wp2_with fail;go_roundg (2-(j+1))
    case measure=>omega
    exact⟨j+1,by omega,rfl,by go_num,fun h=>by rw[HC.o]at h;simp at h,t0,r0,s0⟩
   |false=>
    have HC:=Za (q0.o Z)
    have v0:T (w5.ownsRow (P+1) 3 1 (I M i O) (YC (lo,b) (l.take k)++V4 (lo,b) (d,f) (j+1)).length (Zg (YC (lo,b) (l.take k)++V4 (lo,b) (d,f) (j+1)))):=by
     rw[HC.o,n.o];exact H.o
    go_wp2_with fail;go_roundg (2-(j+1))
    case measure=>omega
    exact⟨j+1,by omega,rfl,by go_num,fun h=>A.o (by rw[HC.o,n.o]at h;exact h),v0,D,K⟩
  have o0:¬(j:Int)<2:=by omega
  have ej:j=2:=by omega
  have x0:T ((YC (lo,b) (l.take (k+1))).length=0->j5 M i O=I Y 0 0):=fun h=>A.o (by rw[show YC (lo,b) (l.take (k+1))=YC (lo,b) (l.take k)++V4 (lo,b) (d,f) j from by rw[S.o,ej];rfl,n.o]at h;exact h)
  have y0:T (wr.ownsRow (P+1) 3 1 (I M i O) (YC (lo,b) (l.take (k+1))).length (Zg (YC (lo,b) (l.take (k+1))))):=by
   have e:=r.o;rw[show YC (lo,b) (l.take (k+1))=YC (lo,b) (l.take k)++V4 (lo,b) (d,f) j from by rw[S.o,ej];rfl,n.o];exact e
  go_wp2_with fail;go_roundg (N-(k+1))
  case measure=>omega
  exact⟨k+1,by omega,rfl,by go_num,x0,y0,X,t⟩
 have i0:¬(k:Int)<(N:Int):=by omega
 have HE:T (l.take k=l):=by show _=_;rw[z4 (by have:=HN.o;omega)]
 go_wp2_with fail;go_ret;refine⟨⟨_,rfl,?_,fun h=>HZ.o (by rw[HE.o];simpa using h)⟩,y.o⟩;have e:=HO.o;rw[HE.o]at e;exact oS e (by have:=HP.o;omega)
structure Td where
 A:SJ
 x0:G0
 x1:G0
 x2:G0
 x3:G0
def Pg (e:Td):List z5:=[Xp e.x0 e.A.s0,Xp e.x1 e.A.s1,Xp e.x2 e.A.s2,Xp e.x3 e.A.s3]
def Vh (es:List Td):List z5:=es.flatMap Pg
theorem OA (es e):Vh (es++[e])=Vh es++Pg e:=by simp[Vh]
def Td.ok (w:z8)(e:Td):Prop:=PW w e.A e.x0 e.x1 e.x2 e.x3
def V5 (w:z8)(a:Option Addr)(es:List Td):Prop:=∀k e,es[k]?=U e->e.ok w/\∃g o,a=U ⟨g,o,Y⟩/\∀j v,(Pg e)[j]?=U v->w.cell? ⟨g,o+k*4+j,Y⟩=U v
theorem V5.fr {w w' a es}(h:V5 w a es)(b:F0 w w'):V5 w' a es:=by
 intro k e f;obtain⟨i,g,o,l,c⟩:=h k e f;exact⟨i.fr b,g,o,l,fun j v d=>(b.cell (p:=⟨g,o+k*4+j,Y⟩) (bL w _ (c j v d))).trans (c j v d)⟩
def Vl (side n:Nat)(es:List Td):List Td:=es.filter fun e=>Xx e.A side n
theorem Bc {side n}{es:List Td}{k e}(h:es[k]?=U e):Vl side n (es.take (k+1))=Vl side n (es.take k)++(if Xx e.A side n then[e]else[]):=by
 rw[z6,h];simp only[Vl,Option.toList,List.filter_append]
 congr 1
 cases a:Xx e.A side n<;>simp[a]
theorem Hr (side n es):(Vl side n es).length<=es.length:=List.length_filter_le _ _
theorem RU:(G.info? 215).map (fun i=>(i.zero,i.size,i.bytes))=U (U (y5 #[I Y 0 0,I Y 0 0,I Y 0 0,I Y 0 0]),4,96):=by kernel_rfl
theorem F8 (w side n a c es)(hs:side<4)(h:V5 w a es)(hl:es.length<=10):
  z9 G 214 #[V J (side:Nat),V J (n:Nat),I a es.length c] w fun e w'=>(∃v,e=C v/\w'.ownsRow w.heap.size 215 4 v (Vl side n es).length (Vh (Vl side n es)))/\F0 w w':=by
 obtain⟨ii,hi,R,S,W⟩:=info_parts RU;have HA:=Za h;obtain⟨N,X⟩:∃N,es.length=N:=⟨_,rfl⟩;have Z:=Za X
 have j0:N<=10:=by omega
 have a0:=Za hs;rw[X];clear h hl X;go_enter Tryz.func214,Tryz.ntmps214;go_wp2_with fail
 go_loopg [7,9,12] N (fun m ov _ iv wr=>∃k,k<=N/\m=N-k/\iv=V J (k:Nat)/\T (wr.ownsRow w.heap.size 215 4 ov (Vl side n (es.take k)).length (Vh (Vl side n (es.take k))))/\T (F0 w wr))
 case atStart=>exact⟨0,by omega,rfl,rfl,oZ _ _ _ _,Zt⟩
 obtain⟨k,hk,rfl,rfl,B,q⟩:=hrel;by_cases k0:k<N
 ·have b0:(k:Int)<(N:Int):=by omega
  obtain⟨oa,oc,ho⟩:=oL B.o;subst ho;obtain⟨x,d⟩:∃x,(Vl side n (es.take k)).length=x:=⟨_,rfl⟩
  have l0:x<=10:=by rw[<-d];have h1:=Hr side n (es.take k);rw[j7]at h1;omega
  have D:=Za d;rw[d]at B;rw[d];have hx:=gE (show k<es.length by have:=Z.o;omega);obtain⟨h0,g,o,ea,H⟩:=(HA.o.fr q.o) k _ hx;have K:=Za (Bc (side:=side) (n:=n) hx);generalize es[k]'(by have:=Z.o;omega)=e at*;subst ea;obtain⟨A,f,i,j,l⟩:=e;have H0:=Za h0;have c0:wr.cell? ⟨g,o+k*4,Y⟩=U (I f.a A.s0.length f.c):=H 0 _ rfl;have c1:wr.cell? ⟨g,o+k*4+1,Y⟩=U (I i.a A.s1.length i.c):=H 1 _ rfl;have c2:wr.cell? ⟨g,o+k*4+2,Y⟩=U (I j.a A.s2.length j.c):=H 2 _ rfl;have c3:wr.cell? ⟨g,o+k*4+3,Y⟩=U (I l.a A.s3.length l.c):=H 3 _ rfl;obtain⟨r,b⟩:=VA wr (E #[I f.a A.s0.length f.c,I i.a A.s1.length i.c,I j.a A.s2.length j.c,I l.a A.s3.length l.c] 215);clear H hx h0 d;go_upto_region 5 with fail;clear c0 c1 c2 c3;have L:=Za (oF B.o r.o);have M:=Za (q.o.trans r.o);have d0:T (PW _ A f i j l):=Za (H0.o.fr r.o);generalize wr.alloc _=w1 at*;obtain⟨Q,hQ⟩:∃Q,wr.heap.size=Q:=⟨_,rfl⟩;rw[hQ]at b;rw[hQ];clear hQ r B q H0;have y0:=Zc b.o 0;have y1:=Zc b.o 1;have y2:=Zc b.o 2;have y3:=Zc b.o 3;go_wp2_with fail;refine(zx w1 A f i j l side n _ _ d0.o a0.o rfl rfl).mono ?_;rintro e w5 ⟨rfl,s⟩;have y:=Za (M.o.trans s);have z:=Za (oF L.o s);have t:=Za (s.whole b.o);clear s y0 y1 y2 y3 M L b
  cases P:Xx A side n with
  |true=>
   have HC:T (Vl side n (es.take (k+1))=Vl side n (es.take k)++[⟨A,f,i,j,l⟩]):=by show _=_;rw[K.o];simp[P]
   have y0:=Zc t.o 0;have y1:=Zc t.o 1;have y2:=Zc t.o 2;have y3:=Zc t.o 3;clear P
   go_wp2_with (at_builtin;refine wpList_append_lies _ rfl (.tmp 20) (.tmp 22) 217 rfl w.heap.size 215 ii _ 4 96 Tryz.underlying217 hi R S W rfl (by decide) (I oa x oc) x (Vh (Vl side n (es.take k))) rfl ?h1 ⟨w5.heap.size,0,Y⟩ 1 1 [I f.a A.s0.length f.c,I i.a A.s1.length i.c,I j.a A.s2.length j.c,I l.a A.s3.length l.c] rfl rfl ?h2 ?h3 (by decide) ?h4 ?h5 ?h6 _ rfl ?h7)
   case h1=>exact z.o.alloc _
   case h2=>exact y8 (aN w5 (E #[I f.a A.s0.length f.c,I i.a A.s1.length i.c,I j.a A.s2.length j.c,I l.a A.s3.length l.c] 215))
   case h3=>simp[j3]
   case h4=>unfold maxLen;omega
   case h5=>omega
   case h6=>have:=y.o.size;simp;omega
   intro g2 O w8 u p e0 _;have f0:=Za ((y.o.alloc _).grown p (fun k hk=>F (z.o.lt k hk).1))
   have g0:T (w8.ownsRow w.heap.size 215 4 (I (U ⟨g2,0,Y⟩) (x+1) O) (Vl side n (es.take (k+1))).length (Vh (Vl side n (es.take (k+1))))):=by
    rw[HC.o,OA,lA,D.o];exact u
   clear u p e0 y0 y1 y2 y3;go_wp2_with fail;go_roundg (N-(k+1))
   case measure=>omega
   exact⟨k+1,by omega,rfl,by go_num,g0,f0⟩
  |false=>
   have i0:T (w5.ownsRow w.heap.size 215 4 (I oa x oc) (Vl side n (es.take (k+1))).length (Vh (Vl side n (es.take (k+1))))):=by
    have e:Vl side n (es.take (k+1))=Vl side n (es.take k):=by rw[K.o];simp[P]
    rw[e,D.o];exact z.o
   clear P;go_wp2_with fail;go_roundg (N-(k+1))
   case measure=>omega
   exact⟨k+1,by omega,rfl,by go_num,i0,y⟩
 have b0:¬(k:Int)<(N:Int):=by omega
 have HE:T (es.take k=es):=by show _=_;rw[z4 (by have:=Z.o;omega)]
 go_wp2_with fail;go_ret;refine⟨⟨_,rfl,?_⟩,q.o⟩;have e:=B.o;rw[HE.o]at e;exact e
def WQ (d lo hi:Nat):Rt:=(lo*10^(6-d),(hi+1)*10^(6-d)-1)
theorem xy {k}(h:k<=6):10^k<=1000000:=Nat.pow_le_pow_right (by decide) h
theorem Be (w h rk dg lo hi i j l b m n r s t u x y z A B)(hd:dg<=6)(c0:lo<=hi)(d0:hi<1000000):
  z9 G 173 #[GY h rk dg lo hi i j l b m n r s t u x y z A B] w fun e w'=>e=C (y5 #[V J ((WQ dg lo hi).1:Nat),V J ((WQ dg lo hi).2:Nat)])/\F0 w w':=by
 obtain⟨D,H⟩:=VA w (Lq h rk dg lo hi i j l b m n r s t u x y z A B);have a:=(SE w (Lq h rk dg lo hi i j l b m n r s t u x y z A B) (E #[V J 0,V J 0] 118)).2.2;have f:T (F0 (w.alloc (Lq h rk dg lo hi i j l b m n r s t u x y z A B)) ((w.alloc (Lq h rk dg lo hi i j l b m n r s t u x y z A B)).alloc (E #[V J 0,V J 0] 118))):=Zt.alloc _;unfold Lq at H D a f;unfold GY;go_enter Tryz.func173,Tryz.ntmps173;go_upto_region 1 with fail;generalize w.alloc _=w0 at*;generalize w0.alloc _=w1 at*;have c:=Za (f.o.whole H.o);have O:=Za (D.o.trans f.o);obtain⟨P,Q⟩:∃P,w.heap.size=P:=⟨_,rfl⟩;have HP:=Za Q;rw[Q]at c a;rw[Q];have x2:=Zc c.o 2;have x3:=Zc c.o 3;have x4:=Zc c.o 4;obtain⟨q,L⟩:∃q,6-dg=q:=⟨_,rfl⟩
 have R:(6:Int)-(dg:Int)=(q:Int):=by omega
 have S:q<=6:=by omega
 have U:T (WQ dg lo hi=(lo*10^q,(hi+1)*10^q-1)):=by show _=_;unfold WQ;rw[L]
 go_wp2_with fail
 try rw[R]
 go_loop [3,7] (fun zv W=>∃k:Nat,k<=q/\zv=V J ((10^k:Nat):Int)/\W=V J (k:Nat)) (fun _ W=>q-(intOf W).toNat)
 case atStart=>exact⟨0,by omega,rfl,rfl⟩
 obtain⟨k,hk,rfl,rfl⟩:=hrel;by_cases e0:k<q
 ·have X:(k:Int)<(q:Int):=by omega
  obtain⟨Z,d⟩:∃Z,10^k=Z:=⟨_,rfl⟩
  have g:Z<=1000000:=by rw[<-d];exact xy (by omega)
  rw[d];go_wp2_with fail;exact⟨⟨k+1,by omega,by rw[Nat.pow_succ,d];simp,by go_num⟩,by simp[intOf];omega⟩
 have X:¬(k:Int)<(q:Int):=by omega
 have a0:q=k:=by omega
 subst a0;obtain⟨Z,d⟩:∃Z,10^q=Z:=⟨_,rfl⟩
 have g:Z<=1000000:=by rw[<-d];exact xy S
 have b0:0<Z:=by rw[<-d];exact Nat.pow_pos (by decide)
 rw[d]at U;rw[d];have m1:lo*Z<=1000000*1000000:=j9 (by omega) g;have m2:(hi+1)*Z<=1000000*1000000:=j9 (by omega) g;have m3:1<=(hi+1)*Z:=Nat.mul_pos (by omega) b0
 have i1:(lo:Int)*(Z:Int)=((lo*Z:Nat):Int):=by simp
 have i2:((hi:Int)+1)*(Z:Int)=(((hi+1)*Z:Nat):Int):=by simp
 obtain⟨M1,I⟩:∃M,lo*Z=M:=⟨_,rfl⟩;obtain⟨N,K⟩:∃M,(hi+1)*Z=M:=⟨_,rfl⟩;rw[I,K]at U;rw[I]at m1 i1;rw[K]at m2 m3 i2;have f0:=Zc a.o 0;have f1:=Zc a.o 1;have z0:=bF a.o 0;have z1:=bF a.o 1;go_wp2_with fail
 have i3:((N:Int)-1)=((N-1:Nat):Int):=by omega
 rw[i3];have e1:=heap_setCell_same w1 (P+1) 0 _ _ (V J (M1:Nat)) a.o;have e2:=heap_setCell_same _ (P+1) 1 _ _ (V J ((N-1:Nat):Int)) e1;have s0:=Zc e2 0;have s1:=Zc e2 1
 have L:w.heap.size<=P+1:=by have:=HP.o;omega
 rw[U.o];refine bodyPost_ret (v:=y5 #[V J (M1:Nat),V J ((N-1:Nat):Int)]) (by simp[results,Tryz.results173,go_sem,s0,s1]) rfl ⟨rfl,?_⟩;exact(O.o.setCell (p:=⟨P+1,0,Y⟩) (F L) _).setCell (p:=⟨P+1,1,Y⟩) (F L) _
def Yl (l:List Nat)(a:Nat):List Rt:=if l=[]then[(0,a)]else l.map fun n=>(n,n)
def RW (l:List Rt):List z5:=l.flatMap fun s=>[V J (s.1:Nat),V J (s.2:Nat)]
theorem F9 (l s):RW (l++[s])=RW l++[V J (s.1:Nat),V J (s.2:Nat)]:=by simp[RW]
theorem LO:(G.info? 118).map (fun i=>(i.zero,i.size,i.bytes))=U (U (y5 #[V J 0,V J 0]),2,16):=by kernel_rfl
theorem Dv (w:z8)(a b):(w.alloc (E #[V J (a:Nat),V J (b:Nat)] 118)).ownsRow w.heap.size 118 2 (I (U ⟨w.heap.size,0,Y⟩) 1 1) 1 [V J (a:Nat),V J (b:Nat)]:=
 ⟨rfl,.inr ⟨w.heap.size,1,#[V J (a:Nat),V J (b:Nat)],rfl,x5 _,aN w _,x5 _,by unfold maxLen;simp,by simp,by simp⟩⟩
theorem Ea (w a c l b)(h:Zu w a l)(hl:l.length<=4000):
  z9 G 174 #[I a l.length c,V J (b:Nat)] w fun e w'=>(∃v,e=C v/\w'.ownsRow w.heap.size 118 2 v (Yl l b).length (RW (Yl l b)))/\F0 w w':=by
 obtain⟨M,hi,s,t,u⟩:=info_parts LO;by_cases x:l=[]
 ·subst x
  have j:=Za (Dv w 0 b);have O:=(VA w (E #[V J (0:Nat),V J (b:Nat)] 118)).1
  show z9 _ _ #[I a 0 c,_] _ _
  go_enter Tryz.func174,Tryz.ntmps174;go_wp2_with fail;go_ret;exact⟨⟨_,rfl,j.o⟩,O.o⟩
 obtain⟨N,D⟩:∃N,l.length=N:=⟨_,rfl⟩
 have P:((N:Int)==0)=false:=by
  have:l.length≠0:=fun e=>x (List.eq_nil_of_length_eq_zero e)
  simp;omega
 have q:=Za D;have Q:=Za h
 have R:N<=4000:=by omega
 have S:T (Yl l b=l.map fun n=>(n,n)):=by show _=_;unfold Yl;rw[if_neg x]
 rw[D];go_enter Tryz.func174,Tryz.ntmps174;go_wp2_with fail
 go_loopg [5,7,16] N (fun m W _ X wr=>∃k,k<=N/\m=N-k/\X=V J (k:Nat)/\T (wr.ownsRow w.heap.size 118 2 W k (RW ((l.take k).map fun n=>(n,n))))/\T (F0 w wr))
 case atStart=>exact⟨0,by omega,rfl,rfl,oZ _ _ _ _,Zt⟩
 obtain⟨k,H,rfl,rfl,j,d⟩:=hrel;obtain⟨Z,oc,ho⟩:=oL j.o;subst ho;by_cases a0:k<N
 ·have z:(k:Int)<(N:Int):=by omega
  have K:=gE (show k<l.length by have:=q.o;omega);obtain⟨g,ea,L⟩:=Q.o k _ K
  have HT:T (l.take (k+1)=l.take k++[l[k]'(by have:=q.o;omega)]):=by show _=_;rw[z6,K];rfl
  generalize l[k]'(by have:=q.o;omega)=y at*;subst ea;have b0:=(d.o.cell (p:=⟨g,k,Y⟩) (bL w _ L)).trans L
  go_wp2_with (at_builtin;refine wpList_append_lies _ rfl (.tmp 20) (.tmp 24) 213 rfl w.heap.size 118 M _ 2 16 Tryz.underlying213 hi s t u rfl (by decide) (I Z k oc) k (RW ((l.take k).map fun n=>(n,n))) rfl ?h1 ⟨wr.heap.size,0,Y⟩ 1 1 [V J (y:Nat),V J (y:Nat)] rfl rfl ?h2 ?h3 (by decide) ?h4 ?h5 ?h6 _ rfl ?h7)
  case h1=>exact j.o.alloc _
  case h2=>exact y8 (aN wr (E #[V J (y:Nat),V J (y:Nat)] 118))
  case h3=>simp[j3]
  case h4=>unfold maxLen;omega
  case h5=>omega
  case h6=>have:=d.o.size;simp;omega
  intro g2 r w8 f i c0 _;have A:=Za ((d.o.alloc _).grown i (fun k H=>F (j.o.lt k H).1))
  have B:T (w8.ownsRow w.heap.size 118 2 (I (U ⟨g2,0,Y⟩) (k+1) r) (k+1) (RW ((l.take (k+1)).map fun n=>(n,n)))):=by
   rw[HT.o,List.map_append,List.map_singleton,F9];rw[<-List.map_take]at f;exact f
  go_wp2_with fail;go_roundg (N-(k+1))
  case measure=>omega
  exact⟨k+1,by omega,rfl,by go_num,B,A⟩
 have z:¬(k:Int)<(N:Int):=by omega
 have ek:k=N:=by omega
 subst ek;go_wp2_with fail;go_ret;refine⟨⟨_,rfl,?_⟩,d.o⟩;have e:=j.o;rw[z4 (by have:=q.o;omega)]at e;rw[S.o,j8,q.o];exact e
def st1 (side:Nat)(Yr:Rt)(es:List Td):List Nat:=Yr.1::es.flatMap fun e=>YC Yr (e.A.at side)
def Y0 (side:Nat)(Yr:List Rt)(es:List Td):List Nat:=Yr.flatMap fun s=>st1 side s es
theorem zA (side Yr){es:List Td}{k e}(h:es[k]?=U e):st1 side Yr (es.take (k+1))=st1 side Yr (es.take k)++YC Yr (e.A.at side):=by
 rw[z6,h];simp[st1]
theorem Eb (side){Yr:List Rt}{es k s}(h:Yr[k]?=U s):Y0 side (Yr.take (k+1)) es=Y0 side (Yr.take k) es++st1 side s es:=by
 rw[z6,h];simp[Y0]
theorem Dw (side Yr):∀es:List Td,(∀e,e∈es->(e.A.at side).length<=10)->(st1 side Yr es).length<=1+20*es.length:=by
 intro es
 induction es with
 |nil=>intro _;simp[st1]
 |cons e r a=>
  intro h;have c:=a (fun x b=>h x (by simp[b]));have d:=Rv Yr (e.A.at side);have f:=h e (by simp);simp only[st1,q8,j1,x7]at*;omega
def Ky (ns:List Nat):List Int:=ns.map fun n:Nat=>(n:Int)
theorem Kz {w base g n cap ns}(h:w.ownsRow base 3 1 (I (U ⟨g,0,Y⟩) n cap) n (Zg ns)):Sort.Holds (j2 J) w g 0 (Ky ns).toArray/\n<=cap/\g<w.heap.size/\ns.length=n/\base<=g:=by
 obtain⟨d,i⟩:=h
 have m:ns.length=n:=by simpa[Zg]using d
 rcases i with⟨i,_⟩|⟨x,k,o,e,p,a,q,l,r,s⟩
 ·cases i
 injection e with f y t
 injection f with f;injection f with f;subst f t;refine⟨fun j u=>⟨?_,bF a _⟩,q,(iA.1 a).1,m,p⟩
 have b:j<ns.length:=by simpa[Ky]using u
 have c:(o.toList.take (n*1))[j]?=U (V J ((ns[j]'b:Nat):Int)):=by
  rw[s];simp[Zg,b]
 rw[List.getElem?_take]at c
 split at c
 ·rw[y6]
  have v:(Ky ns).toArray[j]! =((ns[j]'b:Nat):Int):=by simp[Ky,b]
  rw[v];exact bC a j _ (by simpa using c)
 cases c
theorem KA {w g off n d os}:Fr (fun k=>k=g) w (Sort.grow (Sort.putRow (j2 J) (Sort.ahead w n) g off d) os):=by
 refine⟨rfl,rfl,rfl,by simp,fun k a b=>?_⟩;rw[Sort.heap_grow_old _ _ (by simpa using a)];unfold Sort.putRow Sort.mapBlock;simp[Array.getElem?_modify,show¬g=k from fun e=>b e.symm]
def PX (ns:List Nat):List Int:=Lib.compact ((Ky ns).mergeSort fun x y=>decide (x<=y))
theorem zB {w base g n cap ns}(h:w.ownsRow base 3 1 (I (U ⟨g,0,Y⟩) n cap) n (Zg ns))(i:n<=100000):
  z9 G 243 #[I (U ⟨g,0,Y⟩) n cap] w fun e w'=>e=C (.tuple #[])/\Sort.Holds (j2 J) w' g 0 ((Ky ns).mergeSort fun x y=>decide (x<=y)).toArray/\Fr (fun k=>k=g) w w':=by
 obtain⟨a,j,b,d,_⟩:=Kz h
 have f:(Ky ns).length=n:=by simp[Ky,d]
 have c:=Tryz.slices_Sort_int g 0 cap (Ky ns) w a b (by omega);rw[f]at c;refine c.mono ?_;rintro e w' ⟨rfl,q,os,rfl⟩;refine⟨rfl,Sort.holds_grow _ _ _ _ _ _ (by simpa using b) (Sort.holds_putRow _ _ _ _ _ _ (Sort.holds_ahead _ _ q _ _ _ a) (by simp)),KA⟩
theorem Hs {w g n cap a}(h:Sort.Holds (j2 J) w g 0 a.toArray)(i:a.length=n)(p:n<=cap)(r:n<=100000):
  z9 G 244 #[I (U ⟨g,0,Y⟩) n cap] w fun e w'=>e=C (I (U ⟨g,0,Y⟩) (Lib.compact a).length cap)/\(∀j x,(Lib.compact a)[j]?=U x->w'.cell? ⟨g,j,Y⟩=U (V J x))/\Fr (fun k=>k=g) w w':=by
 have c:=Tryz.slices_Compact_int g 0 cap a w h (by omega) (by omega);rw[i]at c;refine c.mono ?_;rintro e w' ⟨rfl,q,rfl⟩;have l:=Lib.compact_length_le a;have m:=Sort.holds_putRow (j2 J) (Sort.ahead w q) g 0 a.toArray (Lib.compact a++v1 (n-(Lib.compact a).length) 0).toArray (Sort.holds_ahead _ _ q _ _ _ h) (by simp;omega);refine⟨rfl,fun j x b=>?_,?_⟩
 ·have o:=(iG.1 b).1
  have e:=(m j (by simp;omega)).1;rw[y6]at e;rw[e]
  congr 2
  rw[getElem!_def];simp only[List.getElem?_toArray,List.getElem?_append,o,if_true,b]
 have f:=KA (w:=w) (g:=g) (off:=0) (n:=q) (d:=(Lib.compact a++v1 (n-(Lib.compact a).length) 0).toArray) (os:=#[])
 rw[Sort.grow_empty]at f;exact f
theorem MD {P w}{o:Oper}{a K Q}(s x t)(f:o.op=.call {callee:=.builtin .append,args:=#[s,x],argTypes:=#[t,t]})(base e i b)(g:P.underlying t=U (.slice e))(hi:P.info? e=U i)(v n d)(j:a.eval s=v)(c:w.ownsRow base e b v n d)(k:a.eval x=.slice Y 0 0)(h:K (a.put o.dst v) w):o.wp P a w K Q:=by
 unfold Oper.wp execOp;simp only[f,resolve,invoke,builtin,Sem.run_bind,Sem.run_pure,Result.andThen_ok,List.map_toArray,List.map_cons,List.map_nil,j,k,run_append_owned_none w base t o.type e i b g hi v n d c];exact h
theorem PY (side:Nat)(es:List Td)(h:∀e,e∈es->(e.A.at side).length<=10):∀l:List Rt,(Y0 side l es).length<=(1+20*es.length)*l.length
 |[]=>by simp[Y0]
 |s::r=>by
  have a:=PY side es h r;have b:=Dw side s es h;simp only[Y0,q8,x7,j1,Nat.mul_add,y9]at*;omega
theorem Ec (ns):∀u∈Zg ns,u.oneCell'=true:=by
 intro u a;simp only[Zg,y7]at a;obtain⟨n,_,rfl⟩:=a;rfl
theorem ME (ns):(Zg ns).length=ns.length:=by simp[Zg]
theorem MF (a b):Zg (a++b)=Zg a++Zg b:=by simp[Zg]
theorem Td.at {w}{e:Td}(h:e.ok w)(k):RA w (Hp e.x0 e.x1 e.x2 e.x3 k).a (e.A.at k):=PW.at h k
theorem OY (d:Array Int):∀m x,x∈Lib.compactUpTo d m↔∃j,j<m/\x=d[j]! :=by
 intro m
 induction m with
 |zero=>intro x;simp[Lib.compactUpTo]
 |succ m c=>
  intro x;rw[Lib.compactUpTo_succ,List.mem_append,c]
  constructor
  ·rintro(⟨j,f,rfl⟩|h)
   ·exact⟨j,by omega,rfl⟩
   split at h
   ·exact⟨m,by omega,by simpa using h⟩
   cases h
  rintro⟨j,f,rfl⟩
  by_cases a:j<m
  ·exact j0 ⟨j,a,rfl⟩
  have e:j=m:=by omega
  subst e
  cases b:Lib.keeps d j with
  |true=>exact F (by simp)
  |false=>
   refine j0 ⟨j-1,?_,?_⟩
   ·have:j≠0:=fun e=>by subst e;simp[Lib.keeps]at b
    omega
   simp[Lib.keeps]at b
   exact b.2
theorem OB (b)(x:Int):x∈Lib.compact b↔x∈b:=by
 unfold Lib.compact;rw[OY]
 constructor
 ·rintro⟨j,a,rfl⟩
  simp[a]
 intro h
 obtain⟨j,a,rfl⟩:=List.mem_iff_getElem.1 h;exact⟨j,a,by simp[a]⟩
def Sn (ns:List Nat):List Nat:=(PX ns).map Int.toNat
theorem MG {ns x}(h:x∈PX ns):∃n,n∈ns/\x=(n:Nat):=by
 have a:=(OB _ _).1 h;rw[j4]at a;simp only[Ky,y7]at a;obtain⟨n,b,rfl⟩:=a;exact⟨n,b,rfl⟩
theorem Bf (ns):PX ns=Ky (Sn ns):=by
 unfold Ky Sn;rw[List.map_map]
 conv=>lhs;rw[<-List.map_id (PX ns)]
 refine List.map_congr_left fun x a=>?_
 obtain⟨n,_,rfl⟩:=MG a;simp
theorem MH (ns n):n∈Sn ns↔n∈ns:=by
 constructor
 ·intro h
  simp only[Sn,y7]at h;obtain⟨x,a,rfl⟩:=h;obtain⟨k,b,rfl⟩:=MG a
  simpa using b
 intro h
 simp only[Sn,y7];refine⟨(n:Int),?_,by simp⟩;unfold PX;rw[OB,j4];simp only[Ky,y7];exact⟨n,h,rfl⟩
theorem Ed (ns):(Sn ns).length<=ns.length:=by
 unfold Sn PX;rw[j8];have h:=Lib.compact_length_le ((Ky ns).mergeSort fun x y=>decide (x<=y));rw[List.length_mergeSort]at h
 simpa[Ky]using h
def Ee (n:Nat):Code->Option (List Oper)
 | .region i c _=>if i=n then U c.toList else Y
 | .seq a b=>match Ee n a with
  |some l=>U l
  |none=>Ee n b
 |_=>Y
def ut (f:Func):List Oper:=(f.body.bind (Ee 1)).getD []
def SA (w0 w:z8)(v:z5)(l:List Rt):Prop:=w.ownsRow w0.heap.size 118 2 v l.length (RW l)
theorem SA.fr {w0 w w' v l}(h:SA w0 w v l)(a:F0 w w'):SA w0 w' v l:=oF h a
theorem SA.one {w0 w:z8}(c)(h:w0.heap.size<=w.heap.size):SA w0 (w.alloc (E #[V J (c.1:Nat),V J (c.2:Nat)] 118)) (I (U ⟨w.heap.size,0,Y⟩) 1 1) [c]:=oS (Dv w c.1 c.2) h
theorem SA.set {w0 w v l a k j u}(h:SA w0 w v l)(m:w.heap[a]?=U (E j 215)):SA w0 (w.setCell ⟨a,k,Y⟩ u) v l:=by
 obtain⟨n,b⟩:=h;refine⟨n,?_⟩;rcases b with b|⟨g,cap,c,e,d,f,r⟩
 ·exact j0 b
 refine F ⟨g,cap,c,e,d,?_,r⟩
 have i:g≠a:=by
  rintro rfl;rw[m]at f;simp at f
 exact((Fr.refl (fun k=>k=a) w).setCell (p:=⟨a,k,Y⟩) (j0 rfl) u).whole f i
abbrev cV (c:Rt):z5:=y5 #[V J (c.1:Nat),V J (c.2:Nat)]
abbrev mV:z5:=y5 #[V J 0,V J 1000000000]
structure uR where
 Q:Exit->Act->z8->Prop
 S:z8->Prop
 w0:z8
 v0:z5
 vm:z5
 vc:z5
 p:z5
 r:z5
 p5:z5
 p9:z5
 c:Rt
 l9:List Rt
 l14:List Rt
 s:∀W,F0 w0 W->S W
 f5:∀W,F0 w0 W->z9 G 173 #[v0] W fun e w'=>e=C (cV c)/\F0 W w'
 f9:∀W,F0 w0 W->z9 G 174 #[vm,V J 9999] W fun e w'=>(∃v,e=C v/\SA w0 w' v l9)/\F0 W w'
 f14:∀W,F0 w0 W->z9 G 174 #[vc,V J 999] W fun e w'=>(∃v,e=C v/\SA w0 w' v l14)/\F0 W w'
 pan:∀c a d v w,Q (.panic c) (Act.put a d v) w->Q (.panic c) a w
 fin:∀b3 x6 x9 x11 x14 w,w0.heap.size<=b3->w.heap[b3]?=U (E #[x6,x9,x11,x14] 215)->SA w0 w x6 [c]->SA w0 w x9 l9->SA w0 w x11 [(0,1000000000)]->SA w0 w x14 l14->F0 w0 w->Q .normal ⟨#[v0,p,r,(j6 (U ⟨b3,0,Y⟩)),v0,(cV c),x6,p5,vm,x9,mV,x11,p9,vc,x14,(y5 #[x6,x9,x11,x14]),undef,undef,undef,undef,undef,undef,undef],[]⟩ w
abbrev sg (X:uR)(d e f g a b c:z5):Act:=⟨#[X.v0,X.p,X.r,d,X.v0,e,f,X.p5,X.vm,g,mV,a,X.p9,X.vc,b,c,undef,undef,undef,undef,undef,undef,undef],[]⟩
abbrev si (d e f g a b c:Bool):Array Bool:=#[true,d,e,true,true,f,true,g,true,true,a,b,c,false]
def vI (w0 w:z8)(l:List Rt):Bool->z5->Prop
 |true,v=>SA w0 w v l
 |false,v=>v=undef
theorem vI.fr {w0 w w' l b v}(h:vI w0 w l b v)(a:F0 w w'):vI w0 w' l b v:=by
 cases b
 ·exact h
 exact SA.fr h a
def sG (w0 w:z8):Bool->z5->Prop
 |true,x=>∃b,x=j6 (U ⟨b,0,Y⟩)/\w0.heap.size<=b/\w.heap[b]?=U (E #[I Y 0 0,I Y 0 0,I Y 0 0,I Y 0 0] 215)
 |false,x=>x=undef
structure KB (X:uR)(w:z8)(f2 f5 f7 f10 f12:Bool)(x3 x6 x9 x11 x14:z5):Prop where
 f:F0 X.w0 w
 h3:sG X.w0 w f12 x3
 h6:vI X.w0 w [X.c] f2 x6
 h9:vI X.w0 w X.l9 f5 x9
 h11:vI X.w0 w [(0,1000000000)] f7 x11
 h14:vI X.w0 w X.l14 f10 x14
section
set_option maxRecDepth 30000
set_option maxHeartbeats 2000000
variable {X:uR} {w w':z8} {v:z5} {f2 f5 f7 f10 f12:Bool} {x3 x6 x9 x11 x14:z5} {L:Array Bool} {a:Act}
theorem KB.fr (h:KB X w f2 f5 f7 f10 f12 x3 x6 x9 x11 x14)(a:F0 w w'):KB X w' f2 f5 f7 f10 f12 x3 x6 x9 x11 x14:=by
 refine⟨h.f.trans a,?_,h.h6.fr a,h.h9.fr a,h.h11.fr a,h.h14.fr a⟩;have c:=h.h3
 cases f12
 ·exact c
 obtain⟨b,d,e,g⟩:=c
 exact⟨b,d,e,a.whole g⟩
theorem KB.s2 (h:KB X w f2 f5 f7 f10 f12 x3 x6 x9 x11 x14):KB X (w.alloc (E #[V J (X.c.1:Nat),V J (X.c.2:Nat)] 118)) true f5 f7 f10 f12 x3 (I (U ⟨w.heap.size,0,Y⟩) 1 1) x9 x11 x14:=by
 have g:=h.fr ((Fr.refl (fun _=>False) w).alloc (E #[V J (X.c.1:Nat),V J (X.c.2:Nat)] 118));exact⟨g.f,g.h3,SA.one X.c h.f.size,g.h9,g.h11,g.h14⟩
theorem KB.s7 (h:KB X w f2 f5 f7 f10 f12 x3 x6 x9 x11 x14):KB X (w.alloc (E #[V J 0,V J 1000000000] 118)) f2 f5 true f10 f12 x3 x6 x9 (I (U ⟨w.heap.size,0,Y⟩) 1 1) x14:=by
 have g:=h.fr ((Fr.refl (fun _=>False) w).alloc (E #[V J 0,V J 1000000000] 118));exact⟨g.f,g.h3,g.h6,g.h9,SA.one (0,1000000000) h.f.size,g.h14⟩
theorem KB.s12 (h:KB X w f2 f5 f7 f10 f12 x3 x6 x9 x11 x14):KB X (w.alloc (E #[I Y 0 0,I Y 0 0,I Y 0 0,I Y 0 0] 215)) f2 f5 f7 f10 true (j6 (U ⟨w.heap.size,0,Y⟩)) x6 x9 x11 x14:=by
 have g:=h.fr ((Fr.refl (fun _=>False) w).alloc (E #[I Y 0 0,I Y 0 0,I Y 0 0,I Y 0 0] 215));exact⟨g.f,⟨_,rfl,h.f.size,aN w _⟩,g.h6,g.h9,g.h11,g.h14⟩
theorem KB.s5 (h:KB X w f2 f5 f7 f10 f12 x3 x6 x9 x11 x14)(a:F0 w w')(b:SA X.w0 w' v X.l9):KB X w' f2 true f7 f10 f12 x3 x6 v x11 x14:=
 have g:=h.fr a
 ⟨g.f,g.h3,g.h6,b,g.h11,g.h14⟩
theorem KB.s10 (h:KB X w f2 f5 f7 f10 f12 x3 x6 x9 x11 x14)(a:F0 w w')(b:SA X.w0 w' v X.l14):KB X w' f2 f5 f7 true f12 x3 x6 x9 x11 v:=
 have g:=h.fr a
 ⟨g.f,g.h3,g.h6,g.h9,g.h11,b⟩
def Pu (X:uR)(n:Nat)(g h i j b d:Bool):Prop:=∀w k l m e f L a,T (KB X w h i j b d k l m e f)->L=si g h i j b false d->a=sg X k (bif g then cV X.c else undef) l m e f undef->wpAnyH G .any (ut Tryz.f114).toArray X.Q X.S n L a w
theorem sj (H:T (KB X w true true true true true x3 x6 x9 x11 x14))(x:L=si true true true true true true true)(y:a=sg X x3 (cV X.c) x6 x9 x11 x14 (y5 #[x6,x9,x11,x14])):
  wpAnyH G .any (ut Tryz.f114).toArray X.Q X.S 1 L a w:=by
 subst x y;obtain⟨b,rfl,z,d⟩:=H.o.h3;obtain⟨q,r,rfl⟩:=oL H.o.h6;obtain⟨t,u,rfl⟩:=oL H.o.h9;obtain⟨e,g,rfl⟩:=oL H.o.h11;obtain⟨h,i,rfl⟩:=oL H.o.h14;have j:=Za d;have k:=Za z;have g0:=Zc d 0;have g1:=Zc d 1;have g2:=Zc d 2;have g3:=Zc d 3;have C:=bF d 0;have D:=bF d 1;have E:=bF d 2;have J:=bF d 3;refine Vy 13 (fun K A=>?_);go_simp;have l:=heap_setCell_same w b 0 _ _ (I q [X.c].length r) j.o;have m:=heap_setCell_same _ b 1 _ _ (I t X.l9.length u) l;have n:=heap_setCell_same _ b 2 _ _ (I e [((0,1000000000):Rt)].length g) m;have B:=heap_setCell_same _ b 3 _ _ (I h X.l14.length i) n;have v:=(((H.o.f.setCell (p:=⟨b,0,Y⟩) (F k.o) (I q [X.c].length r)).setCell (p:=⟨b,1,Y⟩) (F k.o) (I t X.l9.length u)).setCell (p:=⟨b,2,Y⟩) (F k.o) (I e [((0,1000000000):Rt)].length g)).setCell (p:=⟨b,3,Y⟩) (F k.o) (I h X.l14.length i);refine A.out _ _ (X.s _ v) (fun _=>?_);refine wpAnyH_done (by kernel_rfl) ?_ _;exact X.fin b _ _ _ _ _ k.o B ((((SA.set H.o.h6 j.o).set l).set m).set n) ((((SA.set H.o.h9 j.o).set l).set m).set n) ((((SA.set H.o.h11 j.o).set l).set m).set n) ((((SA.set H.o.h14 j.o).set l).set m).set n) v
theorem V6:Pu X 2 true true true true true true:=by
 intro w m n p b d L a H e g;subst e g;obtain⟨q,t,rfl⟩:=oL H.o.h6;obtain⟨u,x,rfl⟩:=oL H.o.h9;obtain⟨i,j,rfl⟩:=oL H.o.h11;obtain⟨k,l,rfl⟩:=oL H.o.h14;refine TI 11 (v:=?v) rfl (by kernel_rfl) (by kernel_rfl) (by kernel_rfl) (fun c a w h=>X.pan c a _ _ w h) rfl ?y (X.s _ H.o.f) ?r
 case y=>rintro w z;go_simp;with_reducible rfl
 try go_frame
 exact sj H rfl rfl
theorem V7:Pu X 3 true true true true false true:=by
 intro w l m n c d L a H g h;subst g h;refine XC [10] ?_;refine Zb rfl (fun K i=>?_) O
 all_goals
  try rw[if_pos (by rfl)]
  go_simp
 ·exact(X.f14 _ H.o.f).mono fun e w' ⟨⟨v,j,k⟩,b⟩=>by subst j;exact i.out _ _ (X.s _ (H.o.fr b).f) fun _=>V6 _ _ _ _ _ _ _ _ (Za (H.o.s10 b k)) rfl rfl
theorem UC:Pu X 3 true false true true true true:=by
 intro w h i j b c L a H d e;subst d e;refine XC [2] ?_;refine Zb rfl (fun K g=>?_) O
 all_goals
  try rw[if_pos (by rfl)]
  go_simp
 ·exact g.out _ _ (X.s _ H.o.s2.f) fun _=>V6 _ _ _ _ _ _ _ _ (Za H.o.s2) rfl rfl
theorem U7:Pu X 3 true true true true true false:=by
 intro w n p q b d L a H e g;subst e g;obtain⟨t,u,rfl⟩:=oL H.o.h6;obtain⟨x,z,rfl⟩:=oL H.o.h9;obtain⟨i,j,rfl⟩:=oL H.o.h11;obtain⟨k,l,rfl⟩:=oL H.o.h14;refine TI 11 (v:=?v) rfl (by kernel_rfl) (by kernel_rfl) (by kernel_rfl) (fun c a w h=>X.pan c a _ _ w h) rfl ?y (X.s _ H.o.f) ?r
 case y=>rintro w A;go_simp;with_reducible rfl
 try go_frame
 refine Vy 12 (fun K m=>?_);go_simp
 exact m.out _ _ (X.s _ H.o.s12.f) fun _=>sj (Za H.o.s12) rfl rfl
theorem UD:Pu X 3 true true true false true true:=by
 intro w h i j b c L a H d e;subst d e;refine XC [7] ?_;refine Zb rfl (fun K g=>?_) O
 all_goals
  try rw[if_pos (by rfl)]
  go_simp
 ·exact g.out _ _ (X.s _ H.o.s7.f) fun _=>V6 _ _ _ _ _ _ _ _ (Za H.o.s7) rfl rfl
theorem So:Pu X 4 true true false true false true:=by
 intro w l m n c d L a H g h;subst g h;refine XC [5] ?_;refine Zb rfl (fun K i=>?_) O
 all_goals
  try rw[if_pos (by rfl)]
  go_simp
 ·exact(X.f9 _ H.o.f).mono fun e w' ⟨⟨v,j,k⟩,b⟩=>by subst j;exact i.out _ _ (X.s _ (H.o.fr b).f) fun _=>V7 _ _ _ _ _ _ _ _ (Za (H.o.s5 b k)) rfl rfl
theorem Sp:Pu X 4 true false true true false true:=by
 intro w l m n d g L a H h i;subst h i;refine XC [2,10] ?_;refine Zb rfl (fun K b=>?_) (Zb rfl (fun K b=>?_) O)
 all_goals
  try rw[if_pos (by rfl)]
  go_simp
 ·exact b.out _ _ (X.s _ H.o.s2.f) fun _=>V7 _ _ _ _ _ _ _ _ (Za H.o.s2) rfl rfl
 exact(X.f14 _ H.o.f).mono fun e w' ⟨⟨v,j,k⟩,c⟩=>by subst j;exact b.out _ _ (X.s _ (H.o.fr c).f) fun _=>UC _ _ _ _ _ _ _ _ (Za (H.o.s10 c k)) rfl rfl
theorem S0:Pu X 4 true true true true false false:=by
 intro w l m n d g L a H h i;subst h i;refine XC [10,12] ?_;refine Zb rfl (fun K b=>?_) (Zb rfl (fun K b=>?_) O)
 all_goals
  try rw[if_pos (by rfl)]
  go_simp
 ·exact(X.f14 _ H.o.f).mono fun e w' ⟨⟨v,j,k⟩,c⟩=>by subst j;exact b.out _ _ (X.s _ (H.o.fr c).f) fun _=>U7 _ _ _ _ _ _ _ _ (Za (H.o.s10 c k)) rfl rfl
 exact b.out _ _ (X.s _ H.o.s12.f) fun _=>V7 _ _ _ _ _ _ _ _ (Za H.o.s12) rfl rfl
theorem Sq:Pu X 4 true true true false false true:=by
 intro w l m n d g L a H h i;subst h i;refine XC [7,10] ?_;refine Zb rfl (fun K b=>?_) (Zb rfl (fun K b=>?_) O)
 all_goals
  try rw[if_pos (by rfl)]
  go_simp
 ·exact b.out _ _ (X.s _ H.o.s7.f) fun _=>V7 _ _ _ _ _ _ _ _ (Za H.o.s7) rfl rfl
 exact(X.f14 _ H.o.f).mono fun e w' ⟨⟨v,j,k⟩,c⟩=>by subst j;exact b.out _ _ (X.s _ (H.o.fr c).f) fun _=>UD _ _ _ _ _ _ _ _ (Za (H.o.s10 c k)) rfl rfl
theorem Ph:Pu X 4 true false true true true false:=by
 intro w h i j c d L a H e g;subst e g;refine XC [2,12] ?_;refine Zb rfl (fun K b=>?_) (Zb rfl (fun K b=>?_) O)
 all_goals
  try rw[if_pos (by rfl)]
  go_simp
 ·exact b.out _ _ (X.s _ H.o.s2.f) fun _=>U7 _ _ _ _ _ _ _ _ (Za H.o.s2) rfl rfl
 exact b.out _ _ (X.s _ H.o.s12.f) fun _=>UC _ _ _ _ _ _ _ _ (Za H.o.s12) rfl rfl
theorem RX:Pu X 4 true false true false true true:=by
 intro w h i j c d L a H e g;subst e g;refine XC [2,7] ?_;refine Zb rfl (fun K b=>?_) (Zb rfl (fun K b=>?_) O)
 all_goals
  try rw[if_pos (by rfl)]
  go_simp
 ·exact b.out _ _ (X.s _ H.o.s2.f) fun _=>UD _ _ _ _ _ _ _ _ (Za H.o.s2) rfl rfl
 exact b.out _ _ (X.s _ H.o.s7.f) fun _=>UC _ _ _ _ _ _ _ _ (Za H.o.s7) rfl rfl
theorem Pi:Pu X 4 true true true false true false:=by
 intro w h i j c d L a H e g;subst e g;refine XC [7,12] ?_;refine Zb rfl (fun K b=>?_) (Zb rfl (fun K b=>?_) O)
 all_goals
  try rw[if_pos (by rfl)]
  go_simp
 ·exact b.out _ _ (X.s _ H.o.s7.f) fun _=>U7 _ _ _ _ _ _ _ _ (Za H.o.s7) rfl rfl
 exact b.out _ _ (X.s _ H.o.s12.f) fun _=>UD _ _ _ _ _ _ _ _ (Za H.o.s12) rfl rfl
theorem Qs:Pu X 5 true false false true false true:=by
 intro w l m n d g L a H h i;subst h i;refine XC [2,5] ?_;refine Zb rfl (fun K b=>?_) (Zb rfl (fun K b=>?_) O)
 all_goals
  try rw[if_pos (by rfl)]
  go_simp
 ·exact b.out _ _ (X.s _ H.o.s2.f) fun _=>So _ _ _ _ _ _ _ _ (Za H.o.s2) rfl rfl
 exact(X.f9 _ H.o.f).mono fun e w' ⟨⟨v,j,k⟩,c⟩=>by subst j;exact b.out _ _ (X.s _ (H.o.fr c).f) fun _=>Sp _ _ _ _ _ _ _ _ (Za (H.o.s5 c k)) rfl rfl
theorem KC:Pu X 5 true true false true false false:=by
 intro w l m n d g L a H h i;subst h i;refine XC [5,12] ?_;refine Zb rfl (fun K b=>?_) (Zb rfl (fun K b=>?_) O)
 all_goals
  try rw[if_pos (by rfl)]
  go_simp
 ·exact(X.f9 _ H.o.f).mono fun e w' ⟨⟨v,j,k⟩,c⟩=>by subst j;exact b.out _ _ (X.s _ (H.o.fr c).f) fun _=>S0 _ _ _ _ _ _ _ _ (Za (H.o.s5 c k)) rfl rfl
 exact b.out _ _ (X.s _ H.o.s12.f) fun _=>So _ _ _ _ _ _ _ _ (Za H.o.s12) rfl rfl
theorem MI:Pu X 5 true true false false false true:=by
 intro w l m n d g L a H h i;subst h i;refine XC [5,7] ?_;refine Zb rfl (fun K b=>?_) (Zb rfl (fun K b=>?_) O)
 all_goals
  try rw[if_pos (by rfl)]
  go_simp
 ·exact(X.f9 _ H.o.f).mono fun e w' ⟨⟨v,j,k⟩,c⟩=>by subst j;exact b.out _ _ (X.s _ (H.o.fr c).f) fun _=>Sq _ _ _ _ _ _ _ _ (Za (H.o.s5 c k)) rfl rfl
 exact b.out _ _ (X.s _ H.o.s7.f) fun _=>So _ _ _ _ _ _ _ _ (Za H.o.s7) rfl rfl
theorem KE:Pu X 5 true false true true false false:=by
 intro w l m n d g L a H h i;subst h i;refine XC [2,10,12] ?_;refine Zb rfl (fun K b=>?_) (Zb rfl (fun K b=>?_) (Zb rfl (fun K b=>?_) O))
 all_goals
  try rw[if_pos (by rfl)]
  go_simp
 ·exact b.out _ _ (X.s _ H.o.s2.f) fun _=>S0 _ _ _ _ _ _ _ _ (Za H.o.s2) rfl rfl
 ·exact(X.f14 _ H.o.f).mono fun e w' ⟨⟨v,j,k⟩,c⟩=>by subst j;exact b.out _ _ (X.s _ (H.o.fr c).f) fun _=>Ph _ _ _ _ _ _ _ _ (Za (H.o.s10 c k)) rfl rfl
 exact b.out _ _ (X.s _ H.o.s12.f) fun _=>Sp _ _ _ _ _ _ _ _ (Za H.o.s12) rfl rfl
theorem MJ:Pu X 5 true false true false false true:=by
 intro w l m n d g L a H h i;subst h i;refine XC [2,7,10] ?_;refine Zb rfl (fun K b=>?_) (Zb rfl (fun K b=>?_) (Zb rfl (fun K b=>?_) O))
 all_goals
  try rw[if_pos (by rfl)]
  go_simp
 ·exact b.out _ _ (X.s _ H.o.s2.f) fun _=>Sq _ _ _ _ _ _ _ _ (Za H.o.s2) rfl rfl
 ·exact b.out _ _ (X.s _ H.o.s7.f) fun _=>Sp _ _ _ _ _ _ _ _ (Za H.o.s7) rfl rfl
 exact(X.f14 _ H.o.f).mono fun e w' ⟨⟨v,j,k⟩,c⟩=>by subst j;exact b.out _ _ (X.s _ (H.o.fr c).f) fun _=>RX _ _ _ _ _ _ _ _ (Za (H.o.s10 c k)) rfl rfl
theorem KF:Pu X 5 true true true false false false:=by
 intro w l m n d g L a H h i;subst h i;refine XC [7,10,12] ?_;refine Zb rfl (fun K b=>?_) (Zb rfl (fun K b=>?_) (Zb rfl (fun K b=>?_) O))
 all_goals
  try rw[if_pos (by rfl)]
  go_simp
 ·exact b.out _ _ (X.s _ H.o.s7.f) fun _=>S0 _ _ _ _ _ _ _ _ (Za H.o.s7) rfl rfl
 ·exact(X.f14 _ H.o.f).mono fun e w' ⟨⟨v,j,k⟩,c⟩=>by subst j;exact b.out _ _ (X.s _ (H.o.fr c).f) fun _=>Pi _ _ _ _ _ _ _ _ (Za (H.o.s10 c k)) rfl rfl
 exact b.out _ _ (X.s _ H.o.s12.f) fun _=>Sq _ _ _ _ _ _ _ _ (Za H.o.s12) rfl rfl
theorem Ef:Pu X 5 true false true false true false:=by
 intro w h i j c d L a H e g;subst e g;refine XC [2,7,12] ?_;refine Zb rfl (fun K b=>?_) (Zb rfl (fun K b=>?_) (Zb rfl (fun K b=>?_) O))
 all_goals
  try rw[if_pos (by rfl)]
  go_simp
 ·exact b.out _ _ (X.s _ H.o.s2.f) fun _=>Pi _ _ _ _ _ _ _ _ (Za H.o.s2) rfl rfl
 ·exact b.out _ _ (X.s _ H.o.s7.f) fun _=>Ph _ _ _ _ _ _ _ _ (Za H.o.s7) rfl rfl
 exact b.out _ _ (X.s _ H.o.s12.f) fun _=>RX _ _ _ _ _ _ _ _ (Za H.o.s12) rfl rfl
theorem Ht:Pu X 6 false false false true false true:=by
 intro w k l m c d L a H g h;subst g h;refine XC [1] ?_;refine Zb rfl (fun K i=>?_) O
 all_goals
  try rw[if_pos (by rfl)]
  go_simp
 ·exact(X.f5 _ H.o.f).mono fun e w' ⟨j,b⟩=>by subst j;exact i.out _ _ (X.s _ (H.o.fr b).f) fun _=>Qs _ _ _ _ _ _ _ _ (Za (H.o.fr b)) rfl rfl
theorem Dx:Pu X 6 true false false true false false:=by
 intro w l m n d g L a H h i;subst h i;refine XC [2,5,12] ?_;refine Zb rfl (fun K b=>?_) (Zb rfl (fun K b=>?_) (Zb rfl (fun K b=>?_) O))
 all_goals
  try rw[if_pos (by rfl)]
  go_simp
 ·exact b.out _ _ (X.s _ H.o.s2.f) fun _=>KC _ _ _ _ _ _ _ _ (Za H.o.s2) rfl rfl
 ·exact(X.f9 _ H.o.f).mono fun e w' ⟨⟨v,j,k⟩,c⟩=>by subst j;exact b.out _ _ (X.s _ (H.o.fr c).f) fun _=>KE _ _ _ _ _ _ _ _ (Za (H.o.s5 c k)) rfl rfl
 exact b.out _ _ (X.s _ H.o.s12.f) fun _=>Qs _ _ _ _ _ _ _ _ (Za H.o.s12) rfl rfl
theorem Hu:Pu X 6 true false false false false true:=by
 intro w l m n d g L a H h i;subst h i;refine XC [2,5,7] ?_;refine Zb rfl (fun K b=>?_) (Zb rfl (fun K b=>?_) (Zb rfl (fun K b=>?_) O))
 all_goals
  try rw[if_pos (by rfl)]
  go_simp
 ·exact b.out _ _ (X.s _ H.o.s2.f) fun _=>MI _ _ _ _ _ _ _ _ (Za H.o.s2) rfl rfl
 ·exact(X.f9 _ H.o.f).mono fun e w' ⟨⟨v,j,k⟩,c⟩=>by subst j;exact b.out _ _ (X.s _ (H.o.fr c).f) fun _=>MJ _ _ _ _ _ _ _ _ (Za (H.o.s5 c k)) rfl rfl
 exact b.out _ _ (X.s _ H.o.s7.f) fun _=>Qs _ _ _ _ _ _ _ _ (Za H.o.s7) rfl rfl
theorem xz:Pu X 6 true true false false false false:=by
 intro w l m n d g L a H h i;subst h i;refine XC [5,7,12] ?_;refine Zb rfl (fun K b=>?_) (Zb rfl (fun K b=>?_) (Zb rfl (fun K b=>?_) O))
 all_goals
  try rw[if_pos (by rfl)]
  go_simp
 ·exact(X.f9 _ H.o.f).mono fun e w' ⟨⟨v,j,k⟩,c⟩=>by subst j;exact b.out _ _ (X.s _ (H.o.fr c).f) fun _=>KF _ _ _ _ _ _ _ _ (Za (H.o.s5 c k)) rfl rfl
 ·exact b.out _ _ (X.s _ H.o.s7.f) fun _=>KC _ _ _ _ _ _ _ _ (Za H.o.s7) rfl rfl
 exact b.out _ _ (X.s _ H.o.s12.f) fun _=>MI _ _ _ _ _ _ _ _ (Za H.o.s12) rfl rfl
theorem xA:Pu X 6 true false true false false false:=by
 intro w l m n d g L a H h i;subst h i;refine XC [2,7,10,12] ?_;refine Zb rfl (fun K b=>?_) (Zb rfl (fun K b=>?_) (Zb rfl (fun K b=>?_) (Zb rfl (fun K b=>?_) O)))
 all_goals
  try rw[if_pos (by rfl)]
  go_simp
 ·exact b.out _ _ (X.s _ H.o.s2.f) fun _=>KF _ _ _ _ _ _ _ _ (Za H.o.s2) rfl rfl
 ·exact b.out _ _ (X.s _ H.o.s7.f) fun _=>KE _ _ _ _ _ _ _ _ (Za H.o.s7) rfl rfl
 ·exact(X.f14 _ H.o.f).mono fun e w' ⟨⟨v,j,k⟩,c⟩=>by subst j;exact b.out _ _ (X.s _ (H.o.fr c).f) fun _=>Ef _ _ _ _ _ _ _ _ (Za (H.o.s10 c k)) rfl rfl
 exact b.out _ _ (X.s _ H.o.s12.f) fun _=>MJ _ _ _ _ _ _ _ _ (Za H.o.s12) rfl rfl
theorem uv:Pu X 7 false false false true false false:=by
 intro w k l m d g L a H h i;subst h i;refine XC [1,12] ?_;refine Zb rfl (fun K b=>?_) (Zb rfl (fun K b=>?_) O)
 all_goals
  try rw[if_pos (by rfl)]
  go_simp
 ·exact(X.f5 _ H.o.f).mono fun e w' ⟨j,c⟩=>by subst j;exact b.out _ _ (X.s _ (H.o.fr c).f) fun _=>Dx _ _ _ _ _ _ _ _ (Za (H.o.fr c)) rfl rfl
 exact b.out _ _ (X.s _ H.o.s12.f) fun _=>Ht _ _ _ _ _ _ _ _ (Za H.o.s12) rfl rfl
theorem vJ:Pu X 7 false false false false false true:=by
 intro w k l m d g L a H h i;subst h i;refine XC [1,7] ?_;refine Zb rfl (fun K b=>?_) (Zb rfl (fun K b=>?_) O)
 all_goals
  try rw[if_pos (by rfl)]
  go_simp
 ·exact(X.f5 _ H.o.f).mono fun e w' ⟨j,c⟩=>by subst j;exact b.out _ _ (X.s _ (H.o.fr c).f) fun _=>Hu _ _ _ _ _ _ _ _ (Za (H.o.fr c)) rfl rfl
 exact b.out _ _ (X.s _ H.o.s7.f) fun _=>Ht _ _ _ _ _ _ _ _ (Za H.o.s7) rfl rfl
theorem uw:Pu X 7 true false false false false false:=by
 intro w l m n d g L a H h i;subst h i;refine XC [2,5,7,12] ?_;refine Zb rfl (fun K b=>?_) (Zb rfl (fun K b=>?_) (Zb rfl (fun K b=>?_) (Zb rfl (fun K b=>?_) O)))
 all_goals
  try rw[if_pos (by rfl)]
  go_simp
 ·exact b.out _ _ (X.s _ H.o.s2.f) fun _=>xz _ _ _ _ _ _ _ _ (Za H.o.s2) rfl rfl
 ·exact(X.f9 _ H.o.f).mono fun e w' ⟨⟨v,j,k⟩,c⟩=>by subst j;exact b.out _ _ (X.s _ (H.o.fr c).f) fun _=>xA _ _ _ _ _ _ _ _ (Za (H.o.s5 c k)) rfl rfl
 ·exact b.out _ _ (X.s _ H.o.s7.f) fun _=>Dx _ _ _ _ _ _ _ _ (Za H.o.s7) rfl rfl
 exact b.out _ _ (X.s _ H.o.s12.f) fun _=>Hu _ _ _ _ _ _ _ _ (Za H.o.s12) rfl rfl
theorem sI:Pu X 8 false false false false false false:=by
 intro w k l m d g L a H h i;subst h i;refine XC [1,7,12] ?_;refine Zb rfl (fun K b=>?_) (Zb rfl (fun K b=>?_) (Zb rfl (fun K b=>?_) O))
 all_goals
  try rw[if_pos (by rfl)]
  go_simp
 ·exact(X.f5 _ H.o.f).mono fun e w' ⟨j,c⟩=>by subst j;exact b.out _ _ (X.s _ (H.o.fr c).f) fun _=>uw _ _ _ _ _ _ _ _ (Za (H.o.fr c)) rfl rfl
 ·exact b.out _ _ (X.s _ H.o.s7.f) fun _=>uv _ _ _ _ _ _ _ _ (Za H.o.s7) rfl rfl
 exact b.out _ _ (X.s _ H.o.s12.f) fun _=>vJ _ _ _ _ _ _ _ _ (Za H.o.s12) rfl rfl
end
theorem SA.at {w0 w a n c l}(h:SA w0 w (I a n c) l):RA w a l:=by
 intro k s b;have q:=(iG.1 b).1;obtain⟨g,cap,e,t,_⟩:=x8.form h (by omega);injection e with d f i;subst d f i;have j:=x8.cellAt h (2*k) (by omega);have c1:=x8.cellAt h (2*k+1) (by omega)
 have r:∀(l:List Rt)(k:Nat)(s:Rt),l[k]?=U s->(RW l)[2*k]?=U (V J (s.1:Nat))/\(RW l)[2*k+1]?=U (V J (s.2:Nat)):=by
  intro l
  induction l with
  |nil=>intro k s h;simp at h
  |cons x r m=>
   intro k s h
   cases k with
   |zero=>
    simp at h;subst h;exact⟨rfl,rfl⟩
   |succ k=>
    simp at h;have e:=m k s h;rw[show 2*(k+1)=2*k+2 from by omega];exact e
 obtain⟨o,p⟩:=r l k s b;refine⟨g,0,rfl,?_,?_⟩
 ·rw[y6,j,o]
 rw[y6,c1,p]
theorem SA.new {w0 w a n c l}(h:SA w0 w (I a n c) l):∀g o,a=U ⟨g,o,Y⟩->w0.heap.size<=g/\g<w.heap.size:=by
 rintro g o rfl;rcases h.2 with⟨e,_⟩|⟨i,cap,b,e,d,f,_⟩
 ·cases e
 cases e
 exact⟨d,(iA.1 f).1⟩
def Tt (m n:Nat)(b c d e:G0):Prop:=∀x,x=b\/x=c\/x=d\/x=e->∀g o,x.a=U ⟨g,o,Y⟩->m<=g/\g<n
theorem RA.frS {w w' S a l}(h:RA w a l)(c:Fr S w w')(d:∀g o,a=U ⟨g,o,Y⟩->g<w.heap.size->¬S g):RA w' a l:=by
 intro k s i;obtain⟨g,o,e,f,j⟩:=h k s i;have b:=bL w _ f;exact⟨g,o,e,(c.cell (p:=⟨g,o+2*k,Y⟩) b (d g o e b)).trans f,(c.cell (p:=⟨g,o+2*k+1,Y⟩) b (d g o e b)).trans j⟩
theorem PW.frS {w w' S A b c d e}(h:PW w A b c d e)(f:Fr S w w')(i:∀x,x=b\/x=c\/x=d\/x=e->∀g o,x.a=U ⟨g,o,Y⟩->g<w.heap.size->¬S g):PW w' A b c d e:=
 ⟨h.p0.frS f (i b (.inl rfl)),h.p1.frS f (i c (.inr (.inl rfl))),h.p2.frS f (i d (.inr (.inr (.inl rfl)))),h.p3.frS f (i e (.inr (.inr (.inr rfl)))),h.few⟩
def RY (dg lo hi:Nat)(b:List Nat)(a:Bool)(c d:Nat)(e:List Nat):SJ:=⟨[WQ dg lo hi],Yl b 9999,[if a then(c,d)else(0,1000000000)],Yl e 999⟩
theorem Sr {l m}(h:l.length<=10):(Yl l m).length<=10:=by unfold Yl;split<;>simp[h]
theorem KG {w0 W}(a c l b)(h:Zu w0 a l)(j:l.length<=4000)(f:F0 w0 W):
  z9 G 174 #[I a l.length c,V J (b:Nat)] W fun e w'=>(∃v,e=C v/\SA w0 w' v (Yl l b))/\F0 W w':=by
 have hi:Zu W a l:=fun k x m=>by
  obtain⟨g,e,i⟩:=h k x m;exact⟨g,e,(f.cell (p:=⟨g,k,Y⟩) (bL w0 _ i)).trans i⟩
 refine(Ea W a c l b hi j).mono ?_;rintro e w' ⟨⟨v,rfl,n⟩,d⟩;exact⟨⟨v,rfl,oS n f.size⟩,d⟩
theorem MK (w nm rk dg lo hi R mc i f y z Z cc j dc ch pa pn pc ah)(hd:dg<=6)(J0:lo<=hi)(K0:hi<1000000)(hm:Zu w R i)(L0:i.length<=10)(hc:Zu w Z j)(M0:j.length<=10):
  z9 G 114 #[GY nm rk dg lo hi R i.length mc f y z Z j.length cc dc ch pa pn pc ah] w fun e w'=>(∃x0 x1 x2 x3 A,A=RY dg lo hi i f y z j/\e=C (y5 #[Xp x0 A.s0,Xp x1 A.s1,Xp x2 A.s2,Xp x3 A.s3])/\PW w' A x0 x1 x2 x3/\Tt w.heap.size w'.heap.size x0 x1 x2 x3)/\F0 w w':=by
 obtain⟨B0,C0⟩:=VA w (Lq nm rk dg lo hi R i.length mc f y z Z j.length cc dc ch pa pn pc ah);have a0:=(SE w (Lq nm rk dg lo hi R i.length mc f y z Z j.length cc dc ch pa pn pc ah) (E #[I Y 0 0,I Y 0 0,I Y 0 0,I Y 0 0] 215)).2.2;have g0:T (F0 (w.alloc (Lq nm rk dg lo hi R i.length mc f y z Z j.length cc dc ch pa pn pc ah)) ((w.alloc (Lq nm rk dg lo hi R i.length mc f y z Z j.length cc dc ch pa pn pc ah)).alloc (E #[I Y 0 0,I Y 0 0,I Y 0 0,I Y 0 0] 215))):=Zt.alloc _
 have h0:T (∀W,z9 G 173 #[GY nm rk dg lo hi R i.length mc f y z Z j.length cc dc ch pa pn pc ah] W fun e w'=>e=C (y5 #[V J ((WQ dg lo hi).1:Nat),V J ((WQ dg lo hi).2:Nat)])/\F0 W w'):=fun W=>Be W nm rk dg lo hi R i.length mc f y z Z j.length cc dc ch pa pn pc ah hd J0 K0
 have HM:=Za hm;have HC:=Za hc;have i0:=Za L0;have l0:=Za M0;unfold Lq at C0 B0 a0 g0;unfold GY at h0 ⊢;go_enter Tryz.func114,Tryz.ntmps114;go_upto_region 1 with fail;generalize w.alloc _=w0 at*;generalize w0.alloc _=w1 at*;have D:=Za (g0.o.whole C0.o);have c:=Za (B0.o.trans g0.o);obtain⟨P,hP⟩:∃P,w.heap.size=P:=⟨_,rfl⟩;have HP:=Za hP;rw[hP]at D a0;rw[hP];obtain⟨n1,m0⟩:∃n,i.length=n:=⟨_,rfl⟩;obtain⟨n2,n0⟩:∃n,j.length=n:=⟨_,rfl⟩;have N0:=Za m0;have O0:=Za n0;rw[m0,n0]at D h0;rw[m0,n0];refine wp_region_held_drew (S:=fun W=>W.heap[P]?=U (E #[.string nm,V J rk,V J dg,V J lo,V J hi,I R n1 mc,y4 f,V J y,V J z,I Z n2 cc,y4 dc,y4 ch,I pa pn pc,V J ah] 120)) (by kernel_rfl) D.o (fun hH=>?_);refine US 0 (v:=?v0z) ?y0z hH ?r0z
 case y0z=>
  rintro w r;obtain⟨c0,c1,c2,c3,c4,c5,c6,c7,c8,c9,H,K,L,M⟩:=ZZ r;go_simp
  with_reducible rfl
 try go_frame
 refine US 3 (v:=?v3z) ?y3z hH ?r3z
 case y3z=>
  rintro w r;obtain⟨c0,c1,c2,c3,c4,c5,c6,c7,c8,c9,H,K,L,M⟩:=ZZ r;go_simp
  with_reducible rfl
 try go_frame
 refine US 4 (v:=?v4z) ?y4z hH ?r4z
 case y4z=>
  rintro w r;obtain⟨c0,c1,c2,c3,c4,c5,c6,c7,c8,c9,H,K,L,M⟩:=ZZ r;go_simp
  with_reducible rfl
 try go_frame
 refine US 6 (v:=?v6z) ?y6z hH ?r6z
 case y6z=>
  rintro w r;obtain⟨c0,c1,c2,c3,c4,c5,c6,c7,c8,c9,H,K,L,M⟩:=ZZ r;go_simp
  with_reducible rfl
 try go_frame
 refine US 8 (v:=?v8z) ?y8z hH ?r8z
 case y8z=>
  rintro w r;obtain⟨c0,c1,c2,c3,c4,c5,c6,c7,c8,c9,H,K,L,M⟩:=ZZ r;go_simp
  with_reducible rfl
 try go_frame
 refine US 9 (v:=?v9z) ?y9z hH ?r9z
 case y9z=>
  rintro w r;obtain⟨c0,c1,c2,c3,c4,c5,c6,c7,c8,c9,H,K,L,M⟩:=ZZ r;go_simp
  with_reducible rfl
 try go_frame
 refine sI (X:=⟨_,_,w1,_,_,_,_,_,_,_,WQ dg lo hi,Yl i 9999,Yl j 999,?s,?f5,?f9,?f14,?pan,?fin⟩) _ _ _ _ _ _ _ _ (Za ⟨Zt.drew,rfl,rfl,rfl,rfl,rfl⟩) rfl rfl
 case s=>exact fun W hf=>hf.whole D.o
 case f5=>exact fun W _=>h0.o W
 case f9=>
  intro W hf;rw[<-N0.o];exact KG R mc i 9999 (HM.o.fr c.o) (by have:=i0.o;omega) hf
 case f14=>
  intro W hf;rw[<-O0.o];exact KG Z cc j 999 (HC.o.fr c.o) (by have:=l0.o;omega) hf
 case pan=>exact fun _ _ d _ _ h=>by cases d<;>exact h
 intro N v6 v9 V0 W0 w5 X0 P0 h6 h9 D0 E0 b0;obtain⟨y0,k0,e0⟩:=oL h6;obtain⟨y1,k1,e1⟩:=oL h9;obtain⟨y2,k2,e2⟩:=oL D0;obtain⟨y3,k3,e3⟩:=oL E0;subst e0 e1 e2 e3;have Y0:P+1<w1.heap.size:=(iA.1 a0.o).1;have o0:=Za (b0.whole D.o);have a:=Za (b0.whole a0.o);have G0:=Za (c.o.trans b0);have H6:=Za h6;have H9:=Za h9;have p0:=Za D0;have d0:=Za E0;have HH:=Za P0
 have Q0:N≠P+1:=by omega
 have Z0:P<=N:=by omega
 have f6:=Zc o0.o 6;have f7:=Zc o0.o 7;have f8:=Zc o0.o 8
 cases f with
 |false=>
  have r0:=Zc a.o 0;have r1:=Zc a.o 1;have r2:=Zc a.o 2;have r3:=Zc a.o 3;have z0:=bF a.o 0;have z1:=bF a.o 1;have z2:=bF a.o 2;have z3:=bF a.o 3;have q0:=Zc HH.o 0;have q1:=Zc HH.o 1;have q2:=Zc HH.o 2;have q3:=Zc HH.o 3;go_wp2_with fail;have t1:=heap_setCell_same w5 (P+1) 0 _ _ (I y0 1 k0) a.o;have l:=heap_setCell_same _ (P+1) 1 _ _ (I y1 (Yl i 9999).length k1) t1;have m:=heap_setCell_same _ (P+1) 2 _ _ (I y2 1 k2) l;have t4:=heap_setCell_same _ (P+1) 3 _ _ (I y3 (Yl j 999).length k3) m
  have q:w.heap.size<=P+1:=by have:=HP.o;omega
  have t0:=(((G0.o.setCell (p:=⟨P+1,0,Y⟩) (F q) (I y0 1 k0)).setCell (p:=⟨P+1,1,Y⟩) (F q) (I y1 (Yl i 9999).length k1)).setCell (p:=⟨P+1,2,Y⟩) (F q) (I y2 1 k2)).setCell (p:=⟨P+1,3,Y⟩) (F q) (I y3 (Yl j 999).length k3);have r:=Zc t4 0;have s1:=Zc t4 1;have s2:=Zc t4 2;have s3:=Zc t4 3;refine bodyPost_ret (v:=y5 #[I y0 1 k0,I y1 (Yl i 9999).length k1,I y2 1 k2,I y3 (Yl j 999).length k3]) (by simp[results,Tryz.results114,go_sem,r,s1,s2,s3]) rfl ⟨⟨⟨y0,k0⟩,⟨y1,k1⟩,⟨y2,k2⟩,⟨y3,k3⟩,_,rfl,rfl,?_,?_⟩,t0⟩
  ·refine⟨?_,?_,?_,?_,fun k=>?_⟩
   ·exact((((H6.o.set a.o).set t1).set l).set m).at
   ·exact((((H9.o.set a.o).set t1).set l).set m).at
   ·exact((((p0.o.set a.o).set t1).set l).set m).at
   ·exact((((d0.o.set a.o).set t1).set l).set m).at
   unfold RY SJ.at
   split
   ·simp
   ·exact Sr i0.o
   ·simp
   exact Sr l0.o
  rintro x (rfl|rfl|rfl|rfl) g o e
  ·exact⟨z7 c.o.size (H6.o.new g o e).1,(SA.new ((((H6.o.set a.o).set t1).set l).set m) g o e).2⟩
  ·exact⟨z7 c.o.size (H9.o.new g o e).1,(SA.new ((((H9.o.set a.o).set t1).set l).set m) g o e).2⟩
  ·exact⟨z7 c.o.size (p0.o.new g o e).1,(SA.new ((((p0.o.set a.o).set t1).set l).set m) g o e).2⟩
  exact⟨z7 c.o.size (d0.o.new g o e).1,(SA.new ((((d0.o.set a.o).set t1).set l).set m) g o e).2⟩
 |true=>
  have H0:=(Lt w5 (E #[V J (y:Nat),V J (z:Nat)] 118)).1;have HA:=Za H0;have I0:=Za (SA.one (y,z) b0.size);have t:=Za (H0.whole HH.o);have p2:=Zc t.o 2;have pz:=bF t.o 2;go_upto_region 4 with fail;generalize w5.alloc _=w6 at*;obtain⟨B,hB⟩:∃B,w5.heap.size=B:=⟨_,rfl⟩;rw[hB]at I0;rw[hB];have R0:=Za (HA.o.whole a.o);have e7:=heap_setCell_same w6 N 2 _ _ (I (U ⟨B,0,Y⟩) 1 1) t.o;have S0:Fr (fun k=>k=N) w6 (w6.setCell ⟨N,2,Y⟩ (I (U ⟨B,0,Y⟩) 1 1)):=(Fr.refl (fun k=>k=N) w6).setCell (p:=⟨N,2,Y⟩) (j0 rfl) _;have b:=Za (S0.whole R0.o (fun e=>Q0 e.symm));have T0:T (F0 w (w6.setCell ⟨N,2,Y⟩ (I (U ⟨B,0,Y⟩) 1 1))):=(G0.o.trans HA.o).setCell (p:=⟨N,2,Y⟩) (F (by have:=HP.o;show _<=N;omega)) _;have v0:=Za ((H6.o.fr HA.o).set (k:=2) (u:=I (U ⟨B,0,Y⟩) 1 1) t.o);have A0:=Za ((H9.o.fr HA.o).set (k:=2) (u:=I (U ⟨B,0,Y⟩) 1 1) t.o);have O:=Za ((d0.o.fr HA.o).set (k:=2) (u:=I (U ⟨B,0,Y⟩) 1 1) t.o);have Q:=Za (I0.o.set (k:=2) (u:=I (U ⟨B,0,Y⟩) 1 1) t.o);have f0:=Za e7;generalize w6.setCell ⟨N,2,Y⟩ (I (U ⟨B,0,Y⟩) 1 1)=w7 at*;have r0:=Zc b.o 0;have r1:=Zc b.o 1;have r2:=Zc b.o 2;have r3:=Zc b.o 3;have z0:=bF b.o 0;have z1:=bF b.o 1;have z2:=bF b.o 2;have z3:=bF b.o 3;have q0:=Zc f0.o 0;have q1:=Zc f0.o 1;have q2:=Zc f0.o 2;have q3:=Zc f0.o 3;go_wp2_with fail;have t1:=heap_setCell_same w7 (P+1) 0 _ _ (I y0 1 k0) b.o;have l:=heap_setCell_same _ (P+1) 1 _ _ (I y1 (Yl i 9999).length k1) t1;have m:=heap_setCell_same _ (P+1) 2 _ _ (I (U ⟨B,0,Y⟩) 1 1) l;have t4:=heap_setCell_same _ (P+1) 3 _ _ (I y3 (Yl j 999).length k3) m
  have q:w.heap.size<=P+1:=by have:=HP.o;omega
  have t0:=(((T0.o.setCell (p:=⟨P+1,0,Y⟩) (F q) (I y0 1 k0)).setCell (p:=⟨P+1,1,Y⟩) (F q) (I y1 (Yl i 9999).length k1)).setCell (p:=⟨P+1,2,Y⟩) (F q) (I (U ⟨B,0,Y⟩) 1 1)).setCell (p:=⟨P+1,3,Y⟩) (F q) (I y3 (Yl j 999).length k3);have r:=Zc t4 0;have s1:=Zc t4 1;have s2:=Zc t4 2;have s3:=Zc t4 3;refine bodyPost_ret (v:=y5 #[I y0 1 k0,I y1 (Yl i 9999).length k1,I (U ⟨B,0,Y⟩) 1 1,I y3 (Yl j 999).length k3]) (by simp[results,Tryz.results114,go_sem,r,s1,s2,s3]) rfl ⟨⟨⟨y0,k0⟩,⟨y1,k1⟩,⟨U ⟨B,0,Y⟩,1⟩,⟨y3,k3⟩,_,rfl,rfl,?_,?_⟩,t0⟩
  ·refine⟨?_,?_,?_,?_,fun k=>?_⟩
   ·exact((((v0.o.set b.o).set t1).set l).set m).at
   ·exact((((A0.o.set b.o).set t1).set l).set m).at
   ·exact((((Q.o.set b.o).set t1).set l).set m).at
   ·exact((((O.o.set b.o).set t1).set l).set m).at
   unfold RY SJ.at
   split
   ·simp
   ·exact Sr i0.o
   ·simp
   exact Sr l0.o
  rintro x (rfl|rfl|rfl|rfl) g o e
  ·exact⟨z7 c.o.size (v0.o.new g o e).1,(SA.new ((((v0.o.set b.o).set t1).set l).set m) g o e).2⟩
  ·exact⟨z7 c.o.size (A0.o.new g o e).1,(SA.new ((((A0.o.set b.o).set t1).set l).set m) g o e).2⟩
  ·exact⟨z7 c.o.size (Q.o.new g o e).1,(SA.new ((((Q.o.set b.o).set t1).set l).set m) g o e).2⟩
  exact⟨z7 c.o.size (O.o.new g o e).1,(SA.new ((((O.o.set b.o).set t1).set l).set m) g o e).2⟩
