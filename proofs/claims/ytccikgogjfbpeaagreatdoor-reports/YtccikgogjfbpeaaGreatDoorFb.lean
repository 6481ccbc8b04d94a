import Derived.Test.YtccikgogjfbpeaaGreatDoorFa
import Derived.Test.YtccikgogjfbpeaaGreatDoorZi
open Option renaming some->I,none->J
open Go renaming World->V,Value->Y
open Go.Value renaming slice->Z,int->K,string->H,string->M,bool->F,pointer->z4,ownBlock->y3,slice->x0
open Bool renaming and_eq_true->U,or_eq_true->z5,or_false->y5
open Go.IntKind renaming i64->O
open List renaming append_nil->E,take_of_length_le->A,getElem?_append_left->z2,mem_singleton->z9,any_eq_true->y0,map_append->y1,mem_append->y2,any_cons->y4,mem_map->y6,any_nil->y7
open Or renaming inl->G,inr->z3
open Int renaming toNat_of_nonneg->C
open Go.Proofs.Tryz renaming prog->z0
open Go.Obj renaming cells->z1
open Nat renaming mul_one->z6,le_refl->z7,lt_or_ge->z8,mul_pos->y8,pow_pos->y9
namespace Go.Proofs.YtccikgogjfbpeaaGreatDoor
set_option maxRecDepth 30000
set_option maxHeartbeats 8000000
open Go.RowKit
def Jh (w W:V)(D N:Nat)(Q:Nat->Bool->Prop):Prop:=∃a,W.ownsRow w.heap.size 4 1 (Z (I ⟨D,0,J⟩) N N) N a/\(∀k,k<N->∃b,a[k]?=I (F b)/\Q k b)/\F0 w W
theorem Jh.fr {w W a:V}{D N:Nat}{Q:Nat->Bool->Prop}(h:Jh w W D N Q)(b:F0 W a):Jh w a D N Q:=by
 obtain⟨c,d,e,f⟩:=h;exact⟨c,oF d b (by simp),e,f.trans b⟩
theorem Jh.weak {w W:V}{D N:Nat}{Q Q':Nat->Bool->Prop}(h:Jh w W D N Q)(c:∀k b,k<N->Q k b->Q' k b):Jh w W D N Q':=by
 obtain⟨d,f,g,i⟩:=h;exact⟨d,f,fun k a=>let⟨b,e,j⟩:=g k a;⟨b,e,c k b a j⟩,i⟩
theorem Jh.step {w W:V}{D N i:Nat}{Q Q':Nat->Bool->Prop}(h:Jh w W D N Q)(o:i<N)(v:Bool)(d:∀k b,k<N->k≠i->Q k b->Q' k b)(f:Q' i v):Jh w (W.setCell ⟨D,i,J⟩ (F v)) D N Q'/\(∃u,W.cell? ⟨D,i,J⟩=I u)/\W.frozen? ⟨D,i,J⟩=false:=by
 obtain⟨q,a,g,j⟩:=h;have r:=a.1;obtain⟨l,_⟩:=a.stored i (F v);refine⟨⟨_,l,fun k c=>?_,j.setCell (p:=⟨D,i,J⟩) (z3 (a.lt D rfl).1) _⟩,?_,a.frozenAt i⟩
 ·by_cases e:k=i
  ·subst e
   exact⟨v,by rw[List.getElem?_set_self (by omega)],f⟩
  ·obtain⟨b,m,n⟩:=g k c
   exact⟨b,by rw[List.getElem?_set_ne (by omega)];exact m,d k b c e n⟩
 ·rw[a.cellAt i (by omega),gE (by omega)]
  exact⟨_,rfl⟩
theorem FSq {S:List ZI}{i:Nat}{p:ZI}(h:S[i]?=I p):∀j v,[H p.pan,K O p.mcc,K O p.am,K O p.cur][j]?=I v->(XH S)[i*4+j]?=I v:=by
 induction S generalizing i with
 |nil=>simp at h
 |cons q r c=>
  intro j v a;have b:=(iG.1 a).1;simp at b
  cases i with
  |zero=>
   simp at h;subst h
   show([H q.pan,K O q.mcc,K O q.am,K O q.cur]++XH r)[0*4+j]?=_
   rw[Nat.zero_mul,Nat.zero_add,z2 (by simp;omega)];exact a
  |succ i=>
   show([H q.pan,K O q.mcc,K O q.am,K O q.cur]++XH r)[(i+1)*4+j]?=_
   rw[aR (by simp;omega)];have:=c (by simpa using h) j v a;rw[<-this]
   congr 1
   simp;omega
theorem Lt {W:V}{base n c j:Nat}{a:Option Addr}{S:List ZI}{p:ZI}(h:W.ownsRow base 35 4 (Z a n c) n (XH S))(i:S.length=n)(b:S[j]?=I p):
  ∃g,a=I ⟨g,0,J⟩/\W.cell? ⟨g,j*4,J⟩=I (M p.pan)/\W.cell? ⟨g,j*4+1,J⟩=I (K O p.mcc)/\W.cell? ⟨g,j*4+2,J⟩=I (K O p.am)/\W.cell? ⟨g,j*4+3,J⟩=I (K O p.cur):=by
 have l:=(iG.1 b).1;obtain⟨g,m,e,_⟩:=h.form (by omega);injection e with e _ f;subst e f
 have k:∀o v,[H p.pan,K O p.mcc,K O p.am,K O p.cur][o]?=I v->W.cell? ⟨g,j*4+o,J⟩=I v:=fun o v d=>(h.cellAt _ (by have:=(iG.1 d).1;simp at this;omega)).trans (FSq b o v d)
 exact⟨g,rfl,k 0 _ rfl,k 1 _ rfl,k 2 _ rfl,k 3 _ rfl⟩
theorem Nf:(z0.info? 4).map (fun i=>(i.zero,i.size,i.bytes))=I (I (F false),1,1):=by kernel_rfl
theorem IQ (w:V)(q:Nat)(f:List Zd)(R:List Zc)(h:TO w q f R)(hb:YE f R)(ha:∀r,r∈R->r.mcc.length<=4/\r.cur.length<=4):
  Calls z0 90 #[z4 (I ⟨q,0,J⟩)] w fun e w'=>∃D,e=.returned (Z (I ⟨D,0,J⟩) R.length R.length)/\Jh w w' D R.length fun k b=>b=false↔∃p,Yd p=true/\Rt R p=I k:=by
 obtain⟨ij,h0,i0,j0,l0⟩:=info_parts Nf
 have m0:=Za fun W s=>K5 W q f R (h.fr s) hb ha
 have n0:=Za fun W s p t=>R4 W q f R p (h.fr (w':=W) s) hb t
 obtain⟨la,lc,a,_⟩:=h.c2;have o0:=hb.l8;obtain⟨N,hN⟩:∃N,R.length=N:=⟨_,rfl⟩;have HN:=Za hN;rw[hN]at o0 a ⊢;have M:=run_make (P:=z0) w 95 4 ij _ Tryz.underlying95 h0 i0 O O (N:Int) (N:Int) (by omega) (by omega) (by rw[l0];omega) (by omega);rw[show(N:Int).toNat=N from by omega,j0,z6]at M;have H2:=Za a
 have Q:Hid (Jh w (w.alloc (z1 (madeCells #[F false] N) 4)) w.heap.size N fun _ _=>True):=by
  have e:=toList_madeCells_one (F false) N;refine⟨(madeCells #[F false] N).toList,⟨by rw[Array.length_toList,size_madeCells,z6],.inr ⟨_,N,_,rfl,z7 _,aN w _,z7 _,by unfold maxLen;omega,by rw[size_madeCells,z6],?_⟩⟩,fun k u=>⟨false,?_,trivial⟩,(Fr.refl _ _).alloc _⟩
  ·rw[A (by rw[Array.length_toList,size_madeCells,z6];exact z7 _)]
  ·show(madeCells #[F false] N).toList[k]?=_
   rw[e,List.getElem?_replicate,if_pos u]
 clear hN h hb ha;go_enter Tryz.func90,Tryz.ntmps90;go_wp2_with fail;generalize w.alloc _=W0 at*;obtain⟨D,hD⟩:∃D,w.heap.size=D:=⟨_,rfl⟩;rw[hD]at Q ⊢;clear M a hD
 go_loopg [4] N (fun m iv wr=>∃i,i<=N/\m=N-i/\iv=K O (i:Nat)/\Hid (Jh w wr D N fun k b=>k<i->b=true))
 case atStart=>exact⟨0,by omega,rfl,rfl,Q.o.weak fun k b _ _ h=>by omega⟩
 case round=>
  obtain⟨i,hi,rfl,rfl,T⟩:=hrel;obtain⟨X,rfl⟩:∃X,X=wr:=⟨_,rfl⟩;obtain⟨_,_,_,s⟩:=T.o;have a:=s.get H2.o;by_cases p0:i<N
  ·have q0:(i:Int)<(N:Int):=by omega
   obtain⟨Y,⟨uu,hu⟩,hz⟩:=T.o.step p0 true (Q':=fun k b=>k<i+1->b=true) (fun k b _ u h hl=>h (by omega)) fun _=>rfl
   have y:=Za Y;clear Y s;go_wp2_with fail;generalize X.setCell _ _=W1 at*;clear hu hz;go_wp2_with fail;go_roundg (N-(i+1))
   case measure=>omega
   case rel=>exact⟨i+1,by omega,rfl,by go_num,y⟩
  ·have q0:¬(i:Int)<(N:Int):=by omega
   go_wp2_with fail;refine(m0.o X s).mono ?_;rintro _ w1 ⟨⟨v,S,rfl,ho,hS⟩,a0⟩;obtain⟨sa,sc,e⟩:=oL ho;subst e;have z:=Za ho;have b0:=Za hS;have r0:=hS.1
   have s0:Hid (Jh w w1 D N fun k b=>b=false↔∃p,p∈S.take 0/\Rt R p=I k):=(T.o.fr a0).weak fun k b u h=>by simp[h (by omega)]
   obtain⟨n,hn⟩:∃n,S.length=n:=⟨_,rfl⟩;have B:=Za hn;rw[hn]at z r0 ⊢
   have t0:Hid (D<X.heap.size):=by
    obtain⟨_,l,_⟩:=T.o;exact(l.lt D rfl).2
   clear ho hS s a0 a hn T;go_wp2_with fail
   go_loopg [6] n (fun m iv wx=>∃j,j<=n/\m=n-j/\iv=K O (j:Nat)/\Hid (Jh w wx D N fun k b=>b=false↔∃p,p∈S.take j/\Rt R p=I k)/\Hid (Fr (fun k=>k=D) w1 wx))
   case atStart=>exact⟨0,by omega,rfl,rfl,s0,Fr.refl _ _⟩
   case round=>
    obtain⟨j,hj,rfl,rfl,HJ,c0⟩:=hrel;generalize wr=W at*;by_cases B0:j<n
    ·have v0:(j:Int)<(n:Int):=by omega
     obtain⟨p,t⟩:∃p,S[j]?=I p:=⟨_,gE (by have:=B.o;omega)⟩;obtain⟨g,e,k0,k1,k2,k3⟩:=Lt (oA z.o c0.o fun k u e=>by have:=(z.o.lt k u).1;have:=t0.o;omega) B.o t;subst e;obtain⟨_,_,_,d0⟩:=HJ.o;have C:=b0.o.2.1 p (mG t);rw[Y7,U]at C;have HC:=Za (n0.o W d0 p C.1)
     have HT:=Za fun x=>@Qd _ S j p x t
     have E:Hid (p∈S.take (j+1)/\∀x,x∈S.take j->x∈S.take (j+1)):=by
      show _/\_
      rw[List.take_add_one,t];simp
      exact fun x h=>G h
     obtain⟨d,c⟩:∃d,Rt R p=d:=⟨_,rfl⟩;have H:=Za c;have e0:=Za (Ua (ZA R) (Y1 R p (Zz p.pan)) R.length);unfold Rt at c;rw[c]at HC e0;unfold UM at HC;clear C t d0 c;go_wp2_with fail
     refine cf HC.o fun w2 L=>?_
     have f0:=Za (HJ.o.fr L);have g0:Hid (Fr (fun k=>k=D) w1 w2):=c0.o.trans (L.mono (by simp));clear L k0 k1 k2 k3
     cases d with
     |none=>
      have w0:=Za (f0.o.weak (Q':=fun k b=>b=false↔∃p,p∈S.take (j+1)/\Rt R p=I k) fun k b _ h=>h.trans ⟨fun⟨x,l,a⟩=>⟨x,E.o.2 x l,a⟩,fun⟨x,l,a⟩=>by
       rcases HT.o x l with h|rfl
       ·exact⟨x,h,a⟩
       ·rw[H.o]at a;cases a⟩)
      unfold Vm;go_wp2_with fail;go_roundg (n-(j+1))
      case measure=>omega
      case rel=>exact⟨j+1,by omega,rfl,by go_num,w0,g0⟩
     |some k=>
      have x0:k<N:=HN.o▸e0.o.1
      have C0:(k:Int)<(N:Int):=by omega
      have D0:(0:Int)<=(k:Int):=by omega
      obtain⟨Y,⟨uu,hu⟩,hz⟩:=f0.o.step x0 false (Q':=fun k b=>b=false↔∃p,p∈S.take (j+1)/\Rt R p=I k) (fun k' b _ u h=>h.trans ⟨fun⟨x,l,a⟩=>⟨x,E.o.2 x l,a⟩,fun⟨x,l,a⟩=>by
       rcases HT.o x l with h|rfl
       ·exact⟨x,h,a⟩
       ·rw[H.o]at a;injection a with a;exact absurd a.symm u⟩) ⟨fun _=>⟨p,E.o.1,H.o⟩,fun _=>rfl⟩
      have y:=Za Y;have y0:Hid (Fr (fun k=>k=D) w1 (w2.setCell ⟨D,k,J⟩ (F false))):=g0.o.setCell (p:=⟨D,k,J⟩) (G rfl) _;unfold Vm;clear Y;go_wp2_with fail;go_roundg (n-(j+1))
      case measure=>omega
      case rel=>exact⟨j+1,by omega,rfl,by go_num,y,y0⟩
    ·have v0:¬(j:Int)<(n:Int):=by omega
     have A0:=Za (HJ.o.weak (Q':=fun k b=>b=false↔∃p,Yd p=true/\Rt R p=I k) fun k b _ h=>by rw[<-b0.o.best];rw[A (by have:=B.o;omega)]at h;exact h);go_wp2_with fail;go_ret;exact⟨D,rfl,A0.o⟩
theorem BG {x:Nat}(h:x<=999999):ZV (Tf x 6)=NM x:=by
 have b:(NM x).size=6:=PG x 6;obtain⟨c,d⟩:=Ne h
 have f:Ze ⟨0,NM x,0⟩=x:=by
  have e:=d;rw[Zz,A (show(NM x).data.toList.length<=6 from Nat.le_of_eq (PG x 6))]at e;exact e
 have e:=(RK ⟨0,NM x,0⟩ ⟨by show(NM x).size<=9;omega,fun k g=>?_⟩ (by show 1<=(NM x).size;omega)).1
 ·rw[f]at e
  dsimp only at e
  rw[b]at e;exact congrArg ZV e
 ·have a:k<(NM x).data.toList.length:=by simpa using g
  have:=(Ut c).2.2 _ (List.getElem_mem a)
  show 48<=Zv (NM x) k/\Zv (NM x) k<=57
  rw[Zv,gD,gE a,Option.getD_some];omega
theorem My {l:List Nat}{m n:Nat}(b:∀x,x∈l->x<=m)(h:((Yi l m).any fun s=>YR s n)=true):n<=m:=by
 obtain⟨s,c,a⟩:=y0.1 h;unfold YR at a;simp only[U,decide_eq_true_eq]at a;rcases O9 c with⟨_,rfl⟩|⟨k,d,rfl⟩
 ·exact a.2
 ·have:=b k d
  have:=a.2
  dsimp only at this
  omega
theorem K6 {l:List Nat}{m n:Nat}(c:n<=m):((Yi l m).any fun s=>YR s n)=(decide (l=[])||Vo l (n:Int)):=by
 rw[Bool.eq_iff_iff,y0,z5,VK,decide_eq_true_eq];unfold Yi YR
 split
 ·rename_i e
  simp[e];omega
 ·rename_i e
  constructor
  ·rintro⟨s,a,h⟩
   obtain⟨x,b,rfl⟩:=y6.1 a;simp at h
   obtain rfl:x=n:=by omega
   exact z3 b
  ·exact fun h=>⟨(n,n),y6.2 ⟨n,h.resolve_left e,rfl⟩,by simp⟩
theorem UX {r:Zc}(y:UN)(h:y.p0<=999999/\y.p1<=9999/\y.p2<=1000000000/\y.p3<=999):W7 (VM r) 4 y=Yr r (TQ y.p0 y.p1 y.p2 y.p3):=by
 obtain⟨a,b,i,c⟩:=h;have d:Xp (VM r) 1 y.p1=(decide (r.mcc=[])||Vo r.mcc (y.p1:Int)):=K6 b;have e:Xp (VM r) 3 y.p3=(decide (r.cur=[])||Vo r.cur (y.p3:Int)):=K6 c
 have f:Xp (VM r) 0 y.p0=(decide (sL r<=y.p0)&&decide (y.p0<sH r)):=by
  show([Wu r.digits r.lo r.hi].any fun s=>YR s y.p0)=_
  have:0<sH r:=y8 (by omega) (y9 (by decide));simp only[y4,y7,y5,YR,Wu]
  congr 1
  exact decide_eq_decide.2 (show y.p0<=sH r-1↔_ by omega)
 have g:Xp (VM r) 2 y.p2=OH r (TQ y.p0 y.p1 y.p2 y.p3):=by
  show([if r.am.isSome=true then((r.am.getD (0,0)).1,(r.am.getD (0,0)).2)else(0,1000000000)].any fun s=>YR s y.p2)=_
  unfold OH YR TQ
  cases r.am with
  |none=>simp;omega
  |some j=>
   simp only[Option.isSome_some,if_true,Option.getD_some,y4,y7,y5]
   congr 1<;>exact decide_eq_decide.2 (by omega)
 show(Xp (VM r) 0 y.p0&&(Xp (VM r) 1 y.p1&&(Xp (VM r) 2 y.p2&&(Xp (VM r) 3 y.p3&&true))))=_
 rw[Uc,VO,f,d,g,e,show(TQ y.p0 y.p1 y.p2 y.p3).pan=NM y.p0 from rfl,(Ne a).2,Bool.and_true];rfl
theorem Mz {n:Nat}{r:Zc}(h:UL n r)(e:UJ r){p:UN}(f:W7 (VM r) 4 p=true):p.p0<=999999/\p.p1<=9999/\p.p2<=1000000000/\p.p3<=999:=by
 have a:(Xp (VM r) 0 p.p0&&(Xp (VM r) 1 p.p1&&(Xp (VM r) 2 p.p2&&(Xp (VM r) 3 p.p3&&true))))=true:=f;simp only[U]at a;obtain⟨g,i,j,c,_⟩:=a;refine⟨?_,My e.mx i,?_,My e.cx c⟩
 ·have c:YR (Wu r.digits r.lo r.hi) p.p0=true:=by
   have:([Wu r.digits r.lo r.hi].any fun s=>YR s p.p0)=true:=g
   simpa using this
  unfold YR Wu at c;simp only[U,decide_eq_true_eq]at c;have:=(Nc h).2;unfold sH at this;have d:0<(r.hi+1)*10^(6-r.digits):=y8 (by omega) (y9 (by decide));omega
 ·have b:YR (if r.am.isSome=true then((r.am.getD (0,0)).1,(r.am.getD (0,0)).2)else(0,1000000000)) p.p2=true:=by
   have:([if r.am.isSome=true then((r.am.getD (0,0)).1,(r.am.getD (0,0)).2)else(0,1000000000)].any fun s=>YR s p.p2)=true:=j
   simpa using this
  unfold YR at b;simp only[U,decide_eq_true_eq]at b
  cases d:r.am with
  |none=>rw[d]at b;simpa using b.2
  |some k=>
   rw[d]at b;have:=h.am k d;have l:=b.2;simp at l;omega
theorem CA {p:ZI}(a:Yd p=true):∃y:UN,(y.p0<=999999/\y.p1<=9999/\y.p2<=1000000000/\y.p3<=999)/\∀r,Yr r (TQ y.p0 y.p1 y.p2 y.p3)=Yr r p:=by
 rw[Y7]at a;simp only[U,XD,decide_eq_true_eq]at a;obtain⟨b,⟨c,f⟩,⟨d,g⟩,e,h⟩:=a;have i:Zz p.pan<1000000:=Li b;refine⟨⟨Zz p.pan,p.mcc.toNat,p.am.toNat,p.cur.toNat⟩,⟨by show Zz p.pan<=_;omega,by show p.mcc.toNat<=_;omega,by show p.am.toNat<=_;omega,by show p.cur.toNat<=_;omega⟩,fun r=>?_⟩;rw[Uc,Uc]
 show(decide (sL r<=Zz (NM (Zz p.pan)))&&decide (Zz (NM (Zz p.pan))<sH r)&&VO r (TQ _ _ _ _))=_
 rw[(Ne (show Zz p.pan<=999999 by omega)).2];unfold VO OH TQ;rw[C c,C d,C e]
theorem CS {y:UN}(h:y.p0<=999999/\y.p1<=9999/\y.p2<=1000000000/\y.p3<=999):Yd (TQ y.p0 y.p1 y.p2 y.p3)=true:=by
 rw[Y7,TQ,(Ne h.1).1];simp[XD];omega
theorem K7 {n:Nat}{r q:Zc}(h:UL n r)(b:UJ r){y:UN×Nat}(d:Sf (VM r) (VM q)=I y):Yd (U5 y.1)=true/\Yr r (U5 y.1)=true/\Yr q (U5 y.1)=true:=by
 obtain⟨c,f⟩:=Mw (fun i s g=>(Rq h b i s g).1) d;have a:=Mz h b c
 have e:U5 y.1=TQ y.1.p0 y.1.p1 y.1.p2 y.1.p3:=by rw[U5,TQ,BG a.1]
 rw[e];exact⟨CS a,(UX _ a).symm.trans c,(UX _ a).symm.trans f⟩
theorem Gb {a b:List Nat}{m:Nat}(h:Sz a b=true)(c:∀x,x∈a->x<=m)(e:∀x,x∈b->x<=m):∃x,x<=m/\(decide (a=[])||Vo a (x:Int))=true/\(decide (b=[])||Vo b (x:Int))=true:=by
 simp only[z5,decide_eq_true_eq,VK];rcases(Ga a b).1 h with rfl|rfl|⟨x,d,f⟩
 ·cases b with
  |nil=>exact⟨0,by omega,G rfl,G rfl⟩
  |cons x r=>exact⟨x,e x (by simp),G rfl,z3 (by simp)⟩
 ·cases a with
  |nil=>exact⟨0,by omega,G rfl,G rfl⟩
  |cons x r=>exact⟨x,c x (by simp),z3 (by simp),G rfl⟩
 ·exact⟨x,c x d,z3 d,z3 f⟩
theorem Gc {a b:List Nat}{x:Int}(c:(decide (a=[])||Vo a x)=true)(d:(decide (b=[])||Vo b x)=true)(e:0<=x):Sz a b=true:=by
 obtain⟨k,rfl⟩:=Int.eq_ofNat_of_zero_le e;simp only[z5,decide_eq_true_eq,VK]at c d;rw[Ga];rcases c with h|h
 ·exact G h
 ·exact z3 (d.imp id fun f=>⟨k,h,f⟩)
theorem IR {r:Zc}{p:ZI}(a:0<=p.am)(b:p.am<=1000000000):OH r p=true↔((aL r:Int)<=p.am/\p.am<=(aH r:Int)):=by
 unfold OH aL aH
 cases r.am<;>simp<;>omega
theorem Gd {n:Nat}{r s:Zc}(j:UL n r)(a:UJ r)(f:UJ s):BE r s=true↔∃y,Sf (VM r) (VM s)=I y:=by
 constructor
 ·intro h
  unfold BE at h;simp only[U,decide_eq_true_eq]at h;obtain⟨c,b,k,z⟩:=h;obtain⟨x,l,m,o⟩:=Gb b a.mx f.mx;obtain⟨u,u1,u2,u3⟩:=Gb k a.cx f.cx
  have A:aH r<=1000000000:=by
   unfold aH
   cases e:r.am with
   |none=>simp
   |some q=>have:=j.am q e;simp;omega
  have B:=(Nc j).2;have g:(max (sL r) (sL s))<=999999/\x<=9999/\max (aL r) (aL s)<=1000000000/\u<=999:=⟨by omega,l,by omega,u1⟩
  cases t:Sf (VM r) (VM s)with
  |some y=>exact⟨y,rfl⟩
  |none=>
   refine absurd ?_ (FO (fun i s v=>(Rq j a i s v).1) t ⟨max (sL r) (sL s),x,max (aL r) (aL s),u⟩);rw[UX _ g,UX _ g,Uc,Uc];have w:=(Ne g.1).2
   have C:∀r,aL r<=max (aL r) (aL s)->True:=fun _ _=>trivial
   simp only[VO,U,decide_eq_true_eq];rw[show Zz (TQ (max (sL r) (sL s)) x (max (aL r) (aL s)) u).pan=max (sL r) (sL s)from w,IR (by show(0:Int)<=((_:Nat):Int);omega) (by show((max (aL r) (aL s):Nat):Int)<=_;omega),IR (by show(0:Int)<=((_:Nat):Int);omega) (by show((max (aL r) (aL s):Nat):Int)<=_;omega)]
   show((_/\_)/\_/\(((_:Nat):Int)<=((_:Nat):Int)/\((_:Nat):Int)<=_)/\_)/\(_/\_)/\_/\(((_:Nat):Int)<=((_:Nat):Int)/\((_:Nat):Int)<=_)/\_
   exact⟨⟨⟨by omega,by omega⟩,m,⟨by omega,by omega⟩,u2⟩,⟨by omega,by omega⟩,o,⟨by omega,by omega⟩,u3⟩
 ·rintro⟨y,g⟩
  obtain⟨d,c,b⟩:=K7 j a g;generalize U5 y.1=p at*;rw[Y7]at d;simp only[U,XD,decide_eq_true_eq]at d;rw[Uc,VO]at c b;simp only[U,decide_eq_true_eq]at c b;rw[IR d.2.2.1.1 d.2.2.1.2]at c b;unfold BE;simp only[U,decide_eq_true_eq];exact⟨by omega,Gc c.2.1 b.2.1 d.2.1.1,Gc c.2.2.2 b.2.2.2 d.2.2.2.1,by omega⟩
theorem K8 {R:List Zc}{p:ZI}{j:Nat}{r:Zc}(d:R[j]?=I r):Rt R p=I j↔Yr r p=true/\∀i q,R[i]?=I q->(r.rank<q.rank\/(q.rank=r.rank/\i<j))->Yr q p=false:=by
 have a:=Ua (ZA R) (Y1 R p (Zz p.pan)) R.length
 have rk:∀{i q},R[i]?=I q->ZA R i=q.rank:=fun h=>by simp[ZA,h]
 unfold Rt
 constructor
 ·intro h
  rw[h]at a
  dsimp only at a
  rw[UT R p j r d]at a;refine⟨a.2.1,fun i q c u=>?_⟩
  cases o:Yr q p with
  |false=>rfl
  |true=>
   have s:=(iG.1 c).1
   have g:i≠j:=fun e=>by subst e;rw[d]at c;injection c with c;subst c;omega
   have:=a.2.2 i s (by rw[UT R p i q c];exact o) g;unfold TH at this;rw[rk c,rk d]at this;omega
 ·rintro⟨l,t⟩
  have f:=(iG.1 d).1
  cases m:YK (ZA R) (Y1 R p (Zz p.pan)) R.length with
  |none=>
   rw[m]at a;have:=a j f;rw[UT R p j r d,l]at this
   cases this
  |some b=>
   rw[m]at a
   dsimp only at a
   by_cases e:b=j
   ·rw[e]
   ·have c:=gE a.1
    have n:=a.2.2 j f (by rw[UT R p j r d];exact l) (fun h=>e h.symm);have k:=a.2.1;rw[UT R p b _ c]at k;unfold TH at n;rw[rk c,rk d]at n;rw[t b _ c (by omega)]at k
    cases k
theorem CB {h:List Zd}{R:List Zc}(l:YE h R)(m:∀r,r∈R->UJ r){j:Nat}{r:Zc}(a:R[j]?=I r):Sd R j=true↔∃p,Yd p=true/\Rt R p=I j:=by
 have g:=mG a;unfold Sd;rw[a]
 dsimp only
 rw[KW (fun i s o=>(Rq (l.rl r g) (m r g) i s o).1)]
 constructor
 ·rintro⟨y,d,k⟩
  have b:=Mz (l.rl r g) (m r g) d;rw[UX y b]at d;refine⟨_,CS b,(K8 a).2 ⟨d,fun i q c e=>?_⟩⟩;rw[<-UX y b];refine k _ ((Qc R j _ R.length).2 ⟨i,q,(iG.1 c).1,c,?_,rfl⟩);unfold FL;rw[c,a]
  simpa using e
 ·rintro⟨p,t,f⟩
  obtain⟨d,k⟩:=(K8 a).1 f;obtain⟨y,b,n⟩:=CA t;refine⟨y,by rw[UX y b,n];exact d,fun B u=>?_⟩;obtain⟨i,q,_,c,e,rfl⟩:=(Qc R j _ R.length).1 u;rw[UX y b,n];refine k i q c ?_;unfold FL at e;rw[c,a]at e
  simpa using e
def Ji (v b c d e:Y)(a:Nat):Obj:=z1 #[v,Z J 0 0,b,c,d,e,K O (a:Nat)] 58
def Cl (c:Nat->Nat)(v:Y)(t:Nat):Prop:=∀k,v.ownBlock=I k->c k=t
def WJ (w:V)(c a:Nat->Nat):Prop:=∀k,k<w.heap.size->a k=c k
abbrev St (Q:List Nat)(c:Nat->Nat)(w w':V):Prop:=Fr (fun k=>c k∈Q) w w'
theorem WJ.trans {w w':V}{c a d:Nat->Nat}(h:WJ w c a)(k:WJ w' a d)(e:w.heap.size<=w'.heap.size):WJ w c d:=fun i b=>(k i (nL b e)).trans (h i b)
theorem St.cls {Q:List Nat}{w a w2:V}{c c1:Nat->Nat}{S:Nat->Prop}(h:St Q c w a)(b:WJ w c c1)(k:Fr S a w2)(d:∀i,S i->c1 i∈Q):St Q c w w2:=
 h.monoNew k fun i e=>(z8 i w.heap.size).imp (fun f=>b i f▸d i e) id
def LA (s:Nat)(m:ByteArray):List Y:=if s=1 then[M m]else[M m,M m,M ByteArray.empty,K O 0,K O 0,K O 0]
def Af (c:Nat->Nat)(w:V)(t:Nat)(d:TypeId)(s:Nat)(e:Ue):Prop:=
 ∀k,k<e.n->∃g,e.a=I ⟨g,0,J⟩/\c g=t/\∃b,w.heap[g]?=I (z1 b d)/\∀j v,(LA s e.m)[j]?=I v->b[k*s+j]?=I v
theorem Af.keep {c a:Nat->Nat}{w w':V}{t:Nat}{b:TypeId}{s:Nat}{e:Ue}{S:Nat->Prop}(h:Af c w t b s e)(i:Fr S w w')(j:WJ w c a)(l:∀k,S k->c k≠t):Af a w' t b s e:=by
 intro k m;obtain⟨g,n,d,o,f,p⟩:=h k m;exact⟨g,n,(j g (iA.1 f).1).trans d,o,i.whole f (fun h=>l g h d),p⟩
structure NN (c:Nat->Nat)(w:V)(L tn tm tl:Nat)(tR tE:TypeId)(s:Nat)(nv mv:Y)(es pend:List Ue):Prop where
 nm:w.ownsRow (L+1) tR 1 nv (es++pend).length ((es++pend).map Ue.val)
 nc:Cl c nv tn
 ma:w.ownsRow (L+1) 9 1 mv es.length (es.map fun e=>H e.m)
 mc:Cl c mv tm
 el:∀e,e∈es++pend->Af c w tl tE s e
theorem XI {c d:Nat->Nat}{w w':V}{b t n s:Nat}{e:TypeId}{v:Y}{f:List Y}{S:Nat->Prop}(h:w.ownsRow b e s v n f)(g:Cl c v t)(i:Fr S w w')(j:WJ w c d)(l:∀k,S k->c k≠t):w'.ownsRow b e s v n f/\Cl d v t:=
 ⟨oA h i fun k a m=>l k m (g k a),fun k a=>(j k (h.lt k a).2).trans (g k a)⟩
theorem NN.keep {c m:Nat->Nat}{w w':V}{L d f g:Nat}{n o:TypeId}{s:Nat}{p q:Y}{es a:List Ue}{S:Nat->Prop}(h:NN c w L d f g n o s p q es a)(i:Fr S w w')(j:WJ w c m)(l:∀k,S k->c k≠d/\c k≠f/\c k≠g):NN m w' L d f g n o s p q es a:=by
 obtain⟨r,t⟩:=XI h.nm h.nc i j fun k b=>(l k b).1
 obtain⟨u,v⟩:=XI h.ma h.mc i j fun k b=>(l k b).2.1
 exact⟨r,t,u,v,fun e x=>(h.el e x).keep i j fun k b=>(l k b).2.2⟩
theorem Ng {c:Nat->Nat}{w w2:V}{t g:Nat}{v:Y}{o:Obj}(b:Cl c v t)(i:(w.alloc o).grownBy w2 v.ownBlock)(a:v.ownBlock=I g\/w.heap.size<=g):∃d,WJ w c d/\d g=t/\Fr (fun k=>c k=t) w w2:=by
 refine⟨fun k=>if k=g then t else c k,fun k f=>?_,if_pos rfl,((Fr.refl _ _).alloc o).grown i fun k f=>G (b k f)⟩
 dsimp only
 split
 ·rename_i e
  subst e;exact(a.elim (fun h=>b k h) fun h=>by omega).symm
 ·rfl
theorem QJ {c:Nat->Nat}{g n cap t:Nat}(h:c g=t):Cl c (Z (I ⟨g,0,J⟩) n cap) t:=fun k a=>by
 obtain rfl:k=g:=by simpa[y3]using a.symm
 exact h
def DK (c:Nat->Nat)(w:V)(L f:Nat)(h:TypeId)(s:Nat)(b:Y)(n:Nat)(x:ByteArray)(es:List Ue):Prop:=
 ∃d,w.ownsRow (L+1) h s b n d/\(∀k j v,k<n->(LA s x)[j]?=I v->d[k*s+j]?=I v)/\Cl c b f/\∀e,e∈es->∀k,k<e.n->∀g,e.a=I ⟨g,0,J⟩->b.ownBlock=I g->e.m=x/\e.n<=n
theorem DK.keep {c b:Nat->Nat}{w w':V}{L a:Nat}{d:TypeId}{s:Nat}{e:Y}{n:Nat}{x:ByteArray}{es:List Ue}{S:Nat->Prop}(h:DK c w L a d s e n x es)(f:Fr S w w')(g:WJ w c b)(i:∀k,S k->c k≠a):DK b w' L a d s e n x es:=by
 obtain⟨j,l,m,o,p⟩:=h;obtain⟨q,r⟩:=XI l o f g i;exact⟨j,q,m,r,p⟩
theorem MA {w:V}{b n c g s:Nat}{e:TypeId}{j:List Y}(h:w.ownsRow b e s (Z (I ⟨g,0,J⟩) n c) n j):∃a:Array Y,w.heap[g]?=I (z1 a e)/\∀(k:Nat)(v:Y),j[k]?=I v->a[k]?=I v:=by
 rcases h.2 with⟨f,_⟩|⟨p,l,a,f,_,m,_,_,o,d⟩
 ·simp at f
 ·simp only[x0.injEq,Option.some.injEq,Addr.mk.injEq,and_true,true_and]at f
  obtain⟨rfl,rfl⟩:=f;refine⟨a,m,fun k v i=>?_⟩;rw[<-d,List.getElem?_take]at i
  split at i
  ·simpa using i
  ·cases i
theorem NN.step1 {c:Nat->Nat}{w w2:V}{L f u i:Nat}{y p:TypeId}{s:Nat}{z G:Y}{es:List Ue}{l:Option Addr}{n cap q d:Nat}{x:ByteArray}{o:Obj}(h:NN c w L f u i y p s z G es [])(M:DK c w L i p s (Z l n cap) n x es)(A:f≠u/\f≠i)
  (N:(w.alloc o).grownBy w2 z.ownBlock)(O:w2.ownsRow (L+1) y 1 (Z (I ⟨q,0,J⟩) (es.length+1) d) (es.length+1) (es.map Ue.val++[Z l n cap]))(B:z.ownBlock=I q\/w.heap.size<=q):
  ∃m,WJ w c m/\NN m w2 L f u i y p s (Z (I ⟨q,0,J⟩) (es.length+1) d) G es [⟨l,n,cap,x⟩]/\DK m w2 L i p s (Z l n cap) n x (es++[⟨l,n,cap,x⟩])/\Fr (fun k=>c k=f) w w2:=by
 obtain⟨m,r,C,t⟩:=Ng h.nc N B
 obtain⟨P,Q⟩:=XI h.ma h.mc t r fun k b=>b▸A.1
 obtain⟨R,D,H,K,S⟩:=M.keep t r fun k b=>b▸A.2
 refine⟨m,r,⟨by rw[lA,y1];exact O,QJ C,P,Q,fun e a=>?_⟩,⟨R,D,H,K,fun e a k b g T U=>?_⟩,t⟩
 ·rcases y2.1 a with a|a
  ·exact(h.el e (by simp[a])).keep t r fun k b=>b▸A.2
  ·obtain rfl:=z9.1 a
   intro k b;obtain⟨g,cc,e,_⟩:=D.form (by have:k<n:=b;omega);injection e with e _ W;subst e W;obtain⟨E,C,F⟩:=MA D;exact⟨g,rfl,K g rfl,E,C,fun j v X=>F _ _ (H k j v b X)⟩
 ·rcases y2.1 a with a|a
  ·exact S e a k b g T U
  ·obtain rfl:=z9.1 a
   exact⟨rfl,z7 _⟩
theorem NN.step2 {c:Nat->Nat}{w w2:V}{L r b d:Nat}{y j:TypeId}{s:Nat}{z t:Y}{es:List Ue}{f:Ue}{A:Y}{n l a:Nat}{x:ByteArray}{o:Obj}(h:NN c w L r b d y j s z t es [f])(C:DK c w L d j s A n x (es++[f]))(D:f.m=x)(u:b≠r/\b≠d)
  (F:(w.alloc o).grownBy w2 t.ownBlock)(G:w2.ownsRow (L+1) 9 1 (Z (I ⟨l,0,J⟩) (es.length+1) a) (es.length+1) ((es.map fun e=>H e.m)++[M x]))(v:t.ownBlock=I l\/w.heap.size<=l):
  ∃g,WJ w c g/\NN g w2 L r b d y j s z (Z (I ⟨l,0,J⟩) (es.length+1) a) (es++[f]) []/\DK g w2 L d j s A n x (es++[f])/\Fr (fun k=>c k=b) w w2:=by
 obtain⟨g,p,K,q⟩:=Ng h.mc F v
 obtain⟨N,O⟩:=XI h.nm h.nc q p fun k i=>i▸u.1
 refine⟨g,p,⟨by rw[E];exact N,O,?_,QJ K,fun e B=>?_⟩,C.keep q p fun k i=>i▸u.2,q⟩
 ·rw[lA,y1]
  simpa[D]using G
 ·rw[E]at B
  exact(h.el e B).keep q p fun k i=>i▸u.2
theorem NN.step3 {c:Nat->Nat}{w w2:V}{L C D i:Nat}{S r:TypeId}{s:Nat}{T U:Y}{es:List Ue}{B:Option Addr}{n cap o p:Nat}{x:ByteArray}{t:List Y}(h:NN c w L C D i S r s T U es [])(l1:w.ownsRow (L+1) r s (Z B n cap) n t)(l2:∀k j v,k<n->(LA s x)[j]?=I v->t[k*s+j]?=I v)(W:Cl c (Z B n cap) i)(X:∀e,e∈es->∀k,k<e.n->∀g,e.a=I ⟨g,0,J⟩->(x0 B n cap).ownBlock=I g->e.m=x/\e.n<=n)(hd:i≠C/\i≠D)(hs:(LA s x).length=s)
  (ho:w2.ownsRow (L+1) r s (Z (I ⟨o,0,J⟩) (n+1) p) (n+1) (t++LA s x))(d:(B=I ⟨o,0,J⟩/\Fr (fun k=>k=o) w w2)\/(w.heap.size<=o/\F0 w w2)):
  ∃E,WJ w c E/\NN E w2 L C D i S r s T U es []/\DK E w2 L i r s (Z (I ⟨o,0,J⟩) (n+1) p) (n+1) x es/\Fr (fun k=>c k=i) w w2:=by
 have F:t.length=n*s:=l1.1
 have u:∀k j v,k<n+1->(LA s x)[j]?=I v->(t++LA s x)[k*s+j]?=I v:=fun k j v b G=>by
  have a0:=(iG.1 G).1;have b0:k*s+s=(k+1)*s:=(Nat.succ_mul k s).symm;by_cases y:k<n
  ·have:(k+1)*s<=n*s:=Nat.mul_le_mul_right _ y
   rw[z2 (by omega)];exact l2 k j v y G
  ·obtain rfl:k=n:=by omega
   rw[aR (by omega),F,Nat.add_sub_cancel_left];exact G
 obtain⟨H,z,K⟩:=MA ho
 have M:Fr (fun k=>c k=i) w w2:=d.elim (fun⟨e,f⟩=>f.mono fun k b=>W k (by rw[e,b];rfl)) fun h=>h.2.mono (by simp)
 have N:WJ w c fun k=>if k=o then i else c k:=fun k b=>by
  dsimp only
  split
  ·rename_i e
   subst e;rcases d with⟨e,_⟩|⟨hz,_⟩
   ·exact(W k (by rw[e];rfl)).symm
   ·omega
  ·rfl
 refine⟨fun k=>if k=o then i else c k,N,?_,⟨_,ho,u,QJ (if_pos rfl),fun e A k b g l O=>?_⟩,M⟩
 ·obtain⟨h1,h2⟩:=XI h.nm h.nc M N fun k b=>b▸hd.1
  obtain⟨h3,h4⟩:=XI h.ma h.mc M N fun k b=>b▸hd.2
  refine⟨h1,h2,h3,h4,fun e A k b=>?_⟩;obtain⟨g,l,O,cs,P,e4⟩:=h.el e A k b;by_cases Q:g=o
  ·subst Q
   rcases d with⟨q,f⟩|⟨hz,f⟩
   ·obtain⟨R,hn⟩:=X e (by simpa using A) k b g l (by rw[q];rfl)
    exact⟨g,l,if_pos rfl,H,z,fun j v hv=>K _ _ (u k j v (by omega) (R▸hv))⟩
   ·have:=(iA.1 P).1
    omega
  ·exact⟨g,l,(if_neg Q).trans O,cs,d.elim (fun h=>h.2.whole P Q) fun h=>h.2.whole P (by simp),e4⟩
 ·obtain rfl:g=o:=by simpa[y3]using O.symm
  rcases d with⟨q,f⟩|⟨hz,f⟩
  ·obtain⟨R,hn⟩:=X e A k b g l (by rw[q];rfl)
   exact⟨R,by omega⟩
  ·obtain⟨g',k1,_,cs,k3,_⟩:=h.el e (by simpa using A) k b
   rw[k1]at l;injection l with l;injection l with l;have:=(iA.1 k3).1;omega
def IS (w:V)(a T q:Nat)(b:List Zd)(R:List Zc):Prop:=
 ∃c d e f g body,a<=T/\w.cell? ⟨T,0,J⟩=I (z4 (I ⟨c,0,J⟩))/\w.cell? ⟨T,1,J⟩=I (z4 (I ⟨d,0,J⟩))/\a<=c/\Bk w c e f b R g/\XV a w d e R (ZE (ZA R) R.length)/\Wi w a q body b R
theorem IS.fr {w w':V}{a T q:Nat}{b:List Zd}{R:List Zc}{S:Nat->Prop}(h:IS w a T q b R)(c:Fr S w w')(d:∀k,S k->k<a):IS w' a T q b R:=by
 obtain⟨j,l,m,n,o,body,r,e,f,g,s,t,u⟩:=h
 have i:¬S T:=fun v=>by have:=d T v;omega
 exact⟨j,l,m,n,o,body,r,(c.cell (p:=⟨T,0,J⟩) (bL w _ e) i).trans e,(c.cell (p:=⟨T,1,J⟩) (bL w _ f) i).trans f,g,s.fr c (fun k x=>nL (d k x) g),t.fr c d,u.frS c d⟩
def BH (c:Nat->Nat)(w:V)(t:Nat)(a:TypeId)(s:Nat)(v:Y)(n:Nat)(d:List Y):Prop:=Cl c v t/\∃b,w.ownsRow b a s v n d
theorem BH.keep {c a:Nat->Nat}{w w':V}{t n s:Nat}{d:TypeId}{v:Y}{e:List Y}{S:Nat->Prop}(h:BH c w t d s v n e)(f:Fr S w w')(g:WJ w c a)(i:∀k,S k->c k≠t):BH a w' t d s v n e:=by
 obtain⟨j,b,l⟩:=h;obtain⟨m,o⟩:=XI l j f g i;exact⟨o,b,m⟩
def Ud (R:List Zc):List ZI:=(TP R).map fun o=>o.2.2
def Lu (R:List Zc):List Y:=(List.range R.length).map fun k=>Value.bool (!Sd R k)
def MB (c:Nat->Nat)(w:V)(R:List Zc)(d:Bool)(b a:Y):Prop:=
 (if d then BH c w 10 35 4 b (Ud R).length (XH (Ud R))else b=Z J 0 0)/\(a=Z J 0 0\/∃D,a=Z (I ⟨D,0,J⟩) R.length R.length/\BH c w 11 4 1 a R.length (Lu R))
theorem MB.keep {c g:Nat->Nat}{w w':V}{R:List Zc}{a:Bool}{b d:Y}{S:Nat->Prop}(h:MB c w R a b d)(i:Fr S w w')(j:WJ w c g)(l:∀k,S k->c k≠10/\c k≠11):MB g w' R a b d:=by
 obtain⟨m,n⟩:=h;refine⟨?_,n.imp id fun⟨D,e,h⟩=>⟨D,e,h.keep i j fun k f=>(l k f).2⟩⟩
 cases a with
 |false=>exact m
 |true=>exact BH.keep m i j fun k f=>(l k f).1
def Lv (c:Nat->Nat)(w:V)(X:Nat):Prop:=
 ∃w0 a T q f R b d e,IS w0 a T q f R/\YE f R/\(∀r,r∈R->UJ r)/\Fr (fun k=>k<a) w0 w/\(∀k,a<=k->k<w0.heap.size->c k=0)/\c X=9/\
  w.heap[X]?=I (z1 #[z4 (I ⟨T,0,J⟩),z4 (I ⟨q,0,J⟩),F false,F b,d,e] 97)/\MB c w R b d e
theorem Lv.keep {c n:Nat->Nat}{w w':V}{X:Nat}{S:Nat->Prop}(h:Lv c w X)(i:Fr S w w')(j:WJ w c n)(g:∀k,S k->c k≠0/\c k≠10/\c k≠11/\k≠X):Lv n w' X:=by
 obtain⟨w0,a,T,q,l,R,b,e,f,t,u,v,o,p,x,r,y⟩:=h;refine⟨w0,a,T,q,l,R,b,e,f,t,u,v,o.monoNew i fun k d=>?_,fun k d s=>(j k (nL s o.size)).trans (p k d s),(j X (iA.1 r).1).trans x,i.whole r fun z=>(g X z).2.2.2 rfl,y.keep i j fun k d=>⟨(g k d).2.1,(g k d).2.2.1⟩⟩;rcases z8 k a with h|h
 ·exact G h
 ·rcases z8 k w0.heap.size with m|m
  ·exact absurd (p k h m) (g k d).1
  ·exact z3 m
structure SU (c:Nat->Nat)(w:V)(L:Nat)(v nv ov mv kv:Y)(cnt:Nat)(xs:List Nat)(es fs:List Ue):Prop where
 bx:w.heap[L]?=I (Ji v nv ov mv kv cnt)
 bc:c L=1
 tv:w.ownsRow (L+1) 93 1 v xs.length (xs.map fun X=>Value.pointer (I ⟨X,0,J⟩))
 tc:Cl c v 2
 few:xs.length<=20
 tb:∀X,X∈xs->Lv c w X
 n:NN c w L 3 4 7 28 9 1 nv mv es []
 o:NN c w L 5 6 8 41 44 6 ov kv fs []
theorem SU.keep {c e:Nat->Nat}{w w':V}{L:Nat}{v f g i j:Y}{a:Nat}{k:List Nat}{es l:List Ue}(h:SU c w L v f g i j a k es l)(b:F0 w w')(d:WJ w c e):SU e w' L v f g i j a k es l:=by
 obtain⟨m,p⟩:=XI h.tv h.tc b d (by simp);exact⟨b.whole h.bx (by simp),(d L (iA.1 h.bx).1).trans h.bc,m,p,h.few,fun X q=>(h.tb X q).keep b d (by simp),h.n.keep b d (by simp),h.o.keep b d (by simp)⟩
theorem MC (w:V)(L:Nat)(v q r u x:Y)(a:Nat)(h:w.heap[L]?=I (Ji v q r u x a))(S:a<=4611686018427387904):
  Calls z0 136 #[z4 (I ⟨L,0,J⟩)] w fun e w'=>(∃s:ByteArray,e=.returned (M s))/\w'.heap[L]?=I (Ji v q r u x (a+1))/\Fr (fun k=>k=L) w w':=by
 have T:w.cell? ⟨L,6,J⟩=I (K O (a:Nat)):=bC h 6 _ rfl;have U:=bF h 6
 have A:Hid ((w.setCell ⟨L,6,J⟩ (K O ((a:Int)+1))).heap[L]?=I (Ji v q r u x (a+1))):=by
  have e:=heap_setCell_same w L 6 _ _ (K O ((a:Int)+1)) h
  show _=_
  simpa[Ji]using e
 have B:Hid (Fr (fun k=>k=L) w (w.setCell ⟨L,6,J⟩ (K O ((a:Int)+1)))):=(Fr.refl (fun k=>k=L) w).setCell (p:=⟨L,6,J⟩) (G rfl) _
 have C:(a:Int)<=4611686018427387904:=by omega
 clear h;go_enter Tryz.func136,Tryz.ntmps136;go_wp2_with fail;generalize w.setCell _ _=W at*
 go_loopg [3,4,5] 9 (fun m t n i wr=>∃k s c,k<=9/\m=9-k/\t=M s/\s.size<=1+k/\n=K O (c:Nat)/\c<=4611686018427387905/\i=K O (k:Nat)/\Hid (F0 W wr))
 case atStart=>exact⟨0,⟨#[35]⟩,a+1,by omega,rfl,rfl,by decide,by simp,by omega,rfl,Fr.refl _ _⟩
 case round=>
  obtain⟨k,s,c,X,rfl,rfl,hs,rfl,D,rfl,b⟩:=hrel;by_cases E:k<9
  ·have y:(k:Int)<9:=by omega
   obtain⟨m,F⟩:∃m,c % 16=m:=⟨_,rfl⟩
   have f:m<16:=by omega
   have H:(c:Int).tmod 16=(m:Int):=by rw[Int.tmod_eq_emod_of_nonneg (by omega)];omega
   obtain⟨d,g⟩:∃d:UInt8,d=UInt8.ofNat (97+m):=⟨_,rfl⟩
   have l:(d.toNat:Int)=(97+(m:Int)):=by rw[g,UInt8.toNat_ofNat'];omega
   have N:=KI m f;have z:=Za (b.o.alloc (z1 #[K .u8 (97+(m:Int))] 5))
   have Q:(convert 50 9 (Z (I ⟨wr.heap.size,0,J⟩) 1 1)).run z0 (wr.alloc (z1 #[K .u8 (97+(m:Int))] 5))=.ok (M ⟨#[d]⟩) (wr.alloc (z1 #[K .u8 (97+(m:Int))] 5)):=by
    have e:=run_convert_bytes_back (P:=z0) (wr.alloc (z1 #[K .u8 (97+(m:Int))] 5)) 50 9 5 ⟨wr.heap.size,0,J⟩ 1 [d] Tryz.underlying50 Tryz.underlying5 Tryz.underlying9 (by
     intro j R
     have:j=0:=by simpa using R
     subst this;rw[YN]
     exact bC (heap_alloc_new wr _) 0 _ (by simp[l]))
    simpa using e
   clear F g l;go_wp2_with fail;go_roundg (9-(k+1))
   case measure=>omega
   case rel=>exact⟨k+1,s++⟨#[d]⟩,c/16,by omega,rfl,rfl,by rw[ByteArray.size_append];show s.size+1<=_;omega,by congr 1,by omega,by go_num,z⟩
  ·have y:¬(k:Int)<9:=by omega
   go_wp2_with fail;go_ret;exact⟨⟨s,rfl⟩,b.o.whole A.o (by simp),B.o.trans (b.o.mono (by simp))⟩
theorem NN.keepL {c m:Nat->Nat}{w w':V}{L f i o:Nat}{p q:TypeId}{s:Nat}{r t:Y}{es b:List Ue}{S:Nat->Prop}(h:NN c w L f i o p q s r t es b)(j:Fr S w w')(l:WJ w c m)(u:∀k,S k->c k≠f/\c k≠i)(z:∀e,e∈es++b->∀k,k<e.n->∀g,e.a=I ⟨g,0,J⟩->¬S g):NN m w' L f i o p q s r t es b:=by
 obtain⟨A,B⟩:=XI h.nm h.nc j l fun k d=>(u k d).1
 obtain⟨C,D⟩:=XI h.ma h.mc j l fun k d=>(u k d).2
 refine⟨A,B,C,D,fun e v k d=>?_⟩;obtain⟨g,x,E,F,y,G⟩:=h.el e v k d;exact⟨g,x,(l g (iA.1 y).1).trans E,F,j.whole y (z e v k d g x),G⟩
theorem WJ.refl (w:V)(c:Nat->Nat):WJ w c c:=fun _ _=>rfl
structure K9 (tn tm tl:Nat)(tR tE:TypeId)(s:Nat)(B:Y->Y->Obj)(c0:Nat->Nat)(w0:V)(L:Nat)(x:ByteArray)(c:Nat->Nat)(wr:V)(nv mv lv:Y)(n:Nat)(es pend:List Ue):Prop where
 ag:WJ w0 c0 c
 sh:NN c wr L tn tm tl tR tE s nv mv es pend
 ls:DK c wr L tl tE s lv n x (es++pend)
 fq:St [1,tn,tm,tl] c0 w0 wr
 bx:wr.heap[L]?=I (B nv mv)
 bc:c L=1
theorem UY {w:V}{L:Nat}(u:Y)(i:Nat):Fr (fun k=>k=L) w (w.setCell ⟨L,i,J⟩ u):=(Fr.refl (fun k=>k=L) w).setCell (p:=⟨L,i,J⟩) (G rfl) _
theorem K9.box {e f b:Nat}{p h:TypeId}{s:Nat}{B:Y->Y->Obj}{j:Nat->Nat}{w0:V}{L:Nat}{x:ByteArray}{c:Nat->Nat}{wr:V}{l m q:Y}{n i:Nat}{u:Y}{es a:List Ue}(r:WJ w0 j c)(v:NN c wr L e f b p h s l m es a)(y:DK c wr L b h s q n x (es++a))(z:St [1,e,f,b] j w0 wr)(g:c L=1)(t:1≠e/\1≠f/\1≠b)(A:(wr.setCell ⟨L,i,J⟩ u).heap[L]?=I (B l m)):
  K9 e f b p h s B j w0 L x c (wr.setCell ⟨L,i,J⟩ u) l m q n es a:=by
 have o:=UY (w:=wr) (L:=L) u i;exact⟨r,v.keep o (WJ.refl _ _) (fun k d=>by subst d;rw[g];exact t),y.keep o (WJ.refl _ _) (fun k d=>by subst d;rw[g];exact t.2.2),z.cls r o (fun k d=>by subst d;simp[g]),A,g⟩
theorem K9.s1 {f j l:Nat}{r A:TypeId}{s:Nat}{B:Y->Y->Obj}{C:Nat->Nat}{w0:V}{L:Nat}{x:ByteArray}{c:Nat->Nat}{w w2:V}{m t:Y}{n i:Nat}{es:List Ue}{p:Option Addr}{cap g d:Nat}{o:Obj}(h:K9 f j l r A s B C w0 L x c w m t (Z p n cap) n es [])(q:f≠j/\f≠l/\1≠f/\1≠j/\1≠l)
  (K:∀(W:V) a b u,W.heap[L]?=I (B a b)->(W.setCell ⟨L,i,J⟩ u).heap[L]?=I (B u b))
  (M:(w.alloc o).grownBy w2 m.ownBlock)(N:w2.ownsRow (L+1) r 1 (Z (I ⟨g,0,J⟩) (es.length+1) d) (es.length+1) (es.map Ue.val++[Z p n cap]))(v:m.ownBlock=I g\/w.heap.size<=g):
  w2.heap[L]?=I (B m t)/\∃y,K9 f j l r A s B C w0 L x y (w2.setCell ⟨L,i,J⟩ (Z (I ⟨g,0,J⟩) (es.length+1) d)) (Z (I ⟨g,0,J⟩) (es.length+1) d) t (Z p n cap) n es [⟨p,n,cap,x⟩]:=by
 have D:=h.ls;rw[E]at D;obtain⟨y,F,O,z,G⟩:=h.sh.step1 D ⟨q.1,q.2.1⟩ M N v;have H:=G.whole h.bx (fun e=>q.2.2.1 (h.bc.symm.trans e));exact⟨H,y,K9.box (h.ag.trans F h.fq.size) O z (h.fq.cls h.ag G fun k P=>by simp[P]) ((F L (Array.getElem?_eq_some_iff.1 h.bx).1).trans h.bc) q.2.2 (K _ _ _ _ H)⟩
theorem K9.s2 {j f l:Nat}{A C:TypeId}{s:Nat}{B:Y->Y->Obj}{D:Nat->Nat}{w0:V}{L:Nat}{x:ByteArray}{c:Nat->Nat}{w w2:V}{r p F:Y}{n i:Nat}{es:List Ue}{t:Ue}{g d:Nat}{o:Obj}(h:K9 j f l A C s B D w0 L x c w r p F n es [t])(O:t.m=x)(q:f≠j/\f≠l/\1≠j/\1≠f/\1≠l)
  (P:∀(W:V) a b u,W.heap[L]?=I (B a b)->(W.setCell ⟨L,i,J⟩ u).heap[L]?=I (B a u))
  (Q:(w.alloc o).grownBy w2 p.ownBlock)(R:w2.ownsRow (L+1) 9 1 (Z (I ⟨g,0,J⟩) (es.length+1) d) (es.length+1) ((es.map fun e=>H e.m)++[M x]))(v:p.ownBlock=I g\/w.heap.size<=g):
  w2.heap[L]?=I (B r p)/\∃y,K9 j f l A C s B D w0 L x y (w2.setCell ⟨L,i,J⟩ (Z (I ⟨g,0,J⟩) (es.length+1) d)) r (Z (I ⟨g,0,J⟩) (es.length+1) d) F n (es++[t]) []:=by
 obtain⟨y,G,S,z,K⟩:=h.sh.step2 h.ls O ⟨q.1,q.2.1⟩ Q R v;have N:=K.whole h.bx (fun e=>q.2.2.2.1 (h.bc.symm.trans e));exact⟨N,y,K9.box (h.ag.trans G h.fq.size) S (by rw[E];exact z) (h.fq.cls h.ag K fun k T=>by simp[T]) ((G L (Array.getElem?_eq_some_iff.1 h.bx).1).trans h.bc) q.2.2 (P _ _ _ _ N)⟩
theorem K9.s3 {g i b:Nat}{r f:TypeId}{s:Nat}{B:Y->Y->Obj}{t:Nat->Nat}{w0:V}{L:Nat}{x:ByteArray}{c:Nat->Nat}{w w2:V}{u y:Y}{n:Nat}{es:List Ue}{l:Option Addr}{cap d a:Nat}{m:List Y}(h:K9 g i b r f s B t w0 L x c w u y (Z l n cap) n es [])(o:b≠g/\b≠i/\1≠b)(D:(LA s x).length=s)(F:w.ownsRow (L+1) f s (Z l n cap) n m)(G:∀k j v,k<n->(LA s x)[j]?=I v->m[k*s+j]?=I v)
  (H:w2.ownsRow (L+1) f s (Z (I ⟨d,0,J⟩) (n+1) a) (n+1) (m++LA s x))(p:(l=I ⟨d,0,J⟩/\Fr (fun k=>k=d) w w2)\/(w.heap.size<=d/\F0 w w2)):
  ∃q,K9 g i b r f s B t w0 L x q w2 u y (Z (I ⟨d,0,J⟩) (n+1) a) (n+1) es []:=by
 obtain⟨_,_,_,K,z⟩:=h.ls;rw[E]at z;obtain⟨q,A,M,N,C⟩:=h.sh.step3 F G K z ⟨o.1,o.2.1⟩ D H p;exact⟨q,h.ag.trans A h.fq.size,M,by rw[E];exact N,h.fq.cls h.ag C fun k O=>by simp[O],C.whole h.bx (fun e=>o.2.2 (h.bc.symm.trans e)),(A L (Array.getElem?_eq_some_iff.1 h.bx).1).trans h.bc⟩
