import Derived.Test.YtccikgogjfbpeaaGreatDoorBb
import Derived.Test.YtccikgogjfbpeaaGreatDoorBa
open Nat renaming pow_pos->I,le_refl->J,le_trans->V,mul_comm->Y,pow_le_pow_right->U,div_eq_of_lt_le->K,le_of_mul_le_mul_left->O,lt_of_mul_lt_mul_left->E,lt_or_ge->D,mul_div_cancel_left->G,mul_le_mul_left->C,mul_div_cancel->F,mul_left_comm->Q,pow_add->z0,mul_assoc->z2,le_of_lt->z4,mul_succ->z5,succ_mul->z6,add_mul->z7,zero_le->z8,pow_one->z9,mod_lt->y0
open List renaming length_append->P,length_cons->H,mem_append->M,length_map->N,mem_cons->X,length_pos_iff->A,all_eq_true->z1,mem_map->z3,range->y1
open Option renaming some->Z
namespace Go.Proofs.YtccikgogjfbpeaaGreatDoor
set_option maxRecDepth 30000
set_option maxHeartbeats 8000000
theorem Rf:∀(n:Nat)(l:List Nat),l.Nodup->(∀x,x∈l->x<n)->l.length<=n
 |0,[],_,_=>J _
 |0,x::l,_,h=>by have:=h x (by simp);omega
 |n+1,l,hd,h=>by
  have e:=Rf n (l.erase n) (hd.erase n) (fun x c=>by
   have b:=(hd.mem_erase_iff).1 c;have:=h x b.2;have:=b.1
   omega)
  have:=List.le_length_erase (a:=n) (l:=l);omega
def wv (R:List Ze)(a:List Nat):Prop:=a.Nodup/\∀m,m∈a->m<2^R.length/\∃c,∀i r,R[i]?=Z r->(m.testBit i=true↔RF r.digits r.lo r.hi c)
theorem ED {a m x}(h:x∈Wv a m):x∈a\/x=m:=by
 unfold Wv at h
 split at h
 ·exact .inl h
 simpa using h
theorem DF {R:List Ze}{f:Nat->List Nat->Tr×List Nat}(b:∀d a,d<10->wv R a->wv R (f d a).2):∀(k:Nat)(a:List Nat),k<=10->wv R a->wv R (YA f k a).2
 |0,_,_,h=>h
 |k+1,a,hk,h=>b k _ (by omega) (DF b k a (by omega) h)
theorem Gs {R q met op}(h:met<2^R.length):(Yz q op 0 R (met,0)).1<2^R.length:=by
 apply Nat.lt_pow_two_of_testBit;intro j b
 cases c:(Yz q op 0 R (met,0)).1.testBit j with
 |false=>rfl
 |true=>
  rcases(QN R 0 (met,0) j).1.1 c with a|⟨r,_,d,_⟩
  ·rw[Nat.testBit_lt_two_pow (nL h (U (by decide) b))]at a
   cases a
  have:=(iG.1 d).1
  omega
theorem DG {R:List Ze}(c:∀r,r∈R->QO r):∀(n:Nat)(q:Z3)(met op:Nat)(b:List Nat),7<=n+q.d->q.d<=6->T9 R q met op->met<2^R.length->wv R b->wv R (ZG R n q met op b).2
 |0,q,_,_,_,hn,hq,_,_,_=>by omega
 |n+1,q,met,op,b,hn,hq,hk,a,hg=>by
  have e:=NF c hq hk;simp only[ZG]
  split
  ·rename_i f
   refine⟨Jq hg.1,fun x g=>?_⟩;rcases ED g with g|rfl
   ·exact hg.2 x g
   refine⟨Gs a,q.x*10^(6-q.d),fun i r k=>?_⟩
   have l:YQ q (q.x*10^(6-q.d)):=F _ (I (by decide))
   constructor
   ·intro a;exact(e i r k).1 a _ l
   intro hi
   cases a:(Yz q op 0 R (met,0)).1.testBit i with
   |true=>rfl
   |false=>exact absurd hi ((e i r k).2 a (by rw[f];simp) _ l)
  rename_i f
  have h:=Sa c f;exact DF (fun d j m o=>DG c n (q.longer d) _ _ j (by show 7<=n+(q.d+1);omega) (by show q.d+1<=6;omega) (QP h m e) (Gs a) o) 10 b (J _) hg
theorem Vq (r:Ze)(c):RF r.digits r.lo r.hi c↔r.lo*10^(6-r.digits)<=c/\c<(r.hi+1)*10^(6-r.digits):=by
 have a:0<10^(6-r.digits):=I (by decide);unfold RF;rw[Nat.le_div_iff_mul_le a,<-Nat.div_lt_iff_lt_mul a,Nat.lt_succ_iff]
theorem few {R}(u:R.length<=8){ps}(h:wv R ps):ps.length<=255:=by
 by_cases A:R.length<=7
 ·have:2^R.length<=2^7:=U (by decide) A
  have:=Rf 128 ps h.1 (fun x f=>by have:=(h.2 x f).1;omega);omega
 have u:R.length=8:=by omega
 have k:∀x,x∈ps->x<256:=fun x f=>by have:=(h.2 x f).1;rw[u]at this;exact this
 have d:∀m,m<256->m∉ps->ps.length<=255:=fun m B C=>by
  have:=Rf 256 (m::ps) (List.nodup_cons.2 ⟨C,h.1⟩) (fun x f=>by
   rcases X.1 f with rfl|f
   ·exact B
   exact k x f)
  simp at this;omega
 by_cases v:7∈ps
 ·by_cases w:3∈ps
  ·by_cases y:5∈ps
   ·by_cases z:6∈ps
    ·exfalso
     obtain⟨_,l,n⟩:=h.2 7 v;obtain⟨_,o,p⟩:=h.2 3 w;obtain⟨_,q,r⟩:=h.2 5 y;obtain⟨_,s,t⟩:=h.2 6 z;have g:R[0]?=Z (R[0]'(by omega)):=gE _;have i:R[1]?=Z (R[1]'(by omega)):=gE _;have j:R[2]?=Z (R[2]'(by omega)):=gE _;generalize R[0]'(by omega)=a at g;generalize R[1]'(by omega)=b at i;generalize R[2]'(by omega)=c at j;have D:=(Vq a l).1 ((n 0 a g).1 (by decide));have E:=(Vq b l).1 ((n 1 b i).1 (by decide));have F:=(Vq c l).1 ((n 2 c j).1 (by decide));have G:=(Vq a o).1 ((p 0 a g).1 (by decide));have H:=(Vq b o).1 ((p 1 b i).1 (by decide))
     have I:¬_:=fun e=>absurd ((p 2 c j).2 ((Vq c o).2 e)) (by decide)
     have J:=(Vq a q).1 ((r 0 a g).1 (by decide))
     have K:¬_:=fun e=>absurd ((r 1 b i).2 ((Vq b q).2 e)) (by decide)
     have L:=(Vq c q).1 ((r 2 c j).1 (by decide))
     have M:¬_:=fun e=>absurd ((t 0 a g).2 ((Vq a s).2 e)) (by decide)
     have N:=(Vq b s).1 ((t 1 b i).1 (by decide));have O:=(Vq c s).1 ((t 2 c j).1 (by decide));generalize a.lo*10^(6-a.digits)=P at*;generalize(a.hi+1)*10^(6-a.digits)=Q at*;generalize b.lo*10^(6-b.digits)=S at*;generalize(b.hi+1)*10^(6-b.digits)=T at*;generalize c.lo*10^(6-c.digits)=V at*;generalize(c.hi+1)*10^(6-c.digits)=W at*;omega
    exact d 6 (by decide) z
   exact d 5 (by decide) y
  exact d 3 (by decide) w
 exact d 7 (by decide) v
theorem KR {m n:Nat}(h:m<=n):∀(t:Tr),t.lows m->t.lows n
 | .leaf _,ht=>nL ht h
 | .node k,ht=>fun d a=>KR h (k d) (ht d a)
theorem KS {f:Nat->List Nat->Tr×List Nat}(b:∀d a,∃s,(f d a).2=a++s)(c:∀d a,(f d a).1.lows (f d a).2.length):∀(k:Nat)(a:List Nat)(d:Nat),d<k->((YA f k a).1 d).lows (YA f k a).2.length
 |0,_,_,hd=>by omega
 |k+1,a,d,hd=>by
  by_cases e:d=k
  ·subst e
   simp only[YA,if_true];exact c d _
  simp only[YA,if_neg e]
  obtain⟨s,g⟩:=b k (YA f k a).2;rw[g];exact KR (by simp) _ (KS b c k a d (by omega))
theorem KT {R:List Ze}(c:∀r,r∈R->QO r):∀(n:Nat)(q:Z3)(met op:Nat)(b:List Nat),7<=n+q.d->q.d<=6->(ZG R n q met op b).1.lows (ZG R n q met op b).2.length
 |0,q,_,_,_,hn,hq=>by omega
 |n+1,q,met,op,b,hn,hq=>by
  simp only[ZG]
  split
  ·exact(iG.1 (L9 _ _)).1
  rename_i e
  have f:=Sa c e
  exact fun d g=>KS (fun d a=>NG R n _ _ _ a) (fun d a=>KT c n (q.longer d) _ _ a (by show 7<=n+(q.d+1);omega) (by show q.d+1<=6;omega)) 10 b d g
theorem T2 {α:Type}{W:α->List UInt8}{B:Nat}:∀(l:List α),(∀x,x∈l->(W x).length<=B)->(l.flatMap W).length<=l.length*B
 |[],_=>by simp
 |x::l,h=>by
  have b:=h x (by simp);have c:=T2 l (fun y a=>h y (by simp[a]));rw[List.flatMap_cons,lA,H,z7,Nat.one_mul];omega
def zW (l:List Zl):Prop:=∀k s,l[k]?=Z s->k+s.skip<l.length
theorem Gt {l r}(b:∀k s,l[k]?=Z s->k+s.skip<l.length+r.length)(c:zW r):zW (l++r):=by
 intro k s a;rw[lA];by_cases d:k<l.length
 ·rw[List.getElem?_append_left d]at a
  exact b k s a
 rw[aR (by omega)]at a
 have:=c _ _ a;omega
theorem EE {m:Nat}:∀{l:List Zl}{a k:Nat}{s:Zl},(ZN m a l)[k]?=Z s->∃x,l[k]?=Z x/\s={x with skip:=m-(a+k)+1}
 |[],_,_,_,h=>by simp[ZN]at h
 |x::r,a,0,s,h=>by
  simp[ZN]at h;exact⟨x,by simp,by rw[<-h];simp⟩
 |x::r,a,k+1,s,h=>by
  simp only[ZN,List.getElem?_cons_succ]at h;obtain⟨y,b,c⟩:=EE h;exact⟨y,by simpa using b,by rw[c,show a+1+k=a+(k+1)from by omega]⟩
theorem Gu (i r):(UG i r).skip=0:=by
 unfold UG
 split
 ·rfl
 split<;>rfl
theorem M7 {s}(h:s.skip=0):zW [s]:=fun k x a=>by
 cases k with
 |zero=>simp at a;subst a;simp[h]
 |succ k=>simp at a
theorem M8 (R:List Ze)(met:Nat):∀L:List Nat,zW (ZI R met L)/\1<=(ZI R met L).length
 |[]=>⟨M7 rfl,by simp[ZI]⟩
 |i::L=>by
  have b:=M8 R met L;simp only[ZI]
  split
  ·cases d:R[i]? with
   |none=>exact b
   |some r=>
    dsimp only
    split
    ·exact⟨M7 (Gu i r),by simp⟩
    refine⟨Gt (fun k s a=>?_) ?_,by simp;omega⟩
    ·have c:=(iG.1 a).1
     unfold Sd at a c ⊢;rw[VG]at c ⊢;obtain⟨x,_,e⟩:=EE a;subst e;simp only[H];have:=b.2;omega
    exact Gt (l:=[UG i r]) (fun k s a=>by have:=M7 (Gu i r) k s a;simp at this ⊢;omega) b.1
  exact b
theorem zX {l}(h:zW l):Ox l=true:=by
 unfold Ox;rw[z1];intro k _
 cases a:l[k]? with
 |none=>rfl
 |some s=>simpa using h k s a
structure si (nr:Nat)(r:Ze):Prop where
 m4:r.mcc.length<=4
 mx:∀x,x∈r.mcc->x<=9999
 c4:r.cur.length<=4
 cx:∀x,x∈r.cur->x<=999
 am:∀ab,r.am=Z ab->ab.1<=ab.2/\ab.2<=1000000000
 ac:r.decline=true\/1<=r.routes.length/\r.routes.length<=4
 pl:∀x,x∈r.routes->x<nr
theorem Gv {R:List Ze}{f:Nat}(q:∀r,r∈R->si f r)(met:Nat):∀(L:List Nat)(s:Zl),s∈ZI R met L->vM f R.length s
 |[],s,h=>by
  simp[ZI]at h;exact .inr (.inr (.inr (.inr h)))
 |i::L,s,h=>by
  have g:=Gv q met L s;simp only[ZI]at h
  split at h
  ·cases d:R[i]? with
   |none=>rw[d]at h;exact g h
   |some r=>
    rw[d]at h
    dsimp only at h
    have b:=q r (mG d);have hi:=(iG.1 d).1
    have t:vM f R.length (UG i r):=by
     unfold UG
     split
     ·exact .inr (.inr (.inl ⟨i,rfl,hi⟩))
     rename_i v
     rcases b.ac with c|⟨c,u⟩
     ·exact absurd c v
     split
     ·exact .inr (.inr (.inr (.inl ⟨5,_,i,.inr rfl,rfl,hi,c,u,b.pl⟩)))
     exact .inr (.inr (.inr (.inl ⟨4,_,i,.inl rfl,rfl,hi,c,u,b.pl⟩)))
    split at h
    ·simp at h
     subst h;exact t
    rcases M.1 h with h|h
    ·obtain⟨k,w,e⟩:=List.getElem_of_mem h
     have j:=gE w;rw[e]at j;unfold Sd at j;obtain⟨x,c,y⟩:=EE j;have z:=Tm r;have l:=mG c
     have a:1<=(Z4 r).length-(0+k)+1/\(Z4 r).length-(0+k)+1<=255:=by omega
     generalize(Z4 r).length-(0+k)+1=m at*;subst y;unfold Z4 at l;rw[M,M]at l;rcases l with e|e|e
     ·split at e
      ·cases e
      rename_i n
      simp at e;subst e;exact .inl ⟨0,9999,r.mcc,m,.inl ⟨rfl,rfl⟩,rfl,a.1,a.2,A.2 n,b.m4,b.mx⟩
     ·cases o:r.am with
      |none=>rw[o]at e;cases e
      |some p=>
       rw[o]at e;simp at e;subst e;exact .inr (.inl ⟨p.1,p.2,m,rfl,a.1,a.2,b.am p o⟩)
     split at e
     ·cases e
     rename_i n
     simp at e;subst e;exact .inl ⟨2,999,r.cur,m,.inr ⟨rfl,rfl⟩,rfl,a.1,a.2,A.2 n,b.c4,b.cx⟩
    rcases X.1 h with rfl|h
    ·exact t
    exact g h
  exact g h
theorem BH {l}(h:l.length<=4):(Ts l).length<=9:=by
 unfold Ts;have:=T2 (W:=ZA 2) (B:=2) l (fun x _=>by rw[Zi];omega);rw[lA,Zi];omega
theorem BI {c d s}(h:vM c d s):(Y0 s).length<=11:=by
 have e:s.nums.length<=4:=by
  rcases h with⟨f,hi,l,k,a,rfl,g,i,m,b,n⟩|⟨x,y,k,rfl,g,i,o,q⟩|⟨j,rfl,p⟩|⟨f,l,j,a,rfl,p,m,b,n⟩|rfl
  ·exact b
  ·simp
  ·simp
  ·exact b
  simp
 have:=BH e;unfold Y0;rw[lA,Zi]
 split
 ·rw[lA,Zi];omega
 split
 ·simp only[P,Zi];omega
 split
 ·rw[Zi];omega
 split
 ·rw[lA,Zi];omega
 simp
def Wc (rts:List Zf)(R:List Ze):LK:=⟨rts,R.map Ze.name,(ZG R 7 ⟨0,0⟩ 0 (2^R.length-1) []).2.map fun m=>ZI R m (X6 R.length (Zx (Zv R) R.length)),(ZG R 7 ⟨0,0⟩ 0 (2^R.length-1) []).1⟩
theorem zY {rts R}(a:Yx rts R):wv R (ZG R 7 ⟨0,0⟩ 0 (2^R.length-1) []).2:=
 DG (R:=R) (fun r b=>⟨(a.rl r b).bn.1,(a.rl r b).bn.2.1⟩) 7 ⟨0,0⟩ 0 (2^R.length-1) [] (by simp) (by simp) (PP R) (I (by decide)) ⟨List.nodup_nil,by simp⟩
theorem M9 {rts R}(a:Yx rts R):(ZG R 7 ⟨0,0⟩ 0 (2^R.length-1) []).1.lows (ZG R 7 ⟨0,0⟩ 0 (2^R.length-1) []).2.length:=
 KT (R:=R) (fun r b=>⟨(a.rl r b).bn.1,(a.rl r b).bn.2.1⟩) 7 ⟨0,0⟩ 0 (2^R.length-1) [] (by simp) (by simp)
theorem Gw {n:Nat}:∀(t:Tr),t.lows n->0<n
 | .leaf _,h=>Nat.lt_of_le_of_lt (z8 _) h
 | .node k,h=>Gw (k 0) (h 0 (by decide))
theorem zZ {rts R}(a:Yx rts R)(d:∀r,r∈R->si rts.length r)(e:∀r,r∈rts->Ww r.name=true/\r.base<=1000000/\r.rate<=1000)(f:∀r,r∈R->Ww r.name=true)(g:(YN (rts.map Zf.name)&&YN (R.map Ze.name))=true):(Wc rts R).Wr:=by
 refine⟨a.r6,e,by unfold Wc;simpa using a.l8,fun s b=>?_,g,?_,fun l h=>?_,Mt a,?_⟩
 ·obtain⟨r,i,rfl⟩:=z3.1 b
  exact f r i
 ·unfold Wc
  dsimp only
  rw[N];exact⟨Gw _ (M9 a),few a.l8 (zY a)⟩
 ·obtain⟨m,j,rfl⟩:=z3.1 h
  have k:=Sg R m (X6 R.length (Zx (Zv R) R.length))
  have n:(X6 R.length (Zx (Zv R) R.length)).length=R.length:=by simp[X6]
  have o:=a.l8;have c:=M8 R m (X6 R.length (Zx (Zv R) R.length));refine⟨c.2,by omega,fun s b=>?_,zX c.1⟩;have:=Gv d m _ s b;unfold Wc
  dsimp only
  rw[N];exact this
 unfold Wc
 dsimp only
 rw[N];exact M9 a
theorem KU {s}(h:Ww s=true):(Wx s).length<=9:=by
 have:=MT h;unfold Wx;rw[lA,Zi];simp;omega
theorem ya {t}(h:t.Wr)(a:∀l,l∈t.prs->l.length<=33)(d:t.root.wr.length<=1111):(XF t).length<=100000:=by
 have e:=T2 (W:=WR) (B:=17) t.rts (fun r c=>by have:=KU (h.rt r c).1;unfold WR;simp only[P,Zi];omega);have f:=T2 (W:=Wx) (B:=9) t.nms (fun s a=>KU (h.nm s a))
 have g:=T2 (W:=U8) (B:=364) t.prs (fun l b=>by
  have:=T2 (W:=Y0) (B:=11) l (fun s a=>BI ((h.pr l b).2.2.1 s a));have:=a l b;unfold U8;rw[lA,Zi]
  omega)
 have:=h.r6;have:=h.n8;have:=h.pl;unfold XF;simp only[P,Zi];omega
theorem DH {s:ByteArray}:∀(l:List ByteArray)(i k:Nat),l[k]?=Z s->(∀j x,j<k->l[j]?=Z x->(s.toList==x.toList)=false)->Uy s i l=((i+k:Nat):Int)
 |[],_,_,h,_=>by simp at h
 |x::r,i,0,h,_=>by
  simp at h;subst h;simp[Uy]
 |x::r,i,k+1,h,hn=>by
  rw[Uy,if_neg (by rw[hn 0 x (by omega) rfl];simp),DH r (i+1) k (by simpa using h) (fun j y b a=>hn (j+1) y (by omega) (by simpa using a))]
  congr 1
  omega
theorem La {l}(h:∀(i j:Nat) a b,l[i]?=Z a->l[j]?=Z b->j<i->(a.toList==b.toList)=false):YN l=true:=by
 unfold YN;rw[z1];intro k _
 cases c:l[k]? with
 |none=>rfl
 |some s=>
  dsimp only
  rw[DH l 0 k c (fun j x d e=>h k j s x c e d)];simp

open Go.RowKit
def Pm (t:LK):LK:=⟨t.rts,t.nms,t.prs,t.root.norm⟩
theorem KV (t):XF (Pm t)=XF t:=by
 unfold XF Pm;rw[DB]
theorem xG {t}(h:t.Wr)(a:(Pm t).Ok):(Pm t).Wr:=⟨h.r6,h.rt,h.n8,h.nm,h.df,h.pl,h.pr,a.dp,a.lf⟩
theorem LO.ti {w T rts R}(h:LO w T rts R):vN w T (Wc rts R):=by
 obtain⟨a,b,c,d,e,f,g,_⟩:=h;exact⟨b,a,c,d,e,f.tg g⟩
theorem LQ.ti {w T t}(h:LQ w T t):vN w T t:=by
 obtain⟨_,a,b,c,d,e,f⟩:=h;exact⟨a,b,c,d,e,f⟩
theorem LQ.same {w T rts R}(h:LQ w T (Pm (Wc rts R)))(f:(Pm (Wc rts R)).Ok)(g:Yx rts R)(a c l)(b:Ye w a l)(i:l.length<=maxLen)(p)(j:p.pan.size<=maxLen):
  Calls Tryz.prog 19 #[.pointer (Z ⟨T,0,none⟩),UI p,.slice a l.length c] w fun e w'=>e=.returned (OQ (TR rts R p (Vh rts l)))/\F0 w w':=by
 obtain⟨_,k,m,o,r,s,t⟩:=h
 have e:=Ha w m T k rts o r _ _ _ a c l p (Qj R (YF (Zv R) (YX R p (Zy p.pan)) R.length)) ⟨s,t,ut f,b,i⟩ (fun u=>by
  obtain⟨q,v,x⟩:=Mu g p u;have d:=KJ (dg:=Iu (Zy p.pan)) (fun n=>y0 _ (by decide)) (Wc rts R).root 0;refine⟨q,?_,x⟩
  show(Wc rts R).prs[(Wc rts R).root.norm.find (Iu (Zy p.pan)) 0]?=Z q
  rw[d]
  exact v) j
 have y:=Ks (rts:=rts) (R:=R) p (Vh rts l);rw[<-y];exact e
theorem Gx (a hi:Nat):∀(n k:Nat),k<=So a hi n k
 |0,k=>J _
 |n+1,k=>by
  unfold So
  split
  ·exact V (Nat.le_succ k) (Gx a hi n (k+1))
  exact J _
theorem KW {a hi m:Nat}(h:yE a hi m):∀(n k:Nat),m<=n+k->m<=So a hi n k
 |0,k,h2=>by simpa[So]using h2
 |n+1,k,h2=>by
  rcases D k m with b|b
  ·have e:=U (show 0<10 by omega) (show k+1<=m from b)
   have c:a/10^k % 10=0:=by
    obtain⟨j,d⟩:=h.1;rw[d,show m=k+(1+(m-(k+1)))from by omega,z0,z0,z2,z2,G _ (I (by omega)),z9,Nat.mul_mod_right]
   unfold So;rw[if_pos ⟨c,by have:=h.2;omega⟩];exact KW h n (k+1) (by omega)
  exact V b (Gx a hi _ k)
theorem OD {d hi:Nat}{q:Z3}(v:hi<10^d)(B:d<=6)(C:q.d<=d)(w:q.x*10^(d-q.d)+10^(d-q.d)<=hi+1):∀(n b:Nat),hi+1-b<=n->b<=q.x*10^(d-q.d)->ZH q (Ym d hi n b)=2
 |0,b,hn,hl=>by have:=I (n:=d-q.d) (show 0<10 by omega);omega
 |n+1,b,hn,hl=>by
  have F:=I (n:=d-q.d) (show 0<10 by omega)
  have c:b<=hi:=by omega
  have J:=Ac c v;obtain⟨⟨j,g⟩,L⟩:=OZ c
  have i:=fun m (h:yE b hi m)=>KW h 9 0
  change∀m,yE b hi m->m<=9+0->m<=SB b hi at i
  unfold Ym;rw[if_pos c];generalize SB b hi=k at*;have l:=I (n:=k) (show 0<10 by omega);unfold ZH
  split
  ·rfl
  rename_i r
  have s:b/10^k=j:=by rw[g,G _ l]
  have y:¬(q.x*10^(d-q.d)<b+10^k):=fun o=>by
   rcases D k (d-q.d)with z|z
   ·obtain⟨t,f⟩:10^k∣q.x*10^(d-q.d):=Nat.dvd_trans (Nat.pow_dvd_pow 10 (z4 z)) (Nat.dvd_mul_left _ _)
    have M:j<=t:=O (by rw[<-g,<-f];exact hl) l;have N:t<j+1:=E (a:=10^k) (by rw[<-f,z5,<-g];exact o)
    have H:t=j:=by omega
    have A:b=q.x*10^(d-q.d):=by rw[f,H];exact g
    have:=i (d-q.d) ⟨⟨q.x,by rw[A,Y]⟩,by rw[A];exact w⟩ (by omega);omega
   refine r (UJ.2 ⟨by show d-k<=q.d;omega,?_⟩)
   show q.x/10^(q.d-(d-k))=b/10^k
   rw[s]
   have e:10^k=10^(d-q.d)*10^(q.d-(d-k)):=by rw[<-z0];congr 1;omega
   have u:10^(d-q.d)*(j*10^(q.d-(d-k)))<=10^(d-q.d)*q.x:=by rw[Q,<-e,Y j,<-g,Y];exact hl
   have p:10^(d-q.d)*q.x<10^(d-q.d)*((j+1)*10^(q.d-(d-k))):=by rw[Q,<-e,Y (j+1),z5,<-g,Y];exact o
   exact K (O u F) (E p)
  rw[if_neg ?_]
  ·exact OD v B C w n _ (by omega) (by omega)
  intro h
  obtain⟨u,p⟩:=UJ.1 h
  change q.d<=d-k at u
  change b/10^k/10^(d-k-q.d)=q.x at p
  rw[<-Y4,show k+(d-k-q.d)=d-q.d from by omega]at p;have:=Nat.div_mul_le_self b (10^(d-q.d));rw[p]at this;omega
theorem Lc {q:Z3}:∀{a:List Z3},ZH q a=1->∃p,p∈a/\q.holds p=true
 |[],h=>by simp[ZH]at h
 |p::r,h=>by
  unfold ZH at h
  split at h
  ·omega
  split at h
  ·rename_i b
   exact⟨p,List.mem_cons_self,b⟩
  obtain⟨c,d,e⟩:=Lc h
  exact⟨c,List.mem_cons_of_mem _ d,e⟩
theorem EF {d lo hi q}(e:hi<10^d)(f:d<=6)(h:ZH q (YP d lo hi)=1):q.d<d/\(lo/10^(d-q.d)=q.x\/hi/10^(d-q.d)=q.x):=by
 have j:=Nn e f h;have m:=I (n:=d-q.d) (show 0<10 by omega);refine⟨j,?_⟩
 have w:¬(lo<=q.x*10^(d-q.d)/\q.x*10^(d-q.d)+10^(d-q.d)<=hi+1):=fun⟨a,b⟩=>by
  have:=OD e f (z4 j) b (hi+1-lo) lo (J _) a;unfold YP at h;omega
 obtain⟨y,o,r,g⟩:∃y,lo<=y/\y<=hi/\y/10^(d-q.d)=q.x:=by
  obtain⟨p,s,t⟩:=Lc h;have i:YQ p (p.x*10^(6-p.d)):=F _ (I (by omega));obtain⟨z,k⟩:=Un e f _ _ s (c:=p.x*10^(6-p.d));have l:=Ie t (by omega) i;refine⟨_,(k i).1,(k i).2,?_⟩;unfold YQ at l;rw[<-Y4,show 6-d+(d-q.d)=6-q.d from by omega];exact l
 have u:=Nat.div_add_mod y (10^(d-q.d));have A:=y0 y m;rw[g,Y]at u;rcases D (q.x*10^(d-q.d)) lo with v|v
 ·exact .inl (K (by omega) (by rw[z6];omega))
 exact .inr (K (by omega) (by rw[z6];omega))
def O9 (d n:Nat)(q:Z3):Nat:=if q.d<d/\n/10^(d-q.d)=q.x then 1 else 0
def TD (f:Nat->Nat):Nat->Nat
 |0=>0
 |m+1=>TD f m+f m
theorem Ld (f g:Nat->Nat):∀m,TD (fun k=>f k+g k) m=TD f m+TD g m
 |0=>rfl
 |m+1=>by simp only[TD];rw[Ld f g m];omega
theorem J1 (d n:Nat)(q:Z3):∀m,m<=10->TD (fun k=>O9 d n (q.longer k)) m<=if q.d<d/\n/10^(d-q.d)=q.x/\n/10^(d-(q.d+1))% 10<m then 1 else 0
 |0,_=>z8 _
 |m+1,hm=>by
  have a:=J1 d n q m (by omega)
  show TD _ m+O9 d n (q.longer m)<=_
  generalize TD _ m=S at*;unfold O9
  show S+(if q.d+1<d/\n/10^(d-(q.d+1))=q.x*10+m then 1 else 0)<=_
  rcases D (q.d+1) d with h|h
  ·rw[show d-q.d=(d-(q.d+1))+1 from by omega,Y4,z9]at a ⊢
   split at a<;>split<;>split<;>omega
  rw[if_neg (by omega)]
  split at a<;>split<;>omega
def GW (R:List Ze)(q:Z3):Nat:=(R.map fun r=>O9 r.digits r.lo q+O9 r.digits r.hi q).sum
theorem Gy (q:Z3):∀R:List Ze,TD (fun k=>GW R (q.longer k)) 10<=GW R q
 |[]=>by simp[GW,TD]
 |r::R=>by
  have a:=J1 r.digits r.lo q 10 (J _);have b:=J1 r.digits r.hi q 10 (J _);have c:=Gy q R
  show TD (fun k=>O9 r.digits r.lo (q.longer k)+O9 r.digits r.hi (q.longer k)+GW R (q.longer k)) 10<=O9 r.digits r.lo q+O9 r.digits r.hi q+GW R q
  rw[Ld (fun k=>O9 r.digits r.lo (q.longer k)+O9 r.digits r.hi (q.longer k)),Ld (fun k=>O9 r.digits r.lo (q.longer k))];have d:TD (fun k=>O9 r.digits r.lo (q.longer k)) 10<=O9 r.digits r.lo q:=V a (by unfold O9;split<;>split<;>omega);have e:TD (fun k=>O9 r.digits r.hi (q.longer k)) 10<=O9 r.digits r.hi q:=V b (by unfold O9;split<;>split<;>omega);omega
theorem DI {q:Z3}{r:Ze}(h:q.d<r.digits/\(r.lo/10^(r.digits-q.d)=q.x\/r.hi/10^(r.digits-q.d)=q.x)):∀{R:List Ze},r∈R->1<=GW R q
 |x::R,a=>by
  show 1<=O9 x.digits x.lo q+O9 x.digits x.hi q+GW R q
  rcases X.1 a with e|a
  ·subst e
   unfold O9;rcases h.2 with b|b
   ·rw[if_pos ⟨h.1,b⟩];omega
   rw[if_pos (c:=q.d<r.digits/\r.hi/10^(r.digits-q.d)=q.x) ⟨h.1,b⟩];omega
  have:=DI h a
  omega
theorem yb (q:Z3):∀R:List Ze,GW R q<=2*R.length
 |[]=>by simp[GW]
 |r::R=>by
  have:=yb q R
  show O9 r.digits r.lo q+O9 r.digits r.hi q+GW R q<=_
  unfold O9;rw[H]
  split<;>split<;>omega
theorem Gz (W:Nat->List UInt8):∀m,((y1 m).flatMap W).length=TD (fun k=>(W k).length) m
 |0=>rfl
 |m+1=>by rw[List.range_succ,List.flatMap_append,P,Gz W m];simp[TD]
theorem DJ {f g:Nat->Nat}:∀m,(∀k,k<m->f k<=g k)->TD f m<=TD g m
 |0,_=>J _
 |m+1,h=>Nat.add_le_add (DJ m fun k a=>h k (by omega)) (h m (by omega))
theorem GA (c:Nat)(f:Nat->Nat):∀m,TD (fun k=>1+c*f k) m=m+c*TD f m
 |0=>by simp[TD]
 |m+1=>by simp only[TD];rw[GA c f m,Nat.mul_add];omega
theorem GB {f:Nat->List Nat->Tr×List Nat}{B:Nat->Nat}(b:∀d a,(f d a).1.wr.length<=B d):∀(k:Nat)(a:List Nat)(d:Nat),d<k->((YA f k a).1 d).wr.length<=B d
 |0,_,_,hd=>by omega
 |k+1,a,d,hd=>by
  by_cases e:d=k
  ·subst e
   simp only[YA,if_true];exact b d _
  simp only[YA,if_neg e]
  exact GB b k a d (by omega)
theorem GC {R:List Ze}(b:∀r,r∈R->QO r):∀(n:Nat)(q:Z3)(met op:Nat)(c:List Nat),7<=n+q.d->q.d<=6->(ZG R n q met op c).1.wr.length<=1+10*(6-q.d)*GW R q
 |0,q,_,_,_,hn,hq=>by omega
 |n+1,q,met,op,c,hn,hq=>by
  simp only[ZG]
  split
  ·show(ZA 1 _).length<=_
   rw[Zi];omega
  rename_i h
  obtain⟨j,i⟩:=Nat.exists_testBit_of_ne_zero h;rcases(QN R 0 (met,0) j).2.1 i with k|⟨r,_,l,_,m⟩
  ·simp at k
  have g:=mG l;have o:=EF (b r g).2 (b r g).1 m;have s:=(b r g).1;have t:=DI o g
  have p:=GB (f:=fun d a=>ZG R n (q.longer d) (Yz q op 0 R (met,0)).1 (Yz q op 0 R (met,0)).2 a) (B:=fun d=>1+10*(5-q.d)*GW R (q.longer d)) (fun d a=>by
   have:=GC b n (q.longer d) (Yz q op 0 R (met,0)).1 (Yz q op 0 R (met,0)).2 a (by show 7<=n+(q.d+1);omega) (by show q.d+1<=6;omega);rw[show 6-(q.longer d).d=5-q.d from by show 6-(q.d+1)=_;omega]at this
   exact this) 10 c
  show(ZA 1 0++(y1 10).flatMap fun d=>((YA _ 10 c).1 d).wr).length<=_
  have e:=V (Nat.le_of_eq (Gz _ 10)) (DJ 10 p);rw[GA]at e;rw[lA,Zi];have u:=C (10*(5-q.d)) (Gy q R)
  have v:10*(6-q.d)*GW R q=10*(5-q.d)*GW R q+10*GW R q:=by rw[<-z7];congr 1;omega
  omega
theorem GD {rts R}(a:Yx rts R):(Wc rts R).root.wr.length<=1111:=by
 have h:=GC (R:=R) (fun r b=>⟨(a.rl r b).bn.1,(a.rl r b).bn.2.1⟩) 7 ⟨0,0⟩ 0 (2^R.length-1) [] (by simp) (by simp);have c:=yb ⟨0,0⟩ R;have d:=a.l8;have e:10*(6-0)*GW R ⟨0,0⟩<=60*16:=C 60 (by omega);exact V h (by dsimp only;omega)
