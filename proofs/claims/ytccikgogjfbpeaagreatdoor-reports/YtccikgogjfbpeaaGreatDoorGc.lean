import Derived.Test.YtccikgogjfbpeaaGreatDoorGb
open Go.Value renaming int->I,slice->V,pointer->M,slice->z5,bool->z7
open Go.IntKind renaming i64->J
open Option renaming none->P,some->Y
open Go.Proofs.Tryz renaming prog->Z
open Go.RowKit renaming Hid->U
open Go.Ending renaming returned->O
open List renaming length_take->E,getElem?_append_left->N,range->R,take_append_drop->A,mem_of_mem_take->C,pairwise_append->F,getElem_of_mem->Q,length_drop->z2,mem_append->z3,mem_cons->z4
open Go renaming World->H,Calls->D,Value->z6
open Nat renaming le_refl->G,eq_zero_or_pos->z0,zero_add->z1
open Or renaming inr->T,inl->X
namespace Go.Proofs.YtccikgogjfbpeaaGreatDoor
set_option maxRecDepth 30000
set_option maxHeartbeats 8000000
def Wq (rk:Nat->Nat)(x:Nat)(l:List Nat):Nat->Nat
 |0=>0
 |j+1=>if rk (l.getD j 0)<rk x then Wq rk x l j else j+1
def Ox (rk:Nat->Nat)(x:Nat)(l:List Nat):List Nat:=l.take (Wq rk x l l.length)++x::l.drop (Wq rk x l l.length)
def Y0 (rk:Nat->Nat):Nat->List Nat
 |0=>[]
 |n+1=>Ox rk n (Y0 rk n)
theorem RP (rk:Nat->Nat)(x:Nat)(l:List Nat):∀j,Wq rk x l j<=j
 |0=>G _
 |j+1=>by
  unfold Wq
  split
  ·exact Nat.le_succ_of_le (RP rk x l j)
  ·exact G _
theorem Kj (rk:Nat->Nat)(x:Nat)(l:List Nat):(Ox rk x l).length=l.length+1:=by
 have:=RP rk x l l.length;unfold Ox;rw[lA,E,List.length_cons,z2];omega
theorem VC (rk:Nat->Nat):∀n,(Y0 rk n).length=n
 |0=>rfl
 |n+1=>by show(Ox rk n (Y0 rk n)).length=_;rw[Kj,VC rk n]
theorem ER {rk:Nat->Nat}{x y:Nat}{l:List Nat}:y∈Ox rk x l↔y=x\/y∈l:=by
 unfold Ox;rw[z3,z4]
 constructor
 ·rintro(h|h|h)
  ·exact T (C h)
  ·exact X h
  ·exact T (List.mem_of_mem_drop h)
 ·rintro(h|h)
  ·exact T (X h)
  ·rw[<-A (Wq rk x l l.length) l,z3]at h
   rcases h with h|h
   ·exact X h
   ·exact T (T h)
theorem VX {rk:Nat->Nat}:∀{n y:Nat},y∈Y0 rk n↔y<n
 |0,y=>by simp[Y0]
 |n+1,y=>by
  show y∈Ox rk n (Y0 rk n)↔_
  rw[ER,VX];omega
def TH (rk:Nat->Nat)(a b:Nat):Prop:=rk b<rk a\/(rk a=rk b/\a<b)
theorem Md {rk:Nat->Nat}{x:Nat}{l:List Nat}:∀{j i:Nat},Wq rk x l j<=i->i<j->rk (l.getD i 0)<rk x
 |0,_,_,h=>by omega
 |j+1,i,h1,h2=>by
  unfold Wq at h1
  split at h1
  ·rename_i a
   by_cases e:i=j
   ·subst e;exact a
   ·exact Md h1 (by omega)
  ·omega
theorem Oy {rk:Nat->Nat}{x:Nat}{l:List Nat}:∀{j:Nat},0<Wq rk x l j->¬rk (l.getD (Wq rk x l j-1) 0)<rk x
 |0,h=>by simp[Wq]at h
 |j+1,h=>by
  unfold Wq at h ⊢
  split at h
  ·rename_i a
   rw[if_pos a];exact Oy h
  ·rename_i a
   rw[if_neg a]
   simpa using a
theorem UF {l:List Nat}{i:Nat}(h:i<l.length):l.getD i 0=l[i]:=by simp[List.getD,h]
theorem J5 {rk:Nat->Nat}{x:Nat}{l:List Nat}(w:l.Pairwise (TH rk))(z:∀y,y∈l->y<x):(Ox rk x l).Pairwise (TH rk):=by
 unfold Ox;generalize n:Wq rk x l l.length=k
 have B:k<=l.length:=by rw[<-n];exact RP rk x l l.length
 have c:(l.take k++l.drop k).Pairwise (TH rk):=by rw[A];exact w
 rw[F]at c;obtain⟨D,G,H⟩:=c;rw[F]
 have d:∀y,y∈l.drop k->rk y<rk x:=by
  intro y f;obtain⟨i,p,e⟩:=Q f;rw[List.getElem_drop]at e
  have h:k+i<l.length:=by rw[z2]at p;omega
  have:=Md (rk:=rk) (x:=x) (l:=l) (j:=l.length) (i:=k+i) (by rw[n];omega) h;rw[UF h,e]at this;exact this
 have g:∀y,y∈l.take k->¬rk y<rk x:=by
  intro y f
  have q:0<k:=by
   rcases z0 k with e|e
   ·rw[e]at f;simp at f
   ·exact e
  have m:=Oy (rk:=rk) (x:=x) (l:=l) (j:=l.length) (by rw[n];exact q);rw[n,UF (by omega:k-1<l.length)]at m;obtain⟨i,p,e⟩:=Q f;rw[List.getElem_take]at e;rw[E]at p;by_cases r:i=k-1
  ·subst r;rw[<-e];exact m
  ·have o:=(List.pairwise_iff_getElem.1 w) i (k-1) (by omega) (by omega) (by omega)
   rw[e]at o;rcases o with o|o
   ·omega
   ·omega
 refine⟨D,?_,?_⟩
 ·rw[List.pairwise_cons]
  exact⟨fun y f=>X (d y f),G⟩
 ·intro a s b t
  rcases z4.1 t with e|t
  ·subst e
   have I:=g a s;have u:=z a (C s);by_cases v:rk b<rk a
   ·exact X v
   ·exact T ⟨by omega,u⟩
  ·exact H a s b t
theorem QY (rk:Nat->Nat):∀n,(Y0 rk n).Pairwise (TH rk)
 |0=>List.Pairwise.nil
 |n+1=>J5 (QY rk n) (fun _ a=>VX.1 a)
open Go.RowKit
theorem YN (g o k:Nat):(⟨g,o,P⟩:Addr).add k=⟨g,o+k,P⟩:=by unfold Addr.add;split<;>simp_all
theorem U1.at' {base:Nat}{w:H}:∀{rs:List Zc}{a:List z6}{j:Nat}{r:Zc},U1 base w rs a->rs[j]?=Y r->∃c,FY base w r c/\∀o v,c[o]?=Y v->a[j*14+o]?=Y v
 |[],_,j,_,_,hj=>by simp at hj
 |r::rs,a,0,r',⟨c,rest,e,h1,h2⟩,hj=>by
  simp at hj;subst hj;refine⟨c,h1,fun o v b=>?_⟩;have:=(iG.1 b).1;rw[e,Nat.zero_mul,z1,N this];exact b
 |r::rs,a,j+1,r',⟨c,rest,e,h1,h2⟩,hj=>by
  obtain⟨d,f,g⟩:=U1.at' h2 (j:=j) (r:=r') (by simpa using hj)
  have l:c.length=14:=by obtain⟨i,k,m,h,_⟩:=h1;rw[h];rfl
  refine⟨d,f,fun o v b=>?_⟩;rw[e,aR (by omega),l,show(j+1)*14+o-14=j*14+o from by omega];exact g o v b
theorem Bk.rule {w:H}{B:Nat}{y q:z6}{n:List Zd}{a:List Zc}{z:List z6}(h:Bk w B y q n a z){j:Nat}{r:Zc}(s:a[j]?=Y r):
  ∃g c d f i k l m,q=V (Y ⟨g,0,P⟩) a.length c/\B+1<=g/\g<w.heap.size/\
   (∀o v,[Value.string r.name,I J r.rank,I J r.digits,I J r.lo,I J r.hi,V d r.mcc.length f,z7 r.am.isSome,I J (r.am.getD (0,0)).1,I J (r.am.getD (0,0)).2,V i r.cur.length k,z7 r.decline,z7 r.cheapest,V l r.routes.length m,I J r.ahead][o]?=Y v->w.cell? ⟨g,j*14+o,P⟩=Y v)/\
   w.ownsRow (B+1) 3 1 (V d r.mcc.length f) r.mcc.length (Zg r.mcc)/\w.ownsRow (B+1) 3 1 (V i r.cur.length k) r.cur.length (Zg r.cur)/\w.ownsRow (B+1) 3 1 (V l r.routes.length m) r.routes.length (Zg r.routes):=by
 have A:0<a.length:=by have:=(iG.1 s).1;omega
 obtain⟨g,c,e,C,D⟩:=h.lo.form A;obtain⟨M,⟨N,O,Q,p,t,u,x⟩,E⟩:=h.ru.at' s;obtain⟨d,f,F⟩:=oL t;obtain⟨i,k,G⟩:=oL u;obtain⟨l,m,K⟩:=oL x;subst F G K;refine⟨g,c,d,f,i,k,l,m,e,C,D,fun o v L=>?_,t,u,x⟩;have b:=h.lo;rw[e]at b;have:=b.cells (g:=g) rfl _ _ (E o v (by rw[p];exact L))
 rwa [YN,z1]at this
def Oz (a b:Nat):Int:=if a<b then-1 else if b<a then 1 else 0
theorem Kk (a b:Nat)(w:H):D Z 144 #[I J a,I J b] w fun e w'=>e=O (I J (Oz a b))/\w'=w:=by
 have i:∀(a:Nat)(w:H),D Z 184 #[I J a] w fun e w'=>e=O (z7 false)/\w'=w:=fun a w=>by
  go_enter Tryz.func184,Tryz.ntmps184;go_wp2;go_ret;exact⟨T5 (by simp),rfl⟩
 have d:=Za i;clear i;by_cases f:a<b
 ·have g:(a:Int)<(b:Int):=by omega
  go_enter Tryz.func144,Tryz.ntmps144
  go_wp2_with (go_at_call 184;refine(d.o _ _).mono ?_;rintro e w' ⟨rfl,c⟩;replace c:=c.symm;subst c)
  go_ret;exact⟨ZH (by simp[Oz,f]),rfl⟩
 ·have g:¬(a:Int)<(b:Int):=by omega
  by_cases j:b<a
  ·have h:(b:Int)<(a:Int):=by omega
   go_enter Tryz.func144,Tryz.ntmps144
   go_wp2_with (go_at_call 184;refine(d.o _ _).mono ?_;rintro e w' ⟨rfl,c⟩;replace c:=c.symm;subst c)
   go_ret;exact⟨ZH (by simp[Oz,f,j]),rfl⟩
  ·have h:¬(b:Int)<(a:Int):=by omega
   go_enter Tryz.func144,Tryz.ntmps144
   go_wp2_with (go_at_call 184;refine(d.o _ _).mono ?_;rintro e w' ⟨rfl,c⟩;replace c:=c.symm;subst c)
   go_ret;exact⟨ZH (by simp[Oz,f,j]),rfl⟩
structure Kl (w:H)(Lb g c n:Nat)(rk:Nat->Nat):Prop where
 cl:w.cell? ⟨Lb,0,P⟩=Y (V (Y ⟨g,0,P⟩) n c)
 rw:∀i,i<n->w.cell? ⟨g,i*14+1,P⟩=Y (I J (rk i))
 gl:g<w.heap.size
theorem Km (w:H)(a g c n:Nat)(rk:Nat->Nat)(h:Kl w a g c n rk)(i j:Nat)(b:i<n)(d:j<n):
  D Z 143 #[I J i,I J j,M (Y ⟨a,0,P⟩)] w fun e w'=>e=O (I J (Oz (rk j) (rk i)))/\∃m,w'=w.drewN m:=by
 have p:=h.cl;have q:=h.rw i b;have r:=h.rw j d
 have f:(i:Int)<(n:Int):=by omega
 have k:(j:Int)<(n:Int):=by omega
 have l:U (∀W,D Z 144 #[I J (rk j),I J (rk i)] W fun e w'=>e=O (I J (Oz (rk j) (rk i)))/\w'=W):=fun W=>Kk _ _ W
 clear h;go_enter Tryz.func143,Tryz.ntmps143;go_wp2_with fail
 go_quiet ((go_at_call 144;exact Calls.quiet_of_same (l.o _)))
 go_wp2;go_ret;exact⟨rfl,_,rfl⟩
structure Ws (w:H)(g n:Nat)(f:Nat->Nat):Prop where
 cl:∀k,k<n->w.cell? ⟨g,k,P⟩=Y (I J (f k))
 fz:∀o,w.frozen? ⟨g,o,P⟩=false
theorem Ws.congr {w:H}{g n:Nat}{f f':Nat->Nat}(h:Ws w g n f)(e:∀k,k<n->f k=f' k):Ws w g n f':=⟨fun k a=>by rw[<-e k a];exact h.cl k a,h.fz⟩
def Sv (pre:List Nat)(i j k:Nat):Nat:=if k<j then pre.getD k 0 else if k=j then i else if k<=i then pre.getD (k-1) 0 else k
def ZE (rk:Nat->Nat)(i k:Nat):Nat:=if k<i then(Y0 rk i).getD k 0 else k
theorem G5 (rk:Nat->Nat)(i k:Nat):ZE rk i k=Sv (Y0 rk i) i i k:=by
 unfold ZE Sv
 split
 ·rfl
 ·split
  ·omega
  ·rw[if_neg (by omega)]
theorem Hb (rk:Nat->Nat)(i k:Nat):Sv (Y0 rk i) i (Wq rk i (Y0 rk i) i) k=ZE rk (i+1) k:=by
 have d:=VC rk i;have e:=RP rk i (Y0 rk i) i;unfold ZE Sv
 show _=if k<i+1 then(Ox rk i (Y0 rk i)).getD k 0 else k
 unfold Ox;rw[d];generalize Wq rk i (Y0 rk i) i=K at*;generalize Y0 rk i=pre at*;simp only[List.getD_eq_getElem?_getD];by_cases a:k<K
 ·rw[if_pos a,if_pos (by omega),N (by rw[E];omega),List.getElem?_take,if_pos a]
 ·rw[if_neg a]
  by_cases b:k=K
  ·rw[if_pos b,if_pos (by omega),aR (by rw[E];omega),E,show k-min K pre.length=0 from by omega]
   rfl
  ·rw[if_neg b]
   by_cases c:k<=i
   ·rw[if_pos c,if_pos (by omega),aR (by rw[E];omega),E,show k-min K pre.length=(k-1-K)+1 from by omega,List.getElem?_cons_succ,List.getElem?_drop,show K+(k-1-K)=k-1 from by omega]
   ·rw[if_neg c,if_neg (by omega)]
theorem Ws.swap {w:H}{g n:Nat}{pre:List Nat}{i j:Nat}(h:Ws w g n (Sv pre i j))(p:0<j)(a:j<=i):
  Ws ((w.setCell ⟨g,j,P⟩ (I J (pre.getD (j-1) 0))).setCell ⟨g,j-1,P⟩ (I J i)) g n (Sv pre i (j-1)):=by
 refine⟨fun k b=>?_,fun o=>by simp[h.fz o]⟩
 have c:(⟨g,j,P⟩:Addr)≠⟨g,j-1,P⟩:=by intro e;injection e with _ e;omega
 by_cases d:k=j-1
 ·subst d
  have:=h.cl (j-1) b;rw[cS _ _ _ (by rw[cO _ _ _ _ c];exact this)];unfold Sv;rw[if_neg (by omega),if_pos rfl]
 ·rw[cO _ _ _ _ (by intro e;injection e with _ e;omega)]
  by_cases f:k=j
  ·subst f
   rw[cS _ _ _ (h.cl k b)];unfold Sv;rw[if_neg (by omega),if_neg (by omega),if_pos a]
  ·rw[cO _ _ _ _ (by intro e;injection e with _ e;omega),h.cl k b]
   unfold Sv;by_cases l:k<j
   ·rw[if_pos l,if_pos (by omega)]
   ·have m:¬k<j-1:=by omega
    simp only[d,f,l,m,if_false]
theorem Kl.fr {w w':H}{a g c n:Nat}{rk:Nat->Nat}{S:Nat->Prop}(h:Kl w a g c n rk)(b:Fr S w w')(d:¬S a)(e:¬S g):Kl w' a g c n rk:=
 ⟨(b.cell (p:=⟨a,0,P⟩) (bL w _ h.cl) d).trans h.cl,fun i f=>(b.cell (p:=⟨g,i*14+1,P⟩) h.gl e).trans (h.rw i f),nL h.gl b.size⟩
theorem Hc {a b:Nat}:(Oz a b<0)↔a<b:=by
 unfold Oz
 split
 ·simp[*]
 ·split
  ·constructor<;>intro h<;>omega
  ·constructor<;>intro h<;>omega
theorem Kn (w:H)(r g c n a cap:Nat)(rk:Nat->Nat)(h:Kl w r g c n rk)(ho:Ws w a n (fun k=>k))(h1:r≠a)(h2:g≠a)(hn:n<=8)(K:1<=n):
  D Z 219 #[V (Y ⟨a,0,P⟩) n cap,I J 0,I J n,.func (.func 143) #[] #[M (Y ⟨r,0,P⟩)]] w fun e w'=>e=O (.tuple #[])/\Ws w' a n (ZE rk n)/\Fr (fun k=>k=a) w w':=by
 have HK:=Za h
 have HO:U (Ws w a n (ZE rk 1)):=ho.congr (fun k _=>by
  unfold ZE
  split
  ·have:k=0:=by omega
   subst this;rfl
  ·rfl)
 have v:U (r≠a/\g≠a):=⟨h1,h2⟩;clear h ho h1 h2;go_enter Tryz.func219,Tryz.ntmps219;go_wp2_with fail
 go_loopg [8] (n-1) (fun m iv wr=>∃i,1<=i/\i<=n/\m=n-i/\iv=I J (i:Nat)/\U (Ws wr a n (ZE rk i))/\U (Fr (fun k=>k=a) w wr))
 case atStart=>exact⟨1,G _,K,rfl,rfl,HO,Fr.refl _ _⟩
 case round=>
  obtain⟨i,h0,i0,rfl,rfl,x,HF⟩:=hrel;by_cases L:i<n
  ·have N:(i:Int)<(n:Int):=by omega
   have Q:U (Ws wr a n (Sv (Y0 rk i) i i)):=x.o.congr (fun k _=>G5 rk i k);go_wp2_with fail
   go_loopg [9] i (fun m jv wq=>jv=I J (m:Nat)/\m<=i/\U (Ws wq a n (Sv (Y0 rk i) i m))/\U (Wq rk i (Y0 rk i) m=Wq rk i (Y0 rk i) i)/\U (Fr (fun k=>k=a) w wq))
   case atStart=>exact⟨rfl,G _,Q,rfl,HF⟩
   case round=>
    obtain⟨rfl,R,b,S,q⟩:=hrel
    cases gk with
    |zero=>
     have d:U (Wq rk i (Y0 rk i) i=0):=by have e:=S.o;show _=_;rw[<-e];rfl
     go_wp2_with fail
     go_quiet (fail)
     have s:U (Ws (wr.drewN nq) a n (ZE rk (i+1))):=by
      have e:=b.o.congr (f':=ZE rk (i+1)) (fun k _=>by rw[<-Hb rk i k,d.o]);exact⟨fun k t=>e.cl k t,fun o=>e.fz o⟩
     have f:U (Fr (fun k=>k=a) w (wr.drewN nq)):=q.o.trans ⟨rfl,rfl,rfl,G _,fun _ _ _=>rfl⟩;generalize wr.drewN nq=u at*;go_wp2_with fail;go_roundg (n-(i+1))
     case measure=>omega
     case rel=>exact⟨i+1,by omega,by omega,rfl,by go_num,s,f⟩
    |succ j=>
     have z:U ((Y0 rk i).getD j 0<n):=by
      have hl:=VC rk i
      have hj:j<(Y0 rk i).length:=by omega
      have:=VX.1 (List.getElem_mem hj)
      show _<_
      rw[UF hj];omega
     obtain⟨y,C⟩:∃y,(Y0 rk i).getD j 0=y:=⟨_,rfl⟩;have T:=Za C
     have c1:wr.cell? ⟨a,j+1,P⟩=Y (I J i):=by
      have e:=b.o.cl (j+1) (by omega);unfold Sv at e;rw[if_neg (by omega),if_pos rfl]at e;exact e
     have W:wr.cell? ⟨a,j,P⟩=Y (I J y):=by
      have e:=b.o.cl j (by omega);unfold Sv at e;rw[if_pos (by omega),C]at e;exact e
     have l:U (Kl wr r g c n rk):=HK.o.fr q.o v.o.1 v.o.2
     have E:U (∀m,D Z 143 #[I J i,I J y,M (Y ⟨r,0,P⟩)] (wr.drewN m) fun e w'=>e=O (I J (Oz (rk y) (rk i)))/\∃k,w'=(wr.drewN m).drewN k):=fun m=>
      Km (wr.drewN m) r g c n rk ⟨l.o.cl,l.o.rw,l.o.gl⟩ i y L (by have:=z.o;rw[C]at this;exact this)
     have j0:y<8:=by have:=z.o;omega
     have e0:(0:Int)<(j:Int)+1:=by omega
     have e1:(j:Int)+1<(n:Int):=by omega
     have e2:(j:Int)<(n:Int):=by omega
     clear C;by_cases F:rk y<rk i
     ·have a0:Oz (rk y) (rk i)<0:=Hc.2 F
      go_wp2_with fail
      go_quiet ((go_at_call 143;exact Calls.quiet_of (E.o _)))
      have A:U (Ws (wr.drewN nq) a n (Sv (Y0 rk i) i (j+1))):=⟨fun k t=>b.o.cl k t,fun o=>b.o.fz o⟩;have f:U (Fr (fun k=>k=a) w (wr.drewN nq)):=q.o.trans ⟨rfl,rfl,rfl,G _,fun _ _ _=>rfl⟩;have d1:(wr.drewN nq).cell? ⟨a,j+1,P⟩=Y (I J i):=c1;have d0:(wr.drewN nq).cell? ⟨a,j,P⟩=Y (I J y):=W;have fz:∀o,(wr.drewN nq).frozen? ⟨a,o,P⟩=false:=A.o.fz;clear W c1 E l;generalize wr.drewN nq=u at*
      have B:U (Ws ((u.setCell ⟨a,j+1,P⟩ (I J y)).setCell ⟨a,j,P⟩ (I J i)) a n (Sv (Y0 rk i) i j)):=by
       have e:=A.o.swap (by omega) R;rw[Nat.add_sub_cancel,T.o]at e;exact e
      have b0:U (Wq rk i (Y0 rk i) j=Wq rk i (Y0 rk i) i):=by
       have e:=S.o;rw[Wq,T.o,if_pos F]at e;exact e
      go_wp2_with fail
      go_region
      have f0:U (Ws (((u.setCell ⟨a,j+1,P⟩ (I J y)).setCell ⟨a,j,P⟩ (I J i)).drew) a n (Sv (Y0 rk i) i j)):=⟨fun k t=>B.o.cl k t,fun o=>B.o.fz o⟩;have g0:U (Fr (fun k=>k=a) w (((u.setCell ⟨a,j+1,P⟩ (I J y)).setCell ⟨a,j,P⟩ (I J i)).drew)):=((f.o.setCell (p:=⟨a,j+1,P⟩) (X rfl) _).setCell (p:=⟨a,j,P⟩) (X rfl) _).drew;generalize((u.setCell ⟨a,j+1,P⟩ (I J y)).setCell ⟨a,j,P⟩ (I J i)).drew=wy at*;clear d0 d1 fz;go_wp2_with fail;go_roundg j
      case measure=>omega
      case rel=>exact⟨by go_num,by omega,f0,b0,g0⟩
     ·have a0:¬Oz (rk y) (rk i)<0:=fun h=>F (Hc.1 h)
      have d:U (Wq rk i (Y0 rk i) i=j+1):=by have e:=S.o;show _=_;rw[<-e,Wq,T.o,if_neg F]
      go_wp2_with fail
      go_quiet ((go_at_call 143;exact Calls.quiet_of (E.o _)))
      clear W c1 E l
      have s:U (Ws (wr.drewN nq) a n (ZE rk (i+1))):=by
       have e:=b.o.congr (f':=ZE rk (i+1)) (fun k _=>by rw[<-Hb rk i k,d.o]);exact⟨fun k t=>e.cl k t,fun o=>e.fz o⟩
      have f:U (Fr (fun k=>k=a) w (wr.drewN nq)):=q.o.trans ⟨rfl,rfl,rfl,G _,fun _ _ _=>rfl⟩;generalize wr.drewN nq=u at*;go_wp2_with fail;go_roundg (n-(i+1))
      case measure=>omega
      case rel=>exact⟨i+1,by omega,by omega,rfl,by go_num,s,f⟩
  ·have N:¬(i:Int)<(n:Int):=by omega
   have e:i=n:=by omega
   subst e;go_wp2
   go_end0
   exact⟨rfl,x.o,HF.o⟩
theorem OA (w:H)(m g c n i cap:Nat)(rk:Nat->Nat)(h:Kl w m g c n rk)(p:Ws w i n (fun k=>k))(q:m≠i)(r:g≠i)(v:n<=8)(s:1<=n):
  D Z 142 #[V (Y ⟨i,0,P⟩) n cap,.func (.func 143) #[] #[M (Y ⟨m,0,P⟩)]] w fun e w'=>e=O (.tuple #[])/\Ws w' i n (ZE rk n)/\Fr (fun k=>k=i) w w':=by
 have x:=Za (Kn w m g c n i cap rk h p q r v s)
 have y:U (D Z 183 #[V (Y ⟨i,0,P⟩) n cap,I J n,.func (.func 143) #[] #[M (Y ⟨m,0,P⟩)]] w fun e w'=>e=O (.tuple #[])/\Ws w' i n (ZE rk n)/\Fr (fun k=>k=i) w w'):=by
  clear h p q r
  show D _ _ _ _ _
  have z:¬(20:Int)<=(n:Int):=by omega
  have A:¬(20:Int)<(n:Int):=by omega
  go_enter Tryz.func183,Tryz.ntmps183;go_wp2_with fail
  go_loopg [7,8] 0 (fun _ a b wr=>a=I J 0/\b=I J 20/\U (wr=w))
  case atStart=>exact⟨rfl,rfl,rfl⟩
  case round=>
   obtain⟨rfl,rfl,t⟩:=hrel;have e:=t.o;subst e;go_wp2_with fail;refine x.o.mono ?_;rintro e u ⟨rfl,d,f⟩;have j:=Za d;have l:=Za f;clear d f;go_wp2_with fail
   go_loopg [6] 0 (fun _ a wr=>a=I J 20/\U (wr=u))
   case atStart=>exact⟨rfl,rfl⟩
   case round=>
    obtain⟨rfl,t⟩:=hrel;have e:=t.o;subst e;go_wp2_with fail
    go_end0
    exact⟨rfl,j.o,l.o⟩
 clear h p q r;go_enter Tryz.func142,Tryz.ntmps142;go_wp2_with fail;refine y.o.mono ?_;rintro e u ⟨rfl,d,f⟩;have j:=Za d;have l:=Za f;clear d f;go_wp2_with fail
 go_end0
 exact⟨rfl,j.o,l.o⟩
theorem Pp (w:H)(c g:Nat):
  D Z 142 #[V P 0 c,.func (.func 143) #[] #[M (Y ⟨g,0,P⟩)]] w fun e w'=>e=O (.tuple #[])/\w'=w:=by
 have i:U (D Z 219 #[V P 0 c,I J 0,I J 0,.func (.func 143) #[] #[M (Y ⟨g,0,P⟩)]] w fun e w'=>e=O (.tuple #[])/\w'=w):=by
  show D _ _ _ _ _
  go_enter Tryz.func219,Tryz.ntmps219;go_wp2_with fail
  go_loopg [8] 0 (fun _ a wr=>a=I J 1/\U (wr=w))
  case atStart=>exact⟨rfl,rfl⟩
  case round=>
   obtain⟨rfl,f⟩:=hrel;have e:=f.o;subst e;go_wp2_with fail
   go_end0
   exact⟨rfl,rfl⟩
 have j:U (D Z 183 #[V P 0 c,I J 0,.func (.func 143) #[] #[M (Y ⟨g,0,P⟩)]] w fun e w'=>e=O (.tuple #[])/\w'=w):=by
  show D _ _ _ _ _
  go_enter Tryz.func183,Tryz.ntmps183;go_wp2_with fail
  go_loopg [7,8] 0 (fun _ a b wr=>a=I J 0/\b=I J 20/\U (wr=w))
  case atStart=>exact⟨rfl,rfl,rfl⟩
  case round=>
   obtain⟨rfl,rfl,f⟩:=hrel;have e:=f.o;subst e;go_wp2_with fail;refine i.o.mono ?_;rintro e k ⟨rfl,d⟩;replace d:=d.symm;subst d;go_wp2_with fail
   go_loopg [6] 0 (fun _ a h=>a=I J 20/\U (h=wr))
   case atStart=>exact⟨rfl,rfl⟩
   case round=>
    obtain⟨rfl,f⟩:=hrel;have e:=f.o;subst e;go_wp2_with fail
    go_end0
    exact⟨rfl,rfl⟩
 go_enter Tryz.func142,Tryz.ntmps142;go_wp2_with fail;refine j.o.mono ?_;rintro e k ⟨rfl,d⟩;replace d:=d.symm;subst d;go_wp2_with fail
 go_end0
 exact⟨rfl,rfl⟩
theorem J6 (i:Nat):R (i+1)=R i++[i]:=List.range_succ
def Hd (w:H)(B:Nat)(a:Option Addr)(n:Nat)(f:Nat->Nat):Prop:=0<n->∃g,a=Y ⟨g,0,P⟩/\B<=g/\g<w.heap.size/\Ws w g n f
theorem J7 (w:H)(q:Option Addr)(n c:Nat)(rk:Nat->Nat)(hn:n<=8)(hr:∀i,i<n->∃g,q=Y ⟨g,0,P⟩/\g<w.heap.size/\w.cell? ⟨g,i*14+1,P⟩=Y (I J (rk i))):
  D Z 92 #[V q n c] w fun e w'=>(∃x r,e=O (V x n r)/\Hd w' w.heap.size x n (ZE rk n))/\F0 w w':=by
 have q0:∀(fn:Fn)(first cap:Array z6)(w:H),(Instr.makeFunc fn first cap).run Z w=.ok (.func fn first cap) w:=fun _ _ _ _=>rfl
 have C:=Za hr;obtain⟨ii,hi,K,N,Q⟩:=info_parts YZ;clear hr;go_enter Tryz.func92,Tryz.ntmps92;go_wp2_with fail;have S:U (F0 w (w.alloc (.cells #[V q n c] 87))):=(Fr.refl _ _).alloc _;have z:U ((w.alloc (.cells #[V q n c] 87)).heap[w.heap.size]?=Y (.cells #[V q n c] 87)):=aN w _;generalize w.alloc (.cells #[V q n c] 87)=W0 at*;obtain⟨L,E⟩:∃L,w.heap.size=L:=⟨_,rfl⟩;rw[E]at z;rw[E];have F:=Za E;clear E
 go_loopg [3,7] n (fun m o iv wr=>∃i,i<=n/\m=n-i/\iv=I J (i:Nat)/\U (i=0->o=V P 0 0)/\U (wr.ownsRow (L+1) 3 1 o i (Zg (R i)))/\U (F0 w wr)/\U (wr.heap[L]?=Y (.cells #[V q n c] 87)))
 case atStart=>exact⟨0,Nat.zero_le _,rfl,rfl,fun _=>rfl,oZ _ _ _ _,S,z⟩
 case round=>
  obtain⟨i,r0,rfl,rfl,HZ,y,A,s⟩:=hrel;obtain⟨x,r,ho⟩:=oL y.o;subst ho;have s0:L+1<=wr.heap.size:=(iA.1 s.o).1;by_cases t0:i<n
  ·have W:(i:Int)<(n:Int):=by omega
   go_wp2_with (at_builtin;refine wpList_append_lies _ rfl (.tmp 10) (.tmp 12) 25 rfl (L+1) 3 ii _ 1 8 Tryz.underlying25 hi K N Q rfl (by decide) (V x i r) i (Zg (R i)) rfl ?h1 ⟨wr.heap.size,0,P⟩ 1 1 [I J i] rfl rfl ?h2 ?h3 (by decide) ?h4 ?h5 ?h6 _ rfl ?h7)
   case h1=>exact y.o.alloc _
   case h2=>exact World.news_of_block (aN wr (.cells #[I J i] 3))
   case h3=>simp[Value.oneCell']
   case h4=>unfold maxLen;omega
   case h5=>omega
   case h6=>simp;omega
   case h7=>
    intro f j w8 l b a0 _
    have t:∀k,(z5 x i r).ownBlock=Y k->L+1<=k:=fun k d=>(y.o.lt k d).1
    have b0:=Za ((A.o.alloc _).grown b (fun k d=>T (by have:=t k d;have:=F.o;omega)));have c0:=Za ((((Fr.refl (fun k=>(z5 x i r).ownBlock=Y k) wr).alloc _).grown b (fun k d=>X d)).whole s.o (fun e=>by have:=t L e;omega))
    have d0:U (w8.ownsRow (L+1) 3 1 (V (Y ⟨f,0,P⟩) (i+1) j) (i+1) (Zg (R (i+1)))):=by rw[J6,Xl];exact l
    clear l b a0 t;go_wp2_with fail;go_roundg (n-(i+1))
    case measure=>omega
    case rel=>exact⟨i+1,by omega,rfl,by go_num,fun e=>by omega,d0,b0,c0⟩
  ·have W:¬(i:Int)<(n:Int):=by omega
   have e:i=n:=by omega
   subst e;rcases z0 i with u|u
   ·subst u
    have ez:=HZ.o rfl;injection ez with e0 _ f0;subst e0 f0;have HS:=Za (Pp wr 0 L);go_wp2_with fail;refine HS.o.mono ?_;rintro e w9 ⟨rfl,hw⟩;replace hw:=hw.symm;subst hw;go_wp2_with fail;go_ret;exact⟨⟨_,_,rfl,fun h=>by omega⟩,A.o⟩
   ·obtain⟨f,j,eo,v0,g0⟩:=y.o.form u
    injection eo with i0 _ j0;subst i0 j0;obtain⟨g,hg,_,_⟩:=C.o 0 u;subst hg
    have k0:U (Kl wr L g c i rk):=⟨bC s.o 0 _ rfl,fun k d=>by
     obtain⟨g',a,G,e3⟩:=C.o k d;injection a with a;injection a with a;subst a
     exact(A.o.cell (p:=⟨g,k*14+1,P⟩) G (by simp)).trans e3,by
     obtain⟨g',a,G,_⟩:=C.o 0 u;injection a with a;injection a with a;subst a
     exact nL G A.o.size⟩
    have l0:U (Ws wr f i (fun k=>k)):=by
     refine⟨fun k d=>?_,fun o=>?_⟩
     ·have:=y.o.cells (g:=f) rfl k (I J k) (by simp[Zg,d])
      rwa [YN,z1]at this
     ·rcases y.o.2 with⟨e,_⟩|⟨g',p0,w0,a,_,hh,_⟩
      ·cases e
      ·injection a with a
       injection a with a;injection a with a;subst a;exact bF hh o
    have HS:U (D Z 142 #[V (Y ⟨f,0,P⟩) i r,.func (.func 143) #[] #[M (Y ⟨L,0,P⟩)]] wr fun e w'=>e=O (.tuple #[])/\Ws w' f i (ZE rk i)/\Fr (fun k=>k=f) wr w'):=by
     have x0:g<L:=by
      obtain⟨g',a,G,_⟩:=C.o 0 u;injection a with a;injection a with a;subst a;have:=F.o;omega
     exact OA wr L g c i f r rk k0.o l0.o (by omega) (by omega) hn u
    go_wp2_with fail;refine HS.o.mono ?_;rintro e w9 ⟨rfl,B,v⟩;have m0:=Za B;have n0:=Za (A.o.monoNew v (fun k d=>T (by have:=F.o;omega)));have o0:=Za (nL g0 v.size);clear B v;go_wp2_with fail;go_ret;exact⟨⟨_,_,rfl,fun _=>⟨f,rfl,by have:=F.o;omega,o0.o,m0.o⟩⟩,n0.o⟩
