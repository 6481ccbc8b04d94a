import Derived.Test.YtccikgogjfbpeaaGreatDoorAv
import Derived.Test.YtccikgogjfbpeaaGreatDoorAu
import Derived.Deep.CutBlock
open Option renaming none->I,some->U
open Go.Value renaming pointer->J,int->Y,slice->O,string->G,oneCell'->z5,agg->z9,slice->y2
open Go.IntKind renaming i64->Z,u8->y4,i64->y6,u8->y9
open Go.RowKit renaming Hid->E
open Go.Proofs.Tryz renaming prog->H
open Go.Obj renaming cells->D
open Nat renaming le_refl->R,zero_add->y8
open Go renaming Calls->L,World->A,Value->z7
open Go.World renaming news_of_block->C,ownsRow->y3
open Or renaming inr->F,inl->z4
open List renaming getElem?_append_left->z6,all_eq_true->z8,length_map->y5,mem_range->y7
namespace Go.Proofs.YtccikgogjfbpeaaGreatDoor
set_option maxRecDepth 30000
set_option maxHeartbeats 8000000
open Go.RowKit
theorem Yg.set {w B i b s}(h:Yg w B s i b){X}(o v)(a:X≠B):Yg (w.setCell ⟨X,o,I⟩ v) B s i b:=
 h.fr (S:=fun k=>k=X) ((Fr.refl (fun k=>k=X) w).setCell (p:=⟨X,o,I⟩) (z4 rfl) v) (fun e=>a e.symm)
def ua (x:Zf):z7:=z9 #[G x.name,Y Z (x.base:Nat),Y Z (x.rate:Nat)]
theorem El (w B s i C)(h:Yg w B s i C):
  L H 120 #[J (U ⟨B,0,I⟩)] w (PU w B s C (Vu s.data.toList i) fun _ v x=>v=ua x):=by
 obtain⟨f,g⟩:∃f,(w.alloc (D #[G ⟨#[]⟩,Y Z 0,Y Z 0] 148)).alloc (D #[G ⟨#[]⟩,Y Z 0,Y Z 0] 148)=f:=⟨_,rfl⟩;obtain⟨P,X⟩:∃P,w.heap.size=P:=⟨_,rfl⟩
 have m0:B<P:=by rw[<-X];exact(iA.1 h.bx).1
 have l:E (Fr (fun k=>k=B) w f):=by show Fr _ _ _;rw[<-g];exact(Zt.alloc _).alloc _
 have a0:E (f.heap[P]?=U (D #[G ⟨#[]⟩,Y Z 0,Y Z 0] 148)):=by
  show _=_
  rw[<-g,<-X];exact((Fr.refl (fun _=>False) _).alloc _).whole (aN w _)
 have b0:E (f.heap[P+1]?=U (D #[G ⟨#[]⟩,Y Z 0,Y Z 0] 148)):=by
  show _=_
  rw[<-g,<-X];have e:=aN (w.alloc (D #[G ⟨#[]⟩,Y Z 0,Y Z 0] 148)) (D #[G ⟨#[]⟩,Y Z 0,Y Z 0] 148)
  simpa using e
 have d0:E (Yg f B s i C):=by show Yg _ _ _ _ _;rw[<-g];exact h.fr (S:=fun _=>False) ((Zt.alloc _).alloc _)
 have n:=Za X;obtain⟨N,hN⟩:∃N,Vu s.data.toList i=N:=⟨_,rfl⟩;rw[hN];have HN:=Za hN;go_enter Tryz.func120,Tryz.ntmps120;go_upto_region 2 with fail;go_wp2_with fail;refine(KB f B s i C d0.o).mono ?_;intro e w1 b
 cases h1:UD s.data.toList i with
 |none=>
  rw[h1]at b;obtain⟨q,F⟩:=b
  have r:N=I:=by rw[<-HN.o];unfold Vu;rw[h1]
  subst r;unfold Tb at q;subst q;exact⟨rfl,rfl,l.o.monoNew (F) (fun k a=>by first|exact .inl a|exact a.imp id (fun h=>by rw[n.o];omega))⟩
 |some nj=>
  obtain⟨t,j⟩:=nj;rw[h1]at b;obtain⟨⟨v,rfl,rfl⟩,e0,u⟩:=b;have H1:=Za h1;have n0:=Za u;have c:=u.whole b0.o (by show¬P+1=B;omega);have c0:=Zc c 0;have z0:=bF c 0;have d:=heap_setCell_same w1 (P+1) 0 _ _ (G t) c;have f0:=Za (e0.set 0 (G t) (show P+1≠B by omega));have g0:=Za d;have K:E (Fr (fun k=>k=B\/P+1=k) f (w1.setCell ⟨P+1,0,I⟩ (G t))):=(u.mono (fun k a=>.inl a)).setCell (p:=⟨P+1,0,I⟩) (.inl (.inr rfl)) _;go_upto_region 3 with fail;generalize w1.setCell ⟨P+1,0,I⟩ (G t)=W1 at*;go_wp2_with fail;refine(Z1 W1 B s j C 4 4 0 1000000 f0.o (by decide) rfl).mono ?_;intro e w2 b
  cases h2:Y3 s.data.toList 4 0 1000000 j with
  |none=>
   rw[h2]at b;obtain⟨q,F⟩:=b
   have r:N=I:=by rw[<-HN.o];unfold Vu;rw[H1.o];simp only[h2]
   subst r;unfold Tb at q;subst q;exact⟨rfl,rfl,l.o.monoNew (K.o.trans (F.mono (fun k a=>.inl a))) (fun k a=>by first|exact .inl a|exact a.imp id (fun h=>by rw[n.o];omega))⟩
  |some xk=>
   obtain⟨x,k⟩:=xk;rw[h2]at b;obtain⟨⟨v,rfl,rfl⟩,h0,M⟩:=b;have H2:=Za h2;have c:=M.whole g0.o (by show¬P+1=B;omega);have c1:=Zc c 1;have z1:=bF c 1;have d:=heap_setCell_same w2 (P+1) 1 _ _ (Y Z (x:Nat)) c;have i0:=Za (h0.set 1 (Y Z (x:Nat)) (show P+1≠B by omega));have O:=Za d;have Q:E (Fr (fun k=>k=B\/P+1=k) f (w2.setCell ⟨P+1,1,I⟩ (Y Z (x:Nat)))):=(K.o.trans (M.mono (fun k a=>.inl a))).setCell (p:=⟨P+1,1,I⟩) (.inl (.inr rfl)) _;go_upto_region 4 with fail;generalize w2.setCell ⟨P+1,1,I⟩ (Y Z (x:Nat))=W2 at*;go_wp2_with fail;refine(Z1 W2 B s k C 4 4 0 1000 i0.o (by decide) rfl).mono ?_;intro e w3 b
   cases h3:Y3 s.data.toList 4 0 1000 k with
   |none=>
    rw[h3]at b;obtain⟨q,F⟩:=b
    have r:N=I:=by rw[<-HN.o];unfold Vu;rw[H1.o];simp only[H2.o,h3]
    subst r;unfold Tb at q;subst q;exact⟨rfl,rfl,l.o.monoNew (Q.o.trans (F.mono (fun k a=>.inl a))) (fun k a=>by first|exact .inl a|exact a.imp id (fun h=>by rw[n.o];omega))⟩
   |some ym=>
    obtain⟨y,m⟩:=ym;rw[h3]at b;obtain⟨⟨v,rfl,rfl⟩,j0,V⟩:=b
    have r:N=U (⟨t,x,y⟩,m):=by rw[<-HN.o];unfold Vu;rw[H1.o];simp only[H2.o,h3]
    subst r;have c:=V.whole O.o (by show¬P+1=B;omega);have c2:=Zc c 2;have z2:=bF c 2;have d:=heap_setCell_same w3 (P+1) 2 _ _ (Y Z (y:Nat)) c;have k0:=Za (j0.set 2 (Y Z (y:Nat)) (show P+1≠B by omega));have z:=Za d;have W:E (Fr (fun k=>k=B\/P+1=k) f (w3.setCell ⟨P+1,2,I⟩ (Y Z (y:Nat)))):=(Q.o.trans (V.mono (fun k a=>.inl a))).setCell (p:=⟨P+1,2,I⟩) (.inl (.inr rfl)) _;go_upto_region 5 with fail;generalize w3.setCell ⟨P+1,2,I⟩ (Y Z (y:Nat))=W3 at*;have A:=W.o.whole a0.o (by show¬(P=B\/P+1=P);omega);have q0:=Zc z.o 0;have q1:=Zc z.o 1;have q2:=Zc z.o 2;have o0:=Zc A 0;have o1:=Zc A 1;have o2:=Zc A 2;have p0:=bF A 0;have r0:=bF A 1;have t0:=bF A 2;have l0:=Za A;go_wp2_with fail;have e3:=JH (v0:=G t) (v1:=Y Z (x:Nat)) (v2:=Y Z (y:Nat)) l0.o;have s0:=Zc e3 0;have s1:=Zc e3 1;have s2:=Zc e3 2;refine bodyPost_ret (v:=z9 #[G t,Y Z (x:Nat),Y Z (y:Nat)]) (by simp[results,Tryz.results120,go_sem,s0,s1,s2]) rfl ⟨⟨_,rfl,rfl⟩,((k0.o.set 0 _ (show P≠B by omega)).set 1 _ (show P≠B by omega)).set 2 _ (show P≠B by omega),?_⟩;refine l.o.monoNew (T:=fun k=>k=B\/P<=k) ?_ (fun k a=>a.imp id (fun h=>by rw[n.o];exact h));exact(((W.o.mono (T:=fun k=>k=B\/P<=k) (fun k a=>a.imp id (fun h=>by omega))).setCell (p:=⟨P,0,I⟩) (.inl (.inr (R _))) _).setCell (p:=⟨P,1,I⟩) (.inl (.inr (R _))) _).setCell (p:=⟨P,2,I⟩) (.inl (.inr (R _))) _
def YG {α:Type}(one:Rd α)(a:List α)(m j:Nat):Option (List α×Nat):=(WO one m j).map fun p=>(a++p.1,p.2)
theorem UN {α}{one:Rd α}{a m j}(h:one j=I):YG one a (m+1) j=I:=by unfold YG;simp only[WO,h,Option.map_none]
theorem UO {α one a m j k}{x:α}(h:one j=U (x,k)):YG one a (m+1) j=YG one (a++[x]) m k:=by
 unfold YG;simp only[WO,h]
 cases WO one m k with
 |none=>rfl
 |some p=>simp
theorem TV {α}{one:Rd α}{a j}:YG one a 0 j=U (a,j):=by simp[YG,WO]
theorem TW {α b lo hi}{one:Rd α}{i n j}(h:Y3 b 1 lo hi i=U (n,j)):YM b lo hi one i=YG one [] n j:=by
 unfold YM YG;rw[h]
 show WO one n j=_
 cases WO one n j<;>simp
theorem TX {α b lo hi}{one:Rd α}{i}(h:Y3 b 1 lo hi i=I):YM b lo hi one i=I:=by
 unfold YM;rw[h]
theorem Pg:(H.info? 9).map (fun i=>(i.zero,i.size,i.bytes))=U (U (G ByteArray.empty),1,16):=by kernel_rfl
theorem JQ:(H.info? 148).map (fun i=>(i.zero,i.size,i.bytes))=U (U (z9 #[G ByteArray.empty,Y Z 0,Y Z 0]),3,32):=by kernel_rfl
theorem JR:(H.info? 3).map (fun i=>(i.zero,i.size,i.bytes))=U (U (Y Z 0),1,8):=by kernel_rfl
def WQ (l:List ByteArray):List z7:=l.map Value.string
theorem Hw (l x):WQ (l++[x])=WQ l++[G x]:=by simp[WQ]
theorem Hx (l x):Yh (l++[x])=Yh l++[G x.name,Y Z (x.base:Nat),Y Z (x.rate:Nat)]:=by simp[Yh,T7]
theorem JS (l x):Zg (l++[x])=Zg l++[Y Z (x:Nat)]:=by simp[Zg]
theorem Hy (w B s i g)(lo hi:Int)(one)(Q:A->Prop)(hQ:∀W W',Q W->Fr (fun k=>k=B) W W'->Q W')(h:Yg w B s i g)(h0:Q w)(r0:hi<=255)(HO:E (∀W i,Yg W B s i g->Q W->L H 122 #[J (U ⟨B,0,I⟩)] W (PU W B s g (one i) fun _ v x=>v=G x))):
  L H 121 #[J (U ⟨B,0,I⟩),Y Z lo,Y Z hi,.func (.func 122) #[J (U ⟨B,0,I⟩)] #[]] w (PU w B s g (YM s.data.toList lo hi one i) fun w' v a=>w'.ownsRow w.heap.size 9 1 v a.length (WQ a)):=by
 obtain⟨ij,X,a0,b0,c0⟩:=info_parts Pg;have HH:=Za (Z1 w B s i g 1 1 lo hi h (by decide) rfl);have s0:B<w.heap.size:=(iA.1 h.bx).1;have HQ:=Za hQ;have d0:=Za h0;obtain⟨N,hN⟩:∃N,YM s.data.toList lo hi one i=N:=⟨_,rfl⟩;rw[hN];have HN:=Za hN;go_enter Tryz.func121,Tryz.ntmps121;go_wp2_with fail;refine HH.o.mono ?_;intro e w1 c
 cases h1:Y3 s.data.toList 1 lo hi i with
 |none=>
  rw[h1]at c;obtain⟨r,hf⟩:=c
  have t:N=I:=by rw[<-HN.o];exact TX h1
  subst t;unfold Tb at r;subst r;exact⟨rfl,rfl,hf⟩
 |some nj=>
  obtain⟨n,j⟩:=nj;rw[h1]at c;obtain⟨⟨v,rfl,rfl⟩,e0,f0⟩:=c;have g0:=Za e0;have i0:=Za f0
  have hn:n<=255:=by have:=(Yp h1).2;omega
  have j0:E (YG one [] n j=N):=by show _=_;rw[<-HN.o];exact(TW h1).symm
  go_wp2_with fail
  go_loopg [9,14] n (fun m ov kv wr=>∃(k:Nat)(a:List ByteArray)(l:Nat),k<=n/\m=n-k/\kv=Y Z (k:Nat)/\a.length=k/\E (Yg wr B s l g)/\E (wr.ownsRow w.heap.size 9 1 ov k (WQ a))/\E (YG one a (n-k) l=N)/\E (Fr (fun k=>k=B) w wr))
  case atStart=>exact⟨0,[],j,by omega,rfl,rfl,rfl,g0,oZ _ _ _ _,j0,i0⟩
  obtain⟨k,a,l,u,rfl,rfl,y,HR,p,z,d⟩:=hrel;obtain⟨oa,oc,T⟩:=oL p.o;subst T;by_cases t0:k<n
  ·have k0:(k:Int)<(n:Int):=by omega
   have K:E (YG one a (n-(k+1)+1) l=N):=by show _=_;rw[show n-(k+1)+1=n-k from by omega];exact z.o
   go_wp2_with fail;refine(HO.o wr l HR.o (HQ.o _ _ d0.o d.o)).mono ?_;intro e w2 c
   cases h2:one l with
   |none=>
    rw[h2]at c;obtain⟨r,hf⟩:=c
    have t:N=I:=by rw[<-K.o];exact UN h2
    subst t;unfold Tb at r;subst r;exact⟨rfl,rfl,d.o.trans hf⟩
   |some xj=>
    obtain⟨x,j3⟩:=xj;rw[h2]at c;obtain⟨⟨v,rfl,rfl⟩,l0,M⟩:=c;have m0:=Za l0;have P:=Za (d.o.trans M);have q:=Za (oF p.o M (fun k u=>by omega))
    have n0:E (YG one (a++[x]) (n-(k+1)) j3=N):=by show _=_;rw[<-K.o];exact(UO h2).symm
    go_wp2_with (at_builtin;refine wpList_append_lies _ rfl (.tmp 16) (.tmp 19) 28 rfl w.heap.size 9 ij _ 1 16 Tryz.underlying28 X a0 b0 c0 rfl (by decide) (O oa k oc) k (WQ a) rfl ?h1 ⟨w2.heap.size,0,I⟩ 1 1 [G x] rfl rfl ?h2 ?h3 (by decide) ?h4 ?h5 ?h6 _ rfl ?_)
    case h1=>exact q.o.alloc _
    try case h2=>exact C (aN w2 (D #[G x] 9))
    case h3=>simp[z5]
    case h4=>unfold maxLen;omega
    case h5=>omega
    case h6=>have:=P.o.size;simp;omega
    intro g2 R V S b v0 _;have o0:E (Fr (fun k=>k=B) w V):=(P.o.alloc _).grown b (fun k u=>F (q.o.lt k u).1)
    have p0:E (Yg V B s j3 g):=by
     have f:Fr (fun k'=>(y2 oa k oc).ownBlock=U k') w2 V:=(Zt.alloc _).grown b (fun k u=>.inl u);exact m0.o.fr f (fun hb=>by have:=(q.o.lt B hb).1;omega)
    have q0:E (V.ownsRow w.heap.size 9 1 (O (U ⟨g2,0,I⟩) (k+1) R) (k+1) (WQ (a++[x]))):=by
     show y3 _ _ _ _ _ _ _
     rw[Hw];exact S
    go_wp2_with fail;go_roundg (n-(k+1))
    case measure=>omega
    exact⟨k+1,a++[x],j3,by omega,rfl,by go_num,by simp[y],p0,q0,n0,o0⟩
  have k0:¬(k:Int)<(n:Int):=by omega
  have t:N=U (a,l):=by
   have e:=z.o;rw[show n-k=0 from by omega,TV]at e;exact e.symm
  subst t;go_wp2_with fail;go_ret;have T:=p.o;rw[<-y]at T ⊢;exact⟨⟨_,rfl,T⟩,HR.o,d.o⟩
theorem LM (w B s i g)(lo hi:Int)(one)(Q:A->Prop)(hQ:∀W W',Q W->Fr (fun k=>k=B) W W'->Q W')(h:Yg w B s i g)(h0:Q w)(r0:hi<=255)(HO:E (∀W i,Yg W B s i g->Q W->L H 120 #[J (U ⟨B,0,I⟩)] W (PU W B s g (one i) fun _ v x=>v=ua x))):
  L H 119 #[J (U ⟨B,0,I⟩),Y Z lo,Y Z hi,.func (.func 120) #[J (U ⟨B,0,I⟩)] #[]] w (PU w B s g (YM s.data.toList lo hi one i) fun w' v a=>w'.ownsRow w.heap.size 148 3 v a.length (Yh a)):=by
 obtain⟨ij,X,a0,b0,c0⟩:=info_parts JQ;have HH:=Za (Z1 w B s i g 1 1 lo hi h (by decide) rfl);have s0:B<w.heap.size:=(iA.1 h.bx).1;have HQ:=Za hQ;have d0:=Za h0;obtain⟨N,hN⟩:∃N,YM s.data.toList lo hi one i=N:=⟨_,rfl⟩;rw[hN];have HN:=Za hN;go_enter Tryz.func119,Tryz.ntmps119;go_wp2_with fail;refine HH.o.mono ?_;intro e w1 c
 cases h1:Y3 s.data.toList 1 lo hi i with
 |none=>
  rw[h1]at c;obtain⟨r,hf⟩:=c
  have t:N=I:=by rw[<-HN.o];exact TX h1
  subst t;unfold Tb at r;subst r;exact⟨rfl,rfl,hf⟩
 |some nj=>
  obtain⟨n,j⟩:=nj;rw[h1]at c;obtain⟨⟨v,rfl,rfl⟩,e0,f0⟩:=c;have g0:=Za e0;have i0:=Za f0
  have hn:n<=255:=by have:=(Yp h1).2;omega
  have j0:E (YG one [] n j=N):=by show _=_;rw[<-HN.o];exact(TW h1).symm
  go_wp2_with fail
  go_loopg [9,14] n (fun m ov kv wr=>∃(k:Nat)(a:List Zf)(l:Nat),k<=n/\m=n-k/\kv=Y Z (k:Nat)/\a.length=k/\E (Yg wr B s l g)/\E (wr.ownsRow w.heap.size 148 3 ov k (Yh a))/\E (YG one a (n-k) l=N)/\E (Fr (fun k=>k=B) w wr))
  case atStart=>exact⟨0,[],j,by omega,rfl,rfl,rfl,g0,oZ _ _ _ _,j0,i0⟩
  obtain⟨k,a,l,u,rfl,rfl,y,HR,p,z,d⟩:=hrel;obtain⟨oa,oc,T⟩:=oL p.o;subst T;by_cases t0:k<n
  ·have k0:(k:Int)<(n:Int):=by omega
   have K:E (YG one a (n-(k+1)+1) l=N):=by show _=_;rw[show n-(k+1)+1=n-k from by omega];exact z.o
   go_wp2_with fail;refine(HO.o wr l HR.o (HQ.o _ _ d0.o d.o)).mono ?_;intro e w2 c
   cases h2:one l with
   |none=>
    rw[h2]at c;obtain⟨r,hf⟩:=c
    have t:N=I:=by rw[<-K.o];exact UN h2
    subst t;unfold Tb at r;subst r;exact⟨rfl,rfl,d.o.trans hf⟩
   |some xj=>
    obtain⟨x,j3⟩:=xj;rw[h2]at c;obtain⟨⟨v,rfl,rfl⟩,l0,M⟩:=c;have m0:=Za l0;have P:=Za (d.o.trans M);have q:=Za (oF p.o M (fun k u=>by omega))
    have n0:E (YG one (a++[x]) (n-(k+1)) j3=N):=by show _=_;rw[<-K.o];exact(UO h2).symm
    unfold ua
    go_wp2_with (at_builtin;refine wpList_append_lies _ rfl (.tmp 16) (.tmp 19) 86 rfl w.heap.size 148 ij _ 3 32 Tryz.underlying86 X a0 b0 c0 rfl (by decide) (O oa k oc) k (Yh a) rfl ?h1 ⟨w2.heap.size,0,I⟩ 1 1 [G x.name,Y Z (x.base:Nat),Y Z (x.rate:Nat)] rfl rfl ?h2 ?h3 (by decide) ?h4 ?h5 ?h6 _ rfl ?_)
    case h1=>exact q.o.alloc _
    try case h2=>exact C (aN w2 (D #[G x.name,Y Z (x.base:Nat),Y Z (x.rate:Nat)] 148))
    case h3=>simp[z5]
    case h4=>unfold maxLen;omega
    case h5=>omega
    case h6=>have:=P.o.size;simp;omega
    intro g2 R V S b v0 _;have o0:E (Fr (fun k=>k=B) w V):=(P.o.alloc _).grown b (fun k u=>F (q.o.lt k u).1)
    have p0:E (Yg V B s j3 g):=by
     have f:Fr (fun k'=>(y2 oa k oc).ownBlock=U k') w2 V:=(Zt.alloc _).grown b (fun k u=>.inl u);exact m0.o.fr f (fun hb=>by have:=(q.o.lt B hb).1;omega)
    have q0:E (V.ownsRow w.heap.size 148 3 (O (U ⟨g2,0,I⟩) (k+1) R) (k+1) (Yh (a++[x]))):=by
     show y3 _ _ _ _ _ _ _
     rw[Hx];exact S
    go_wp2_with fail;go_roundg (n-(k+1))
    case measure=>omega
    exact⟨k+1,a++[x],j3,by omega,rfl,by go_num,by simp[y],p0,q0,n0,o0⟩
  have k0:¬(k:Int)<(n:Int):=by omega
  have t:N=U (a,l):=by
   have e:=z.o;rw[show n-k=0 from by omega,TV]at e;exact e.symm
  subst t;go_wp2_with fail;go_ret;have T:=p.o;rw[<-y]at T ⊢;exact⟨⟨_,rfl,T⟩,HR.o,d.o⟩
theorem Hz (w B s i g)(lo hi:Int)(b1 b2 one)(Q:A->Prop)(hQ:∀W W',Q W->Fr (fun k=>k=B) W W'->Q W')(h:Yg w B s i g)(h0:Q w)(q0:hi<=255)(HO:E (∀W i,Yg W B s i g->Q W->L H 247 #[J (U ⟨b1,0,I⟩),J (U ⟨b2,0,I⟩)] W (PU W B s g (one i) fun _ v x=>v=Y Z (x:Nat)))):
  L H 246 #[J (U ⟨B,0,I⟩),Y Z lo,Y Z hi,.func (.func 247) #[] #[J (U ⟨b1,0,I⟩),J (U ⟨b2,0,I⟩)]] w (PU w B s g (YM s.data.toList lo hi one i) fun w' v a=>w'.ownsRow w.heap.size 3 1 v a.length (Zg a)):=by
 obtain⟨ij,V,X,a0,b0⟩:=info_parts JR;have HH:=Za (Z1 w B s i g 1 1 lo hi h (by decide) rfl);have r0:B<w.heap.size:=(iA.1 h.bx).1;have HQ:=Za hQ;have c0:=Za h0;obtain⟨N,hN⟩:∃N,YM s.data.toList lo hi one i=N:=⟨_,rfl⟩;rw[hN];have HN:=Za hN;go_enter Tryz.func246,Tryz.ntmps246;go_wp2_with fail;refine HH.o.mono ?_;intro e w1 c
 cases h1:Y3 s.data.toList 1 lo hi i with
 |none=>
  rw[h1]at c;obtain⟨r,hf⟩:=c
  have t:N=I:=by rw[<-HN.o];exact TX h1
  subst t;unfold Tb at r;subst r;exact⟨rfl,rfl,hf⟩
 |some nj=>
  obtain⟨n,j⟩:=nj;rw[h1]at c;obtain⟨⟨v,rfl,rfl⟩,d0,e0⟩:=c;have f0:=Za d0;have g0:=Za e0
  have hn:n<=255:=by have:=(Yp h1).2;omega
  have i0:E (YG one [] n j=N):=by show _=_;rw[<-HN.o];exact(TW h1).symm
  go_wp2_with fail
  go_loopg [9,14] n (fun m ov kv wr=>∃(k:Nat)(a:List Nat)(l:Nat),k<=n/\m=n-k/\kv=Y Z (k:Nat)/\a.length=k/\E (Yg wr B s l g)/\E (wr.ownsRow w.heap.size 3 1 ov k (Zg a))/\E (YG one a (n-k) l=N)/\E (Fr (fun k=>k=B) w wr))
  case atStart=>exact⟨0,[],j,by omega,rfl,rfl,rfl,f0,oZ _ _ _ _,i0,g0⟩
  obtain⟨k,a,l,u,rfl,rfl,y,HR,p,z,d⟩:=hrel;obtain⟨oa,oc,S⟩:=oL p.o;subst S;by_cases s0:k<n
  ·have j0:(k:Int)<(n:Int):=by omega
   have G:E (YG one a (n-(k+1)+1) l=N):=by show _=_;rw[show n-(k+1)+1=n-k from by omega];exact z.o
   go_wp2_with fail;refine(HO.o wr l HR.o (HQ.o _ _ c0.o d.o)).mono ?_;intro e w2 c
   cases h2:one l with
   |none=>
    rw[h2]at c;obtain⟨r,hf⟩:=c
    have t:N=I:=by rw[<-G.o];exact UN h2
    subst t;unfold Tb at r;subst r;exact⟨rfl,rfl,d.o.trans hf⟩
   |some xj=>
    obtain⟨x,j3⟩:=xj;rw[h2]at c;obtain⟨⟨v,rfl,rfl⟩,k0,K⟩:=c;have l0:=Za k0;have M:=Za (d.o.trans K);have q:=Za (oF p.o K (fun k u=>by omega))
    have m0:E (YG one (a++[x]) (n-(k+1)) j3=N):=by show _=_;rw[<-G.o];exact(UO h2).symm
    go_wp2_with (at_builtin;refine wpList_append_lies _ rfl (.tmp 16) (.tmp 19) 25 rfl w.heap.size 3 ij _ 1 8 Tryz.underlying25 V X a0 b0 rfl (by decide) (O oa k oc) k (Zg a) rfl ?h1 ⟨w2.heap.size,0,I⟩ 1 1 [Y Z (x:Nat)] rfl rfl ?h2 ?h3 (by decide) ?h4 ?h5 ?h6 _ rfl ?_)
    case h1=>exact q.o.alloc _
    try case h2=>exact C (aN w2 (D #[Y Z (x:Nat)] 3))
    case h3=>simp[z5]
    case h4=>unfold maxLen;omega
    case h5=>omega
    case h6=>have:=M.o.size;simp;omega
    intro g2 P T R b t0 _;have n0:E (Fr (fun k=>k=B) w T):=(M.o.alloc _).grown b (fun k u=>F (q.o.lt k u).1)
    have o0:E (Yg T B s j3 g):=by
     have f:Fr (fun k'=>(y2 oa k oc).ownBlock=U k') w2 T:=(Zt.alloc _).grown b (fun k u=>.inl u);exact l0.o.fr f (fun hb=>by have:=(q.o.lt B hb).1;omega)
    have p0:E (T.ownsRow w.heap.size 3 1 (O (U ⟨g2,0,I⟩) (k+1) P) (k+1) (Zg (a++[x]))):=by
     show y3 _ _ _ _ _ _ _
     rw[JS];exact R
    go_wp2_with fail;go_roundg (n-(k+1))
    case measure=>omega
    exact⟨k+1,a++[x],j3,by omega,rfl,by go_num,by simp[y],o0,p0,m0,n0⟩
  have j0:¬(k:Int)<(n:Int):=by omega
  have t:N=U (a,l):=by
   have e:=z.o;rw[show n-k=0 from by omega,TV]at e;exact e.symm
  subst t;go_wp2_with fail;go_ret;have S:=p.o;rw[<-y]at S ⊢;exact⟨⟨_,rfl,S⟩,HR.o,d.o⟩
theorem Bg (w B s i a)(h:Yg w B s i a):
  L H 215 #[J (U ⟨B,0,I⟩)] w (PU w B s a (Y3 s.data.toList 1 1 255 i) fun _ v x=>v=Y Z (x:Nat)):=by
 have c:=Za (Z1 w B s i a 1 1 1 255 h (by decide) rfl);obtain⟨N,g⟩:∃N,Y3 s.data.toList 1 1 255 i=N:=⟨_,rfl⟩;rw[g]at c ⊢;go_enter Tryz.func215,Tryz.ntmps215;go_wp2_with fail;refine(c.o).mono ?_;intro e q d
 cases N with
 |none=>
  obtain⟨f,b⟩:=d;unfold Tb at f;subst f;exact⟨rfl,rfl,b⟩
 |some k=>
  obtain⟨x,j⟩:=k;obtain⟨⟨v,rfl,l⟩,m,b⟩:=d
  try subst l
  have n:=Za m;have p:=Za b;go_wp2_with fail;go_ret;exact⟨⟨_,rfl,rfl⟩,n.o,p.o⟩
theorem Bh (w B s i b k a l)(h:Yg w B s i b)(u:w.cell? ⟨b,1,I⟩=U (O k a l))(y:a<=8):
  L H 218 #[J (U ⟨B,0,I⟩)] w (PU w B s b (Y3 s.data.toList 1 0 ((a:Int)-1) i) fun _ v x=>v=Y Z (x:Nat)):=by
 have d:=Za (Z1 w B s i b 1 1 0 ((a:Int)-1) h (by decide) rfl);have z:=Zc h.bx 2;have A:y6.wrap ((a:Int)-1)=(a:Int)-1:=IntWalk.i64_in _ (by constructor<;>omega);obtain⟨N,m⟩:∃N,Y3 s.data.toList 1 0 ((a:Int)-1) i=N:=⟨_,rfl⟩;rw[m]at d ⊢;go_enter Tryz.func218,Tryz.ntmps218;go_wp2_with fail;refine(d.o).mono ?_;intro e C f
 cases N with
 |none=>
  obtain⟨g,c⟩:=f;unfold Tb at g;subst g;exact⟨rfl,rfl,c⟩
 |some n=>
  obtain⟨x,j⟩:=n;obtain⟨⟨v,rfl,p⟩,q,c⟩:=f
  try subst p
  have r:=Za q;have t:=Za c;go_wp2_with fail;go_ret;exact⟨⟨_,rfl,rfl⟩,r.o,t.o⟩
theorem Em (w B s i a c d)(hi:Int)(h:Yg w B s i a)(t:w.cell? ⟨c,0,I⟩=U (J (U ⟨B,0,I⟩)))(u:w.cell? ⟨d,0,I⟩=U (Y Z hi)):
  L H 247 #[J (U ⟨c,0,I⟩),J (U ⟨d,0,I⟩)] w (PU w B s a (Y3 s.data.toList 2 0 hi i) fun _ v x=>v=Y Z (x:Nat)):=by
 have f:=Za (Z1 w B s i a 2 2 0 hi h (by decide) rfl);obtain⟨N,l⟩:∃N,Y3 s.data.toList 2 0 hi i=N:=⟨_,rfl⟩;rw[l]at f ⊢;go_enter Tryz.func247,Tryz.ntmps247;go_wp2_with fail;refine(f.o).mono ?_;intro e y g
 cases N with
 |none=>
  obtain⟨k,b⟩:=g;unfold Tb at k;subst k;exact⟨rfl,rfl,b⟩
 |some m=>
  obtain⟨x,j⟩:=m;obtain⟨⟨v,rfl,n⟩,p,b⟩:=g
  try subst n
  have q:=Za p;have r:=Za b;go_wp2_with fail;go_ret;exact⟨⟨_,rfl,rfl⟩,q.o,r.o⟩
theorem PX (w B s i c)(hi:Int)(h:Yg w B s i c):
  L H 216 #[J (U ⟨B,0,I⟩),Y Z hi] w (PU w B s c (Ow s.data.toList hi i) fun w' v f=>w'.ownsRow w.heap.size 3 1 v f.length (Zg f)):=by
 have F:∀(fn:Fn)(first cap:Array z7)(w:A),(Instr.makeFunc fn first cap).run H w=.ok (.func fn first cap) w:=fun _ _ _ _=>rfl
 obtain⟨W,l⟩:∃W,(w.alloc (D #[J (U ⟨B,0,I⟩)] 156)).alloc (D #[Y Z hi] 3)=W:=⟨_,rfl⟩;obtain⟨P,g⟩:∃P,w.heap.size=P:=⟨_,rfl⟩
 have G:B<P:=by rw[<-g];exact(iA.1 h.bx).1
 have a:E (Fr (fun k=>k=B) w W):=by show Fr _ _ _;rw[<-l];exact(Zt.alloc _).alloc _
 have m:E (Yg W B s i c):=by show Yg _ _ _ _ _;rw[<-l];exact h.fr (S:=fun _=>False) ((Zt.alloc _).alloc _)
 have c1:W.cell? ⟨P,0,I⟩=U (J (U ⟨B,0,I⟩)):=by
  rw[<-l,<-g];exact bC (((Fr.refl (fun _=>False) _).alloc _).whole (aN w _)) 0 _ rfl
 have K:W.cell? ⟨P+1,0,I⟩=U (Y Z hi):=by
  rw[<-l,<-g];have e:=aN (w.alloc (D #[J (U ⟨B,0,I⟩)] 156)) (D #[Y Z hi] 3);exact Zc (by simpa using e) 0
 have n:E (W.cell? ⟨P,0,I⟩=U (J (U ⟨B,0,I⟩))/\W.cell? ⟨P+1,0,I⟩=U (Y Z hi)):=⟨c1,K⟩
 have q:P<=W.heap.size:=by rw[<-g];exact a.o.size
 have u:E (L H 246 #[J (U ⟨B,0,I⟩),Y Z 1,Y Z 4,.func (.func 247) #[] #[J (U ⟨P,0,I⟩),J (U ⟨P+1,0,I⟩)]] W (PU W B s c (Ow s.data.toList hi i) fun w' v f=>w'.ownsRow W.heap.size 3 1 v f.length (Zg f))):=
  Hz W B s i c 1 4 P (P+1) (Y3 s.data.toList 2 0 hi) (fun W=>W.cell? ⟨P,0,I⟩=U (J (U ⟨B,0,I⟩))/\W.cell? ⟨P+1,0,I⟩=U (Y Z hi))
   (fun W V b d=>⟨(d.cell (p:=⟨P,0,I⟩) (bL W _ b.1) (by show¬P=B;omega)).trans b.1,(d.cell (p:=⟨P+1,0,I⟩) (bL W _ b.2) (by show¬P+1=B;omega)).trans b.2⟩)
   m.o n.o (by omega) (fun W i r b=>Em W B s i c P (P+1) hi r b.1 b.2)
 obtain⟨N,M⟩:∃N,Ow s.data.toList hi i=N:=⟨_,rfl⟩;rw[M]at u ⊢;go_enter Tryz.func216,Tryz.ntmps216;go_upto_region 1 with fail;have t:=Za g;go_wp2_with fail;refine(u.o).mono ?_;intro e X y
 cases N with
 |none=>
  obtain⟨z,d⟩:=y;unfold Tb at z;subst z;exact⟨rfl,rfl,(a.o.trans d)⟩
 |some xj=>
  obtain⟨x,j⟩:=xj;obtain⟨⟨v,rfl,C⟩,r,d⟩:=y
  try subst C
  have Q:=Za r;have R:=Za d;have T:=Za C;go_wp2_with fail;go_ret;exact⟨⟨_,rfl,oS T.o (by rw[t.o];exact q)⟩,Q.o,a.o.trans R.o⟩
def MO (b:List UInt8)(hi:Int):Rd (List Nat):=fun i=>match Y3 b 4 0 hi i with
 |none=>I
 |some (y,k)=>match Y3 b 4 y hi k with
  |none=>I
  |some (z,l)=>U ([y,z],l)
theorem xz (w:A)(y z):(w.alloc (D #[Y Z (y:Nat),Y Z (z:Nat)] 3)).ownsRow w.heap.size 3 1 (O (U ⟨w.heap.size,0,I⟩) 2 2) 2 (Zg [y,z]):=
 ⟨rfl,.inr ⟨w.heap.size,2,#[Y Z (y:Nat),Y Z (z:Nat)],rfl,R _,heap_alloc_new w _,R _,by unfold maxLen;simp,by simp,by simp[Zg]⟩⟩
theorem Bi (w B s i g)(hi:Int)(h:Yg w B s i g):
  L H 217 #[J (U ⟨B,0,I⟩),Y Z hi] w (PU w B s g (MO s.data.toList hi i) fun w' v C=>w'.ownsRow w.heap.size 3 1 v C.length (Zg C)):=by
 have F:=Za (Z1 w B s i g 4 4 0 hi h (by decide) rfl);obtain⟨N,D⟩:∃N,MO s.data.toList hi i=N:=⟨_,rfl⟩;rw[D];have n:=Za D;go_enter Tryz.func217,Tryz.ntmps217;go_wp2_with fail;refine F.o.mono ?_;intro e G a
 cases j:Y3 s.data.toList 4 0 hi i with
 |none=>
  rw[j]at a;obtain⟨b,p⟩:=a
  have c:N=I:=by rw[<-n.o];unfold MO;rw[j]
  subst c;unfold Tb at b;subst b;exact⟨rfl,rfl,p⟩
 |some K=>
  obtain⟨y,k⟩:=K;rw[j]at a;obtain⟨⟨v,rfl,rfl⟩,q,r⟩:=a;have d:=Za r;have E:=Za j;have t:=Za (Z1 G B s k g 4 4 y hi q (by decide) rfl);go_wp2_with fail;refine t.o.mono ?_;intro e w2 a
  cases m:Y3 s.data.toList 4 y hi k with
  |none=>
   rw[m]at a;obtain⟨b,p⟩:=a
   have c:N=I:=by rw[<-n.o];unfold MO;rw[E.o];simp only[m]
   subst c;unfold Tb at b;subst b;exact⟨rfl,rfl,d.o.trans p⟩
  |some M=>
   obtain⟨z,l⟩:=M;rw[m]at a;obtain⟨⟨v,rfl,rfl⟩,u,x⟩:=a
   have c:N=U ([y,z],l):=by rw[<-n.o];unfold MO;rw[E.o];simp only[m]
   subst c;have A:=Za u;have f:=Za (d.o.trans x);go_wp2_with fail;go_ret;exact⟨⟨_,rfl,oS (xz w2 y z) f.o.size⟩,A.o.fr (S:=fun _=>False) (Zt.alloc _),f.o.alloc _⟩
structure zF (w wx:A)(B X:Nat)(s:ByteArray)(j TT:Nat)(c0 c1 c2 c3:z7):Prop where
 rd:Yg wx B s j TT
 bx:wx.heap[X]?=U (D #[c0,c1,c2,c3] 208)
 bp:wx.heap[w.heap.size]?=U (D #[Y y4 0,O I 0 0,Y Z 0,Y Z 0] 208)
 fr:Fr (fun k=>k=B) w wx
 ne:w.heap.size<X
 lt:B<w.heap.size
theorem zF.call {w d a B X j e b s f c1 g i}(h:zF w d B X s j b f c1 g i)(l:Yg a B s e b)(c:Fr (fun k=>k=B) d a):zF w a B X s e b f c1 g i:=by
 have m:=h.ne;have n:=h.lt;exact⟨l,c.whole h.bx (by show¬X=B;omega),c.whole h.bp (by show¬w.heap.size=B;omega),h.fr.trans c,m,n⟩
theorem zF.set {w a B X j c s d c1 g i l m n q}(h:zF w a B X s j c d c1 g i)(o v)(e:(#[d,c1,g,i]:Array z7).setIfInBounds o v=#[l,m,n,q]):zF w (a.setCell ⟨X,o,I⟩ v) B X s j c l m n q:=by
 have r:=h.ne;have t:=h.lt;have f:=(Fr.refl (fun k=>k=X) a).setCell (p:=⟨X,o,I⟩) (z4 rfl) v;have b:=heap_setCell_same a X o _ _ v h.bx;rw[e]at b;exact⟨h.rd.fr f (by show¬B=X;omega),b,f.whole h.bp (by show¬w.heap.size=X;omega),h.fr.setCell (p:=⟨X,o,I⟩) (F (by show w.heap.size<=X;omega)) v,r,t⟩
theorem SY {w:A}{base X v n i j}(h:w.ownsRow base 3 1 v n i)(l:w.heap[X]?=U (D j 208))(o u):(w.setCell ⟨X,o,I⟩ u).ownsRow base 3 1 v n i:=by
 refine⟨h.1,?_⟩;rcases h.2 with m|⟨g,cap,c,rfl,d,a,b⟩
 ·exact .inl m
 refine .inr ⟨g,cap,c,rfl,d,?_,b⟩
 have f:g≠X:=fun e=>by subst e;rw[l]at a;injection a with e;injection e with _ q;exact absurd q (by decide)
 exact((Fr.refl (fun k=>k=X) w).setCell (p:=⟨X,o,I⟩) (z4 rfl) u).whole a f
def KF (b:List UInt8):Rd Zl:=fun i=>match Y3 b 1 1 255 i with
 |none=>I
 |some (x,j)=>match MO b 1000000000 j with
  |none=>I
  |some (l,k)=>U (⟨1,l,0,x⟩,k)
theorem xA (b i):Hi b i=KF b i:=by
 unfold Hi KF MO
 cases Y3 b 1 1 255 i with
 |none=>rfl
 |some p=>
  obtain⟨x,j⟩:=p
  dsimp only
  cases Y3 b 4 0 1000000000 j with
  |none=>rfl
  |some q=>
   obtain⟨y,k⟩:=q
   dsimp only
   cases Y3 b 4 y 1000000000 k<;>rfl
def Bj (a b c:Nat)(d:Option Addr)(e f:Nat):z7:=z9 #[Y y4 (a:Nat),O d e f,Y Z (b:Nat),Y Z (c:Nat)]
theorem uq {w:A}{b t u0 u1 u2 u3 v0 v1 v2 v3}(h:w.heap[b]?=U (D #[u0,u1,u2,u3] t)):
    ((((w.setCell ⟨b,0,I⟩ v0).setCell ⟨b,1,I⟩ v1).setCell ⟨b,2,I⟩ v2).setCell ⟨b,3,I⟩ v3).heap[b]?=U (D #[v0,v1,v2,v3] t):=by
  have e:=heap_setCell_same _ b 3 _ _ v3 (heap_setCell_same _ b 2 _ _ v2 (heap_setCell_same _ b 1 _ _ v1 (heap_setCell_same w b 0 _ _ v0 h)))
  simpa using e
theorem zF.fin {w b B X j c s g c1 i l}(h:zF w b B X s j c g c1 i l){v n d}(m:b.ownsRow w.heap.size 3 1 v n d)(u0 u1 u2 u3):
    Yg ((((b.setCell ⟨w.heap.size,0,I⟩ u0).setCell ⟨w.heap.size,1,I⟩ u1).setCell ⟨w.heap.size,2,I⟩ u2).setCell ⟨w.heap.size,3,I⟩ u3) B s j c/\((((b.setCell ⟨w.heap.size,0,I⟩ u0).setCell ⟨w.heap.size,1,I⟩ u1).setCell ⟨w.heap.size,2,I⟩ u2).setCell ⟨w.heap.size,3,I⟩ u3).ownsRow w.heap.size 3 1 v n d/\Fr (fun k=>k=B) w ((((b.setCell ⟨w.heap.size,0,I⟩ u0).setCell ⟨w.heap.size,1,I⟩ u1).setCell ⟨w.heap.size,2,I⟩ u2).setCell ⟨w.heap.size,3,I⟩ u3):=by
  have a:w.heap.size≠B:=by have:=h.lt;omega
  have e:=heap_setCell_same b w.heap.size 0 _ _ u0 h.bp;have f:=heap_setCell_same _ w.heap.size 1 _ _ u1 e;have o:=heap_setCell_same _ w.heap.size 2 _ _ u2 f
  exact⟨(((h.rd.set 0 u0 a).set 1 u1 a).set 2 u2 a).set 3 u3 a,SY (SY (SY (SY m h.bp 0 u0) e 1 u1) f 2 u2) o 3 u3,
    (((h.fr.setCell (p:=⟨w.heap.size,0,I⟩) (F (R _)) u0).setCell (p:=⟨w.heap.size,1,I⟩) (F (R _)) u1).setCell (p:=⟨w.heap.size,2,I⟩) (F (R _)) u2).setCell (p:=⟨w.heap.size,3,I⟩) (F (R _)) u3⟩
theorem zG {w f B X m i c d e s a b l}(h:zF w f B X s m i (Y y4 (c:Nat)) (O a l.length b) (Y Z (d:Nat)) (Y Z (e:Nat)))(j:f.ownsRow w.heap.size 3 1 (O a l.length b) l.length (Zg l)){t}(k:t[2]?=U (J (U ⟨w.heap.size,0,I⟩))):
    bodyPost H Tryz.f179 (PU w B s i (U ((⟨c,l,d,e⟩:Zl),m)) fun w' v (x:Zl)=>∃(a:Option Addr)(b:Nat),v=Bj x.sort x.rule x.skip a x.nums.length b/\w'.ownsRow w.heap.size 3 1 (O a x.nums.length b) x.nums.length (Zg x.nums)) .ret ⟨t,[]⟩
      ((((f.setCell ⟨w.heap.size,0,I⟩ (Y y4 (c:Nat))).setCell ⟨w.heap.size,1,I⟩ (O a l.length b)).setCell ⟨w.heap.size,2,I⟩ (Y Z (d:Nat))).setCell ⟨w.heap.size,3,I⟩ (Y Z (e:Nat))):=by
  obtain⟨g1,g2,g3⟩:=h.fin j (Y y4 (c:Nat)) (O a l.length b) (Y Z (d:Nat)) (Y Z (e:Nat));have g:=uq (v0:=Y y4 (c:Nat)) (v1:=O a l.length b) (v2:=Y Z (d:Nat)) (v3:=Y Z (e:Nat)) h.bp;have n:=Zc g 0;have o:=Zc g 1;have p:=Zc g 2;have q:=Zc g 3;generalize(((f.setCell ⟨w.heap.size,0,I⟩ (Y y4 (c:Nat))).setCell ⟨w.heap.size,1,I⟩ (O a l.length b)).setCell ⟨w.heap.size,2,I⟩ (Y Z (d:Nat))).setCell ⟨w.heap.size,3,I⟩ (Y Z (e:Nat))=W at*;exact bodyPost_ret (v:=Bj c d e a l.length b) (by simp[results,Tryz.results179,go_sem,k,n,o,p,q,Bj]) rfl ⟨⟨_,rfl,a,b,rfl,g2⟩,g1,g3⟩
theorem PU.cases {α w B a s}{r:Option (α×Nat)}{V e w'}(h:PU w B s a r V e w'):(r=I/\e=.panicked [{v:=.iface 223 (z9 #[]),recovered:=false}]/\Fr (fun k=>k=B) w w')\/∃x j v,r=U (x,j)/\e=.returned v/\V w' v x/\Yg w' B s j a/\Fr (fun k=>k=B) w w':=by
 match r,h with
 |none,h=>exact .inl ⟨rfl,h⟩
 |some (x,j),⟨⟨v,h1,h2⟩,h3,h4⟩=>exact .inr ⟨x,j,v,rfl,h1,h2,h3,h4⟩
theorem Bl (w B s i c ra q rc na z nc)(h:Yg w B s i c)(P:c≠B)(h0:w.cell? ⟨c,0,I⟩=U (O ra q rc))(A:w.cell? ⟨c,1,I⟩=U (O na z nc))(n0:q<=6)(b0:z<=8):
  L H 179 #[J (U ⟨B,0,I⟩)] w (PU w B s c (V2 s.data.toList q z i) fun w' v x=>∃(f:Option Addr)(g:Nat),v=Bj x.sort x.rule x.skip f x.nums.length g/\w'.ownsRow w.heap.size 3 1 (O f x.nums.length g) x.nums.length (Zg x.nums)):=by
 obtain⟨K,C⟩:∃K,w.alloc (D #[Y y4 0,O I 0 0,Y Z 0,Y Z 0] 208)=K:=⟨_,rfl⟩;have c0:B<w.heap.size:=(iA.1 h.bx).1
 have F:E (F0 w K):=by show Fr _ _ _;rw[<-C];exact Zt.alloc _
 have d0:E (K.heap[w.heap.size]?=U (D #[Y y4 0,O I 0 0,Y Z 0,Y Z 0] 208)):=by show _=_;rw[<-C];exact aN w _
 have e0:=Za (h.fr F.o)
 have HT:E (∀W,Fr (fun k=>k=B) w W->W.cell? ⟨c,0,I⟩=U (O ra q rc)/\W.cell? ⟨c,1,I⟩=U (O na z nc)):=fun W u=>⟨(u.cell (p:=⟨c,0,I⟩) (bL w _ h0) P).trans h0,(u.cell (p:=⟨c,1,I⟩) (bL w _ A) P).trans A⟩
 obtain⟨N,hN⟩:∃N,V2 s.data.toList q z i=N:=⟨_,rfl⟩;rw[hN];have Q:=Za hN
 have o0:w.heap.size<K.heap.size:=by rw[<-C];simp
 go_enter Tryz.func179,Tryz.ntmps179;go_upto_region 1 with fail;go_wp2_with fail;refine(Z1 K B s i c 1 1 0 6 e0.o (by decide) rfl).mono ?_;intro e R T;rcases T.cases with⟨A,rfl,u⟩|⟨x,j,_,A,rfl,rfl,f0,G⟩
 ·have V:N=I:=by rw[<-Q.o];unfold V2;rw[A]
  subst V;exact⟨rfl,rfl,(F.o.mono).trans u⟩
 have r0:x<=6:=by have:=(Yp A).2;omega
 have s0:y9.wrap (x:Int)=(x:Int):=IntWalk.u8_in _ (by constructor<;>omega)
 have M:E ((if x=0 then U5 s.data.toList 0 9999 j else if x=1 then KF s.data.toList j else if x=2 then U5 s.data.toList 2 999 j else if x=6 then U (⟨6,[],0,0⟩,j)else JK s.data.toList x q z j)=N):=by
  show _=_
  rw[<-Q.o];unfold V2;rw[A,<-xA]
 have d:E (zF w (R.alloc (D #[Y y4 (x:Nat),O I 0 0,Y Z 0,Y Z 0] 208)) B R.heap.size s j c (Y y4 (x:Nat)) (O I 0 0) (Y Z 0) (Y Z 0)):=
  ⟨f0.fr (S:=fun _=>False) (Zt.alloc _),aN R _,((Fr.refl (fun _=>False) _).alloc _).whole (G.whole d0.o (by show¬w.heap.size=B;omega)),((F.o.mono).trans G).alloc _,by have:=G.size;omega,c0⟩
 go_upto_region 2 with fail;generalize R.alloc _=W1 at*;generalize R.heap.size=X at*;have z0:=Zc d.o.bx 0
 go_upto_block 0 with fail
 go_cut [] (fun wx=>E (∃(so ru sk m:Nat)(l:List Nat)(f:Option Addr)(g:Nat),N=U (⟨so,l,ru,sk⟩,m)/\zF w wx B X s m c (Y y4 (so:Nat)) (O f l.length g) (Y Z (ru:Nat)) (Y Z (sk:Nat))/\wx.ownsRow w.heap.size 3 1 (O f l.length g) l.length (Zg l)))
 case rest=>
  obtain⟨so,ru,sk,m,l,f,g,rfl,hS,hV⟩:=hcut.o;have a:=Za hS;have r:=Za hV;have q0:=Zc a.o.bx 0;have q1:=Zc a.o.bx 1;have q2:=Zc a.o.bx 2;have q3:=Zc a.o.bx 3;have p0:=Zc a.o.bp 0;have p1:=Zc a.o.bp 1;have p2:=Zc a.o.bp 2;have p3:=Zc a.o.bp 3;have g0:=bF a.o.bp;go_wp2_with fail;exact zG a.o r.o rfl
 have h7:x=0\/x=1\/x=2\/x=3\/x=4\/x=5\/x=6:=by omega
 rcases h7 with rfl|rfl|rfl|rfl|rfl|rfl|rfl
 all_goals go_wp2_with fail
 iterate 3
  refine(Bg _ B s j c d.o.rd).mono ?_
  rotate_left
 iterate 3
  refine(Bh _ B s j c na z nc d.o.rd (HT.o _ d.o.fr).2 b0).mono ?_
  rotate_left
 ·go_meet
  exact⟨6,0,0,j,[],I,0,M.o.symm,d.o,oZ _ _ _ _⟩
 all_goals
  intro e w2 T;rcases T.cases with⟨h2,rfl,u⟩|⟨y,k,_,h2,rfl,rfl,i0,j0⟩
  ·have V:N=I:=by rw[<-M.o];simp[U5,KF,JK,h2]
   subst V;exact⟨rfl,rfl,d.o.fr.trans u⟩
  have H2:=Za h2;have n:=Za (d.o.call i0 j0);have z2:=Zc n.o.bx 2;have z3:=Zc n.o.bx 3;have ff:=bF n.o.bx;have a0:=Za (n.o.set 2 (Y Z (y:Nat)) rfl);have k0:=Za (n.o.set 3 (Y Z (y:Nat)) rfl)
 iterate 3
  focus
   go_wp2_with fail;generalize w2.setCell ⟨X,3,I⟩ (Y Z (y:Nat))=W2 at*;have b:=k0
   first|refine(Bi W2 B s k c 1000000000 b.o.rd).mono ?_|refine(PX W2 B s k c 9999 b.o.rd).mono ?_|refine(PX W2 B s k c 999 b.o.rd).mono ?_
  rotate_left
 ·go_wp2_with fail
  go_meet;exact⟨3,y,0,k,[],I,0,by rw[<-M.o];simp[JK,H2.o],a0.o,World.ownsRow_nil _ _ _ _⟩
 iterate 2
  focus
   go_upto_region 17 with fail;generalize w2.setCell ⟨X,2,I⟩ (Y Z (y:Nat))=W2 at*;have b:=a0;have b2:=Zc b.o.rd.bx 2;have t0:=(HT.o _ b.o.fr).1;have v0:y6.wrap ((q:Int)-1)=(q:Int)-1:=IntWalk.i64_in _ (by constructor<;>omega);go_wp2_with fail;refine(PX W2 B s k c ((q:Int)-1) b.o.rd).mono ?_
  rotate_left
 all_goals
  intro e w3 T;rcases T.cases with⟨h3,rfl,u⟩|⟨l,m,v,h3,rfl,hv,l0,m0⟩
  ·have V:N=I:=by rw[<-M.o];simp[U5,KF,JK,H2.o,h3]
   subst V;exact⟨rfl,rfl,b.o.fr.trans u⟩
  have H3:=Za h3;have t:=Za (b.o.call l0 m0);have HV:=Za (oS hv b.o.fr.size);obtain⟨f,g,e1⟩:=oL hv;subst e1;have z1:=Zc t.o.bx 1;have f1:=bF t.o.bx 1;have a:=Za (t.o.set 1 (O f l.length g) rfl);have r:=Za (SY HV.o t.o.bx 1 (O f l.length g));go_wp2_with fail;go_meet
  first|exact⟨_,0,y,m,l,f,g,by rw[<-M.o];simp[U5,KF,H2.o,H3.o],a.o,r.o⟩|exact⟨_,y,0,m,l,f,g,by rw[<-M.o];simp[JK,H2.o,H3.o],a.o,r.o⟩
theorem JT (w B s i b)(lo hi:Int)(ra r rc na t nc)(h:Yg w B s i b)(u:b≠B)(c0:w.cell? ⟨b,0,I⟩=U (O ra r rc))(c1:w.cell? ⟨b,1,I⟩=U (O na t nc))(e0:r<=6)(f0:t<=8)(C0:hi<=255):
  L H 178 #[J (U ⟨B,0,I⟩),Y Z lo,Y Z hi,.func (.func 179) #[J (U ⟨B,0,I⟩)] #[]] w (PU w B s b (YM s.data.toList lo hi (V2 s.data.toList r t) i) fun w' v c=>Z2 w.heap.size w' w.heap.size v c):=by
 obtain⟨ij,g0,h0,i0,j0⟩:=info_parts TA;have HH:=Za (Z1 w B s i b 1 1 lo hi h (by decide) rfl);have D0:B<w.heap.size:=(iA.1 h.bx).1
 have HO:E (∀W i,Fr (fun k=>k=B) w W->Yg W B s i b->L H 179 #[J (U ⟨B,0,I⟩)] W (PU W B s b (V2 s.data.toList r t i) fun w' v x=>∃(G:Option Addr)(K:Nat),v=Bj x.sort x.rule x.skip G x.nums.length K/\w'.ownsRow W.heap.size 3 1 (O G x.nums.length K) x.nums.length (Zg x.nums))):=fun W i M hR=>Bl W B s i b ra r rc na t nc hR u ((M.cell (p:=⟨b,0,I⟩) (bL w _ c0) u).trans c0) ((M.cell (p:=⟨b,1,I⟩) (bL w _ c1) u).trans c1) e0 f0
 obtain⟨N,hN⟩:∃N,YM s.data.toList lo hi (V2 s.data.toList r t) i=N:=⟨_,rfl⟩;rw[hN];have HN:=Za hN;generalize V2 s.data.toList r t=one at*;go_enter Tryz.func178,Tryz.ntmps178;go_wp2_with fail;refine HH.o.mono ?_;intro e w1 l
 cases h1:Y3 s.data.toList 1 lo hi i with
 |none=>
  rw[h1]at l;obtain⟨Q,M⟩:=l
  have R:N=I:=by rw[<-HN.o];exact TX h1
  subst R;unfold Tb at Q;subst Q;exact⟨rfl,rfl,M⟩
 |some nj=>
  obtain⟨n,j⟩:=nj;rw[h1]at l;obtain⟨⟨v,rfl,rfl⟩,k0,l0⟩:=l;have m0:=Za k0;have n0:=Za l0
  have hn:n<=255:=by have:=(Yp h1).2;omega
  have o0:E (YG one [] n j=N):=by show _=_;rw[<-HN.o];exact(TW h1).symm
  go_wp2_with fail
  go_loopg [9,14] n (fun m ov kv wr=>∃(k:Nat)(c:List Zl)(y:Nat),k<=n/\m=n-k/\kv=Y Z (k:Nat)/\c.length=k/\E (Yg wr B s y b)/\E (Z2 w.heap.size wr w.heap.size ov c)/\E (YG one c (n-k) y=N)/\E (Fr (fun k=>k=B) w wr))
  case atStart=>exact⟨0,[],j,by omega,rfl,rfl,rfl,m0,⟨[],oZ _ _ _ _,rfl⟩,o0,n0⟩
  obtain⟨k,c,y,P,rfl,rfl,d,HR,S,T,g⟩:=hrel;obtain⟨ys,z,p0⟩:=S.o;rw[d]at z;obtain⟨oa,oc,ho⟩:=oL z;subst ho;have q0:=Za z;have r0:=Za p0;by_cases E0:k<n
  ·have s0:(k:Int)<(n:Int):=by omega
   have V:E (YG one c (n-(k+1)+1) y=N):=by show _=_;rw[show n-(k+1)+1=n-k from by omega];exact T.o
   go_wp2_with fail;refine(HO.o wr y g.o HR.o).mono ?_;intro e w2 l
   cases h2:one y with
   |none=>
    rw[h2]at l;obtain⟨Q,M⟩:=l
    have R:N=I:=by rw[<-V.o];exact UN h2
    subst R;unfold Tb at Q;subst Q;exact⟨rfl,rfl,g.o.trans M⟩
   |some xj=>
    obtain⟨x,j3⟩:=xj;rw[h2]at l;obtain⟨⟨v,rfl,G,K,rfl,t0⟩,v0,A⟩:=l;have w0:=Za (oS t0 g.o.size);have x0:=Za v0;have X:=Za (g.o.trans A);have q:=Za (oF q0.o A (fun k P=>by omega));have a0:=Za (r0.o.keep (fun v n ys hv=>oF hv A (fun k P=>by omega)))
    have y0:E (YG one (c++[x]) (n-(k+1)) j3=N):=by show _=_;rw[<-V.o];exact(UO h2).symm
    unfold Bj
    go_wp2_with (at_builtin;refine wpList_append_lies _ rfl (.tmp 16) (.tmp 19) 129 rfl w.heap.size 208 ij _ 4 48 Tryz.underlying129 g0 h0 i0 j0 rfl (by decide) (O oa k oc) k ys rfl ?h1 ⟨w2.heap.size,0,I⟩ 1 1 [Y y4 (x.sort:Nat),O G x.nums.length K,Y Z (x.rule:Nat),Y Z (x.skip:Nat)] rfl rfl ?h2 ?h3 (by decide) ?h4 ?h5 ?h6 _ rfl ?_)
    case h1=>exact q.o.alloc _
    try case h2=>exact C (aN w2 (D #[Y y4 (x.sort:Nat),O G x.nums.length K,Y Z (x.rule:Nat),Y Z (x.skip:Nat)] 208))
    case h3=>simp[z5]
    case h4=>unfold maxLen;omega
    case h5=>omega
    case h6=>have:=X.o.size;simp;omega
    intro g2 b0 w8 d0 a F0 _;have z0:E (Fr (fun k=>k=B) w w8):=(X.o.alloc _).grown a (fun k P=>F (q.o.lt k P).1)
    have A0:E (Yg w8 B s j3 b):=by
     have f:Fr (fun k'=>(y2 oa k oc).ownBlock=U k') w2 w8:=(Zt.alloc _).grown a (fun k P=>.inl P);exact x0.o.fr f (fun hb=>by have:=(q.o.lt B hb).1;omega)
    have B0:E (Z2 w.heap.size w8 w.heap.size (O (U ⟨g2,0,I⟩) (k+1) b0) (c++[x])):=by
     have ha:∀v n zs,w2.ownsRow w.heap.size 3 1 v n zs->(w2.alloc (D #[Y y4 (x.sort:Nat),O G x.nums.length K,Y Z (x.rule:Nat),Y Z (x.skip:Nat)] 208)).ownsRow w.heap.size 3 1 v n zs:=fun v n zs hv=>hv.alloc _
     have e:=Z2.grown (l':=[x]) (by rw[d];exact q.o.alloc _) (a0.o.keep ha) ((Xl.one ⟨_,rfl,w0.o⟩).keep ha) a (by rw[d];exact d0);rw[d]at e;exact e
    go_wp2_with fail;go_roundg (n-(k+1))
    case measure=>omega
    exact⟨k+1,c++[x],j3,by omega,rfl,by go_num,by simp[d],A0,B0,y0,z0⟩
  have s0:¬(k:Int)<(n:Int):=by omega
  have R:N=U (c,y):=by
   have e:=T.o;rw[show n-k=0 from by omega,TV]at e;exact e.symm
  subst R;go_wp2_with fail;go_ret;exact⟨⟨_,rfl,S.o⟩,HR.o,g.o⟩
theorem En {l}(h:∀k s,l[k]?=U s->k+s.skip<l.length):Ox l=true:=by
 unfold Ox;rw[z8];intro k b
 cases a:l[k]? with
 |none=>rfl
 |some s=>simpa using h k s a
theorem Ga {l k s}(a:l[k]?=U s)(h:¬k+s.skip<l.length):Ox l=false:=by
 cases e:Ox l with
 |false=>rfl
 |true=>
  have:=z8.1 e k (y7.2 (iG.1 a).1);rw[a]at this;exact absurd (by simpa using this) h
theorem JU (w B s i F ra u rc na y nc)(h:Yg w B s i F)(a0:F≠B)(c0:w.cell? ⟨F,0,I⟩=U (O ra u rc))(c1:w.cell? ⟨F,1,I⟩=U (O na y nc))(b0:u<=6)(f0:y<=8):
  L H 126 #[J (U ⟨B,0,I⟩)] w (PU w B s F (U6 s.data.toList u y i) fun w' v l=>Z2 w.heap.size w' w.heap.size v l):=by
 have p0:∀(fn:Fn)(first cap:Array z7)(w:A),(Instr.makeFunc fn first cap).run H w=.ok (.func fn first cap) w:=fun _ _ _ _=>rfl
 have HM:=Za (JT w B s i F 1 255 ra u rc na y nc h a0 c0 c1 b0 f0 (by omega));obtain⟨N,T⟩:∃N,U6 s.data.toList u y i=N:=⟨_,rfl⟩;rw[T];unfold U6 at T;obtain⟨r,hr⟩:∃r,YM s.data.toList 1 255 (V2 s.data.toList u y) i=r:=⟨_,rfl⟩
 have HL:E (∀l j,r=U (l,j)->l.length<=255/\∀q,q∈l->q.skip<=255):=fun l j e=>by
  rw[e]at hr;obtain⟨_,e2,e3⟩:=X8 (P:=F9 u y) (fun i x j hx=>MG hx) hr;exact⟨by omega,fun q V=>(e3 q V).sk⟩
 rw[hr]at HM T;have HN:=Za T;go_enter Tryz.func126,Tryz.ntmps126;go_wp2_with fail;refine HM.o.mono ?_;intro e w1 hp
 cases r with
 |none=>
  obtain⟨G,hf⟩:=hp;have K:=HN.o.symm;subst K;unfold Tb at G;subst G;exact⟨rfl,rfl,hf⟩
 |some lj=>
  obtain⟨l,j⟩:=lj;obtain⟨⟨v,rfl,hv⟩,hR,hf⟩:=hp;have HR:=Za hR;have HF:=Za hf;have HV:=Za hv;obtain⟨hl,g0⟩:=HL.o l j rfl;have h0:=Za g0;have i0:=hv;obtain⟨xs,hx,_⟩:=i0;obtain⟨pa,pc,e1⟩:=oL hx;subst e1;have j0:=Za (Ms.of hv (R w1.heap.size));have M:=Za HN;obtain⟨n,hn⟩:∃n,l.length=n:=⟨_,rfl⟩;have z:=Za hn;rw[hn]at hl ⊢;rw[hn]at HV;go_wp2_with fail
  go_loopg [12] n (fun m kv wr=>∃k:Nat,k<=n/\m=n-k/\kv=Y Z (k:Nat)/\E (∀q a,q<k->l[q]?=U a->q+a.skip<n)/\E (F0 w1 wr))
  case atStart=>exact⟨0,by omega,rfl,rfl,fun q _ h=>by omega,Zt⟩
  obtain⟨k,hk,rfl,rfl,HA,b⟩:=hrel;by_cases q0:k<n
  ·have k0:(k:Int)<(n:Int):=by omega
   obtain⟨a,c⟩:∃a,l[k]?=U a:=⟨_,gE (by have:=z.o;omega)⟩;obtain⟨g,qa,qc,rfl,_,d0,d1,d2,d3,_,_⟩:=j0.o k a c;have d:=bL w1 _ d0;have e0:=(b.o.cell (p:=⟨g,k*4,I⟩) d).trans d0;have e1:=(b.o.cell (p:=⟨g,k*4+1,I⟩) d).trans d1;have e2:=(b.o.cell (p:=⟨g,k*4+2,I⟩) d).trans d2;have e3:=(b.o.cell (p:=⟨g,k*4+3,I⟩) d).trans d3;have l0:=h0.o a (mG c);have Q:=Za (b.o.alloc (D #[Y y4 (a.sort:Nat),O qa a.nums.length qc,Y Z (a.rule:Nat),Y Z (a.skip:Nat)] 208));have m0:=(Vx wr (D #[Y y4 (a.sort:Nat),O qa a.nums.length qc,Y Z (a.rule:Nat),Y Z (a.skip:Nat)] 208)).2;go_upto_region 5 with fail;generalize wr.alloc _=W at*;generalize wr.heap.size=X at*;have x3:=Zc m0.o 3;by_cases S:k+a.skip<n
   ·have n0:(k:Int)+(a.skip:Int)<(n:Int):=by omega
    have o0:E (∀q a,q<k+1->l[q]?=U a->q+a.skip<n):=fun q t V f=>by
     by_cases e:q=k
     ·subst e;rw[c]at f;injection f with f;subst f;exact S
     exact HA.o q t (by omega) f
    go_wp2_with fail;refine(WP _).mono ?_;rintro e w2 ⟨rfl,C⟩;replace C:=C.symm;subst C;go_wp2_with fail;go_roundg (n-(k+1))
    case measure=>omega
    exact⟨k+1,by omega,rfl,by go_num,o0,Q⟩
   have n0:¬(k:Int)+(a.skip:Int)<(n:Int):=by omega
   have K:N=I:=by rw[<-M.o,Ga c (by rw[z.o];exact S)];rfl
   subst K;go_wp2_with fail;refine(Wo _).mono ?_;rintro e w2 ⟨G,C⟩;replace C:=C.symm;subst C;unfold Tb at G;subst G;exact⟨rfl,rfl,HF.o.trans (Q.o.mono)⟩
  have k0:¬(k:Int)<(n:Int):=by omega
  have K:N=U (l,j):=by
   rw[<-M.o,En (fun q t f=>by
    have V:=(iG.1 f).1;have hl:=z.o;rw[hl]at V ⊢
    exact HA.o q t (by omega) f)]
   rfl
  subst K;go_wp2_with fail;go_ret;exact⟨⟨_,rfl,QU HV.o b.o⟩,HR.o.fr b.o,HF.o.trans (b.o.mono)⟩
theorem JV:(H.info? 129).map (fun i=>(i.zero,i.size,i.bytes))=U (U (O I 0 0),1,24):=by kernel_rfl
theorem Xl.base {b a:Nat}{w:A}(d:a<=b):∀{l:List Zl}{f:List z7},Xl b w l f->Xl a w l f
 |[],_,h=>h
 |_::_,_,⟨c,rest,e,⟨vn,e1,h1⟩,h2⟩=>⟨c,rest,e,⟨vn,e1,oS h1 d⟩,Xl.base d h2⟩
theorem Z2.base {b a w v l}(h:Z2 b w b v l)(c:a<=b):Z2 a w a v l:=by
 obtain⟨d,e,f⟩:=h;exact⟨d,oS e c,f.base c⟩
def Ph (base:Nat)(w:A)(v:z7)(a:List (List Zl)):Prop:=∃b,w.ownsRow base 129 1 v a.length b/\∀(j:Nat)(l:List Zl),a[j]?=U l->∃c,b[j]?=U c/\Z2 base w base c l
theorem JW (w B s i b)(lo hi:Int)(ra y rc na z nc)(h:Yg w B s i b)(A:b≠B)(c0:w.cell? ⟨b,0,I⟩=U (O ra y rc))(c1:w.cell? ⟨b,1,I⟩=U (O na z nc))(i0:y<=6)(j0:z<=8)(H0:hi<=255):
  L H 125 #[J (U ⟨B,0,I⟩),Y Z lo,Y Z hi,.func (.func 126) #[J (U ⟨B,0,I⟩)] #[]] w (PU w B s b (YM s.data.toList lo hi (U6 s.data.toList y z) i) fun w' v c=>Ph w.heap.size w' v c):=by
 obtain⟨ij,k0,l0,m0,n0⟩:=info_parts JV;have HH:=Za (Z1 w B s i b 1 1 lo hi h (by decide) rfl);have I0:B<w.heap.size:=(iA.1 h.bx).1
 have HO:E (∀W i,Fr (fun k=>k=B) w W->Yg W B s i b->L H 126 #[J (U ⟨B,0,I⟩)] W (PU W B s b (U6 s.data.toList y z i) fun w' v x=>Z2 W.heap.size w' W.heap.size v x)):=fun W i P hR=>JU W B s i b ra y rc na z nc hR A ((P.cell (p:=⟨b,0,I⟩) (bL w _ c0) A).trans c0) ((P.cell (p:=⟨b,1,I⟩) (bL w _ c1) A).trans c1) i0 j0
 obtain⟨N,hN⟩:∃N,YM s.data.toList lo hi (U6 s.data.toList y z) i=N:=⟨_,rfl⟩;rw[hN];have HN:=Za hN;generalize U6 s.data.toList y z=one at*;go_enter Tryz.func125,Tryz.ntmps125;go_wp2_with fail;refine HH.o.mono ?_;intro e w1 q
 cases h1:Y3 s.data.toList 1 lo hi i with
 |none=>
  rw[h1]at q;obtain⟨S,P⟩:=q
  have T:N=I:=by rw[<-HN.o];exact TX h1
  subst T;unfold Tb at S;subst S;exact⟨rfl,rfl,P⟩
 |some nj=>
  obtain⟨n,j⟩:=nj;rw[h1]at q;obtain⟨⟨v,rfl,rfl⟩,o0,p0⟩:=q;have q0:=Za o0;have r0:=Za p0
  have hn:n<=255:=by have:=(Yp h1).2;omega
  have s0:E (YG one [] n j=N):=by show _=_;rw[<-HN.o];exact(TW h1).symm
  go_wp2_with fail
  go_loopg [9,14] n (fun m ov kv wr=>∃(k:Nat)(c:List (List Zl))(G:Nat),k<=n/\m=n-k/\kv=Y Z (k:Nat)/\c.length=k/\E (Yg wr B s G b)/\E (Ph w.heap.size wr ov c)/\E (YG one c (n-k) G=N)/\E (Fr (fun k=>k=B) w wr))
  case atStart=>exact⟨0,[],j,by omega,rfl,rfl,rfl,q0,⟨[],oZ _ _ _ _,fun j l h=>by simp at h⟩,s0,r0⟩
  obtain⟨k,c,G,r,rfl,rfl,t,HR,V,X,d⟩:=hrel;obtain⟨ys,K,t0⟩:=V.o;rw[t]at K;obtain⟨oa,oc,ho⟩:=oL K;subst ho;have v0:=Za K;have w0:=Za t0;by_cases J0:k<n
  ·have x0:(k:Int)<(n:Int):=by omega
   have a0:E (YG one c (n-(k+1)+1) G=N):=by show _=_;rw[show n-(k+1)+1=n-k from by omega];exact X.o
   go_wp2_with fail;refine(HO.o wr G d.o HR.o).mono ?_;intro e w2 q
   cases h2:one G with
   |none=>
    rw[h2]at q;obtain⟨S,P⟩:=q
    have T:N=I:=by rw[<-a0.o];exact UN h2
    subst T;unfold Tb at S;subst S;exact⟨rfl,rfl,d.o.trans P⟩
   |some xj=>
    obtain⟨x,j3⟩:=xj;rw[h2]at q;obtain⟨⟨v,rfl,b0⟩,y0,M⟩:=q;obtain⟨zs,z0,_⟩:=id b0;obtain⟨qa,qc,e1⟩:=oL z0;subst e1;have A0:=Za (b0.base d.o.size);have B0:=Za y0;have d0:=Za (d.o.trans M);have g:=Za (oF v0.o M (fun k r=>by omega))
    have e0:E (∀(j:Nat)(l:List Zl),c[j]?=U l->∃Q,ys[j]?=U Q/\Z2 w.heap.size w2 w.heap.size Q l):=fun j l u=>by
     obtain⟨Q,e1,e2⟩:=w0.o j l u;exact⟨Q,e1,Rl e2 (R _) M (fun k r=>by omega)⟩
    have C0:E (YG one (c++[x]) (n-(k+1)) j3=N):=by show _=_;rw[<-a0.o];exact(UO h2).symm
    go_wp2_with (at_builtin;refine wpList_append_lies _ rfl (.tmp 16) (.tmp 19) 130 rfl w.heap.size 129 ij _ 1 24 Tryz.underlying130 k0 l0 m0 n0 rfl (by decide) (O oa k oc) k ys rfl ?h1 ⟨w2.heap.size,0,I⟩ 1 1 [O qa x.length qc] rfl rfl ?h2 ?h3 (by decide) ?h4 ?h5 ?h6 _ rfl ?_)
    case h1=>exact g.o.alloc _
    try case h2=>exact C (aN w2 (D #[O qa x.length qc] 129))
    case h3=>simp[z5]
    case h4=>unfold maxLen;omega
    case h5=>omega
    case h6=>have:=d0.o.size;simp;omega
    intro g2 f0 w8 g0 a K0 _;have D0:E (Fr (fun k=>k=B) w w8):=(d0.o.alloc _).grown a (fun k r=>F (g.o.lt k r).1)
    have E0:E (Yg w8 B s j3 b):=by
     have f:Fr (fun k'=>(y2 oa k oc).ownBlock=U k') w2 w8:=(Zt.alloc _).grown a (fun k r=>.inl r);exact B0.o.fr f (fun hb=>by have:=(g.o.lt B hb).1;omega)
    have F0:E (Ph w.heap.size w8 (O (U ⟨g2,0,I⟩) (k+1) f0) (c++[x])):=by
     have r:∀v l,Z2 w.heap.size w2 w.heap.size v l->Z2 w.heap.size w8 w.heap.size v l:=fun v l hs=>by
      obtain⟨us,u1,u2⟩:=hs;have o1:(w2.alloc (D #[O qa x.length qc] 129)).ownsRow w.heap.size 129 1 (O oa k oc) k ys:=g.o.alloc _;exact⟨us,(u1.alloc _).kept a (WI (u1.alloc _) o1 (by decide)),u2.keep (fun v n zs hv=>(hv.alloc _).kept a (WI (hv.alloc _) o1 (by decide)))⟩
     refine⟨ys++[O qa x.length qc],by rw[lA,t];exact g0,fun j l u=>?_⟩
     have G0:ys.length=k:=by have e:=g.o.1;simpa using e
     by_cases L0:j<k
     ·rw[z6 (by omega)]at u
      obtain⟨Q,e1,e2⟩:=e0.o j l u;exact⟨Q,by rw[z6 (by omega)];exact e1,r _ _ e2⟩
     rw[aR (by omega),t]at u
     have h0:j-k=0:=by
      have:=(iG.1 u).1;simp at this;omega
     rw[h0]at u;simp at u;subst u;exact⟨_,by rw[aR (by omega),G0,h0];rfl,r _ _ A0.o⟩
    go_wp2_with fail;go_roundg (n-(k+1))
    case measure=>omega
    exact⟨k+1,c++[x],j3,by omega,rfl,by go_num,by simp[t],E0,F0,C0,D0⟩
  have x0:¬(k:Int)<(n:Int):=by omega
  have T:N=U (c,G):=by
   have e:=X.o;rw[show n-k=0 from by omega,TV]at e;exact e.symm
  subst T;go_wp2_with fail;go_ret;exact⟨⟨_,rfl,V.o⟩,HR.o,d.o⟩
def SZ (w:A)(K:Nat)(ts:List Tr):Prop:=∃c:Array z7,w.heap[K]?=U (D c 248)/\c.size=20/\∀d t,ts[d]?=U t->∃a b,c[d*2]?=U a/\c[d*2+1]?=U b/\Xf w (K+1) t (z9 #[a,b])
theorem SZ.fr {w w' K ts S}(h:SZ w K ts)(c:Fr S w w')(e:∀k,K<=k->¬S k:=by simp):SZ w' K ts:=by
 obtain⟨f,g,i,j⟩:=h;refine⟨f,c.whole g (e K (R _)),i,fun d t l=>?_⟩;obtain⟨a,b,m,n,o⟩:=j d t l;exact⟨a,b,m,n,o.keep' c (fun k p=>e k (by omega))⟩
theorem SZ.more {w K ts t a b}(h:SZ w K ts)(z:ts.length<10)(i:Xf w (K+1) t (z9 #[a,b])):SZ ((w.setCell ⟨K,ts.length*2,I⟩ a).setCell ⟨K,ts.length*2+1,I⟩ b) K (ts++[t]):=by
 obtain⟨A,j,l,m⟩:=h;have n:=heap_setCell_same w K (ts.length*2) _ _ a j;have o:=heap_setCell_same _ K (ts.length*2+1) _ _ b n;have g:=((Fr.refl (fun k=>k=K) w).setCell (p:=⟨K,ts.length*2,I⟩) (z4 rfl) a).setCell (p:=⟨K,ts.length*2+1,I⟩) (z4 rfl) b;refine⟨_,o,by simp[l],fun d u c=>?_⟩;by_cases e:d<ts.length
 ·rw[z6 e]at c
  obtain⟨x,y,q,r,s⟩:=m d u c;refine⟨x,y,?_,?_,s.keep' g (fun k v=>by omega)⟩
  ·rw[Array.getElem?_setIfInBounds_ne (by omega),Array.getElem?_setIfInBounds_ne (by omega)];exact q
  rw[Array.getElem?_setIfInBounds_ne (by omega),Array.getElem?_setIfInBounds_ne (by omega)];exact r
 have f:d=ts.length:=by
  have:=(iG.1 c).1;simp at this;omega
 subst f;rw[aR (R _),Nat.sub_self]at c;simp at c;subst c;refine⟨a,b,?_,?_,i.keep' g (fun k v=>by omega)⟩
 ·rw[Array.getElem?_setIfInBounds_ne (by omega),Array.getElem?_setIfInBounds_self_of_lt (by omega)]
 rw[Array.getElem?_setIfInBounds_self_of_lt (by simp;omega)]
def vL (w:A)(B:Nat)(s:ByteArray)(c:Nat)(r:Option (Tr×Nat)):Ending->A->Prop:=PU w B s c r fun w' v t=>∃a b,v=z9 #[a,b]/\Xf w' w.heap.size t (z9 #[a,b])
theorem Bm {b}{np f i j:Nat}(h:Y3 b 1 0 np i=U (0,j)):Xw b np (f+1) i=if f=0 then I else(YG (Xw b np f) [] 10 j).map fun p=>(Tr.node (fun d=>p.1.getD d (.leaf 0)),p.2):=by
 conv=>lhs;unfold Xw
 rw[h]
 dsimp only
 split
 ·rfl
 unfold YG
 cases WO (Xw b np f) 10 j<;>simp
theorem Bp {b}{np f i x j:Nat}(h:Y3 b 1 0 np i=U (x+1,j)):Xw b np (f+1) i=U (.leaf x,j):=by
 conv=>lhs;unfold Xw
 rw[h]
theorem Bq {b}{np f i:Nat}(h:Y3 b 1 0 np i=I):Xw b np (f+1) i=I:=by
 conv=>lhs;unfold Xw
 rw[h]
theorem Gb {w W B m d s t a b g h}(i:Yg W B s m d)(j:W.heap[w.heap.size]?=U (D #[g,h] 133))(l:Fr (fun k=>k=B) w W)(u:B<w.heap.size)(n:Xf W (w.heap.size+1) t (z9 #[a,b])){tm}(c:tm[4]?=U (J (U ⟨w.heap.size,0,I⟩))):
  bodyPost H Tryz.f127 (PU w B s d (U (t,m)) fun w' v t=>∃a b,v=z9 #[a,b]/\Xf w' w.heap.size t (z9 #[a,b])) .ret ⟨tm,[]⟩ ((W.setCell ⟨w.heap.size,0,I⟩ a).setCell ⟨w.heap.size,1,I⟩ b):=by
 have o:=heap_setCell_same W w.heap.size 0 _ _ a j;have e:=heap_setCell_same _ w.heap.size 1 _ _ b o;have f:=((Fr.refl (fun k=>k=w.heap.size) W).setCell (p:=⟨w.heap.size,0,I⟩) (z4 rfl) a).setCell (p:=⟨w.heap.size,1,I⟩) (z4 rfl) b;have g1:=i.fr f (by show¬B=w.heap.size;omega);have g2:=n.keep' f (fun k x=>by omega);have g3:=(l.setCell (p:=⟨w.heap.size,0,I⟩) (F (R _)) a).setCell (p:=⟨w.heap.size,1,I⟩) (F (R _)) b;have q:=Zc e 0;have r:=Zc e 1;generalize(W.setCell ⟨w.heap.size,0,I⟩ a).setCell ⟨w.heap.size,1,I⟩ b=y at*;exact bodyPost_ret (v:=z9 #[a,b]) (by simp[results,Tryz.results127,go_sem,c,q,r]) rfl ⟨⟨_,rfl,a,b,rfl,Xf.low (by omega) _ _ g2⟩,g1,g3⟩
theorem MP (B s c np pa)(pc f:Nat)(w0:c≠B)(a1:np<=255)(b1:f<=6)(IH:f≠0->E (∀w i,Yg w B s i c->w.cell? ⟨c,2,I⟩=U (O pa np pc)->L H 127 #[J (U ⟨B,0,I⟩),Y Z (7-(f:Int))] w (vL w B s c (Xw s.data.toList np f i))))(w i)(h:Yg w B s i c)(V:w.cell? ⟨c,2,I⟩=U (O pa np pc)):
  L H 127 #[J (U ⟨B,0,I⟩),Y Z (6-(f:Int))] w (vL w B s c (Xw s.data.toList np (f+1) i)):=by
 obtain⟨X,a0⟩:∃X,w.alloc (D #[J I,Y Z 0] 133)=X:=⟨_,rfl⟩;have h0:B<w.heap.size:=(iA.1 h.bx).1
 have C:E (F0 w X):=by show Fr _ _ _;rw[<-a0];exact Zt.alloc _
 have x0:E (X.heap[w.heap.size]?=U (D #[J I,Y Z 0] 133)):=by show _=_;rw[<-a0];exact aN w _
 have i0:=Za (h.fr C.o)
 have HT:E (∀W,Fr (fun k=>k=B) w W->W.cell? ⟨c,2,I⟩=U (O pa np pc)):=fun W hf=>(hf.cell (p:=⟨c,2,I⟩) (bL w _ V) w0).trans V
 obtain⟨N,hN⟩:∃N,Xw s.data.toList np (f+1) i=N:=⟨_,rfl⟩;rw[hN];have HN:=Za hN
 have c1:w.heap.size<X.heap.size:=by rw[<-a0];simp
 have b2:=Zc i0.o.bx 2;have t2:=HT.o X (C.o.mono)
 have A0:E (f≠0->∀(w:A)(i:Nat),Yg w B s i c->w.cell? ⟨c,2,I⟩=U (O pa np pc)->L H 127 #[J (U ⟨B,0,I⟩),Y Z (7-(f:Int))] w (vL w B s c (Xw s.data.toList np f i))):=fun hf=>(IH hf).out
 unfold vL;go_enter Tryz.func127,Tryz.ntmps127;go_upto_region 1 with fail;go_wp2_with fail;refine(Z1 X B s i c 1 1 0 np i0.o (by decide) rfl).mono ?_;intro e n z
 cases h1:Y3 s.data.toList 1 0 np i with
 |none=>
  rw[h1]at z;obtain⟨R,hf⟩:=z
  have G:N=I:=by rw[<-HN.o];exact Bq h1
  subst G;unfold Tb at R;subst R;exact⟨rfl,rfl,(C.o.mono).trans hf⟩
 |some xj=>
  obtain⟨x,j⟩:=xj;rw[h1]at z;obtain⟨⟨v,rfl,rfl⟩,B0,b0⟩:=z
  have hx:x<=np:=by have:=(Yp h1).2;omega
  have j0:=Za B0;have d0:=Za ((C.o.mono).trans b0);have g:E (n.heap[w.heap.size]?=U (D #[J I,Y Z 0] 133)):=b0.whole x0.o (by show¬w.heap.size=B;omega)
  have hK:w.heap.size<n.heap.size:=by have:=b0.size;omega
  cases x with
  |succ y=>
   have G:N=U (.leaf y,j):=by rw[<-HN.o];exact Bp h1
   subst G
   have hz:(((y+1:Nat):Int) !=0)=true:=by simp;omega
   have d1:y6.wrap (((y+1:Nat):Int)-1)=(y:Int):=by rw[IntWalk.i64_in _ (by constructor<;>omega)];omega
   have p0:=Zc g.o 0;have p1:=Zc g.o 1;have g0:=bF g.o 0;have g1:=bF g.o 1;go_wp2_with fail;exact Gb (t:=.leaf y) (a:=J I) (b:=Y Z (y:Nat)) j0.o g.o d0.o h0 rfl rfl
  |zero=>
   have k0:E ((if f=0 then I else(YG (Xw s.data.toList np f) [] 10 j).map fun p=>(Tr.node (fun d=>p.1.getD d (.leaf 0)),p.2))=N):=by show _=_;rw[<-HN.o];exact(Bm h1).symm
   by_cases e0:f=0
   ·have C0:decide ((6-(f:Int))<6)=false:=by simp;omega
    have G:N=I:=by rw[<-k0.o,if_pos e0]
    subst G;go_wp2_with fail;refine(Wo _).mono ?_;rintro e w2 ⟨R,hw⟩;replace hw:=hw.symm;subst hw;unfold Tb at R;subst R;exact⟨rfl,rfl,d0.o⟩
   have C0:(6-(f:Int))<6:=by omega
   have D0:E (((YG (Xw s.data.toList np f) [] 10 j).map fun p=>(Tr.node (fun d=>p.1.getD d (.leaf 0)),p.2))=N):=by show _=_;rw[<-k0.o,if_neg e0]
   have E0:=Za (A0.o e0)
   have f1:y6.wrap (6-(f:Int)+1)=7-(f:Int):=by rw[IntWalk.i64_in _ (by constructor<;>omega)];omega
   generalize Xw s.data.toList np f=one at*;go_wp2_with fail;refine(WP _).mono ?_;rintro e w2 ⟨rfl,hw⟩;replace hw:=hw.symm;subst hw;have f0:=(SA n (D #[J I,Y Z 0,J I,Y Z 0,J I,Y Z 0,J I,Y Z 0,J I,Y Z 0,J I,Y Z 0,J I,Y Z 0,J I,Y Z 0,J I,Y Z 0,J I,Y Z 0] 248) (D #[J (U ⟨n.heap.size,0,I⟩),Y Z 0] 133)).1;have G0:E (SZ ((n.alloc (D #[J I,Y Z 0,J I,Y Z 0,J I,Y Z 0,J I,Y Z 0,J I,Y Z 0,J I,Y Z 0,J I,Y Z 0,J I,Y Z 0,J I,Y Z 0,J I,Y Z 0] 248)).alloc (D #[J (U ⟨n.heap.size,0,I⟩),Y Z 0] 133)) n.heap.size []):=⟨#[J I,Y Z 0,J I,Y Z 0,J I,Y Z 0,J I,Y Z 0,J I,Y Z 0,J I,Y Z 0,J I,Y Z 0,J I,Y Z 0,J I,Y Z 0,J I,Y Z 0],((Fr.refl (fun _=>False) _).alloc _).whole (aN n _),by simp,fun d t hd=>by simp at hd⟩;have HX:=(SA n (D #[J I,Y Z 0,J I,Y Z 0,J I,Y Z 0,J I,Y Z 0,J I,Y Z 0,J I,Y Z 0,J I,Y Z 0,J I,Y Z 0,J I,Y Z 0,J I,Y Z 0] 248) (D #[J (U ⟨n.heap.size,0,I⟩),Y Z 0] 133)).2.2;go_upto_region 6 with fail;generalize((n.alloc _).alloc _)=W2 at*;have H0:=Za (j0.o.fr f0.o);have I0:=Za (f0.o.whole g.o);have J0:=Za (d0.o.trans (f0.o.mono));generalize n.heap.size=K at*;go_wp2_with fail
   go_loopg [28] 10 (fun m kv wr=>∃(k:Nat)(ts:List Tr)(jj:Nat),k<=10/\m=10-k/\kv=Y Z (k:Nat)/\ts.length=k/\E (Yg wr B s jj c)/\E (SZ wr K ts)/\E (wr.heap[K+1]?=U (D #[J (U ⟨K,0,I⟩),Y Z 0] 133))/\E (wr.heap[w.heap.size]?=U (D #[J I,Y Z 0] 133))/\E (((YG one ts (10-k) jj).map fun p=>(Tr.node (fun d=>p.1.getD d (.leaf 0)),p.2))=N)/\E (Fr (fun k=>k=B) w wr))
   case atStart=>exact⟨0,[],j,by omega,rfl,rfl,rfl,H0,G0,HX,I0,D0,J0⟩
   obtain⟨k,ts,jj,hk,rfl,rfl,l0,HR,HK,r,l,m0,M⟩:=hrel;by_cases i1:k<10
   ·have K0:(k:Int)<10:=by omega
    have n0:E (((YG one ts (10-(k+1)+1) jj).map fun p=>(Tr.node (fun d=>p.1.getD d (.leaf 0)),p.2))=N):=by show _=_;rw[show 10-(k+1)+1=10-k from by omega];exact m0.o
    have c0:=Zc r.o 0;go_wp2_with fail;have P:E (F0 wr wr.drew):=Zt.drew;refine wp_region_held_drew (S:=fun W=>W.cell? ⟨K+1,0,I⟩=U (J (U ⟨K,0,I⟩))) (by kernel_rfl) (by simpa using c0) (fun hH=>?_)
    iterate 6 (refine YO 0 hH ?_;try go_frame)
    refine ZX 7 hH ?_
    try go_frame
    refine Vv 6 (fun K2 hK=>?_);go_simp;refine(E0.o wr.drew jj (HR.o.fr P.o) (HT.o _ (M.o.trans (P.o.mono)))).mono ?_;intro e T z;unfold vL at z
    cases V:one jj with
    |none=>
     rw[V]at z;obtain⟨R,hf⟩:=z
     have G:N=I:=by rw[<-n0.o,UN V];rfl
     subst G;unfold Tb at R;subst R;exact⟨rfl,rfl,(M.o.trans (P.o.mono)).trans hf⟩
    |some tj=>
     obtain⟨t,j3⟩:=tj;rw[V]at z;obtain⟨⟨v,rfl,a,b,rfl,o0⟩,L0,M0⟩:=z
     have N0:E (((YG one (ts++[t]) (10-(k+1)) j3).map fun p=>(Tr.node (fun d=>p.1.getD d (.leaf 0)),p.2))=N):=by show _=_;rw[<-n0.o,UO V]
     have f3:=(P.o.mono).trans M0;obtain⟨u,kb,rfl,rfl⟩:=Xf.form o0;have r0:E (T.heap[K+1]?=U (D #[J (U ⟨K,0,I⟩),Y Z 0] 133)):=f3.whole r.o (by show¬K+1=B;omega);have O0:E (T.heap[w.heap.size]?=U (D #[J I,Y Z 0] 133)):=f3.whole l.o (by show¬w.heap.size=B;omega);have s0:=Za (HK.o.fr f3 (fun k hk=>by omega));have P0:=Za (M.o.trans f3);have j1:K+1<wr.heap.size:=(iA.1 r.o).1;have Q0:E (Xf T (K+1) t (z9 #[J u,Y Z (kb:Nat)])):=Xf.low (by show K+1<=wr.drew.heap.size;have:wr.drew.heap.size=wr.heap.size:=rfl;omega) _ _ o0;have R0:=Za L0;have c3:=Zc r0.o 0;refine hK.out _ _ c3 (fun hH=>?_)
     try go_frame
     refine ZX 8 hH ?_
     try go_frame
     obtain⟨cs,Q,l1,_⟩:=id s0.o;have y0:=bC Q (k*2) _ (Array.getElem?_eq_getElem (by omega));have y1:=bC Q (k*2+1) _ (Array.getElem?_eq_getElem (by omega));have z0:=bF Q (k*2);have z1:=bF Q (k*2+1);refine Vv 9 (fun K2 hK=>?_);go_simp;have hm:=s0.o.more (a:=J u) (b:=Y Z (kb:Nat)) (by omega) Q0.o;rw[l0]at hm;have S0:=Za hm;have hS:Fr (fun q=>q=K) T ((T.setCell ⟨K,k*2,I⟩ (J u)).setCell ⟨K,k*2+1,I⟩ (Y Z (kb:Nat))):=((Fr.refl (fun q=>q=K) T).setCell (p:=⟨K,k*2,I⟩) (z4 rfl) _).setCell (p:=⟨K,k*2+1,I⟩) (z4 rfl) _;have T0:=Za (R0.o.fr hS (by show¬B=K;omega));have t0:=Za (hS.whole r0.o (by show¬K+1=K;omega));have V0:=Za (hS.whole O0.o (by show¬w.heap.size=K;omega));have X0:E (Fr (fun k=>k=B) w ((T.setCell ⟨K,k*2,I⟩ (J u)).setCell ⟨K,k*2+1,I⟩ (Y Z (kb:Nat)))):=(P0.o.setCell (p:=⟨K,k*2,I⟩) (F (by show w.heap.size<=K;omega)) _).setCell (p:=⟨K,k*2+1,I⟩) (F (by show w.heap.size<=K;omega)) _;have c4:=Zc t0.o 0;refine hK.out _ _ c4 (fun _=>?_)
     try go_frame
     generalize(T.setCell ⟨K,k*2,I⟩ (J u)).setCell ⟨K,k*2+1,I⟩ (Y Z (kb:Nat))=W4 at*;refine wpAnyH_done (by kernel_rfl) ?_ _;go_wp2_with fail;go_roundg (10-(k+1))
     case measure=>omega
     exact⟨k+1,ts++[t],j3,by omega,rfl,by go_num,by simp[l0],T0,S0,t0,V0,N0,X0⟩
   have K0:¬(k:Int)<10:=by omega
   have Z0:k=10:=by omega
   have G:N=U (Tr.node (fun d=>ts.getD d (.leaf 0)),jj):=by
    rw[<-m0.o,show 10-k=0 from by omega,TV];rfl
   subst G
   have Y0:E (Xf wr (w.heap.size+1) (Tr.node (fun d=>ts.getD d (.leaf 0))) (z9 #[J (U ⟨K,0,I⟩),Y Z 0])):=by
    obtain⟨cs,k1,k2,k3⟩:=HK.o;refine⟨K,cs,rfl,by omega,k1,k2,fun d hd=>?_⟩
    have v0:d<ts.length:=by omega
    obtain⟨a,b,e1,e2,e3⟩:=k3 d ts[d] (gE v0);refine⟨a,b,e1,e2,?_⟩
    show Xf _ _ (ts.getD d (.leaf 0)) _
    rw[show ts.getD d (.leaf 0)=ts[d]from by simp[List.getD,v0]];exact Xf.low (by omega) _ _ e3
   have q0:=Zc r.o 0;have q1:=Zc r.o 1;have p0:=Zc l.o 0;have p1:=Zc l.o 1;have g0:=bF l.o 0;have g1:=bF l.o 1;go_wp2_with fail;exact Gb HR.o l.o M.o h0 Y0.o rfl
theorem KG (B:Nat)(s:ByteArray)(a np:Nat)(g:Option Addr)(j:Nat)(b:a≠B)(c:np<=255):∀(f:Nat),f<=6->∀(w:A)(i:Nat),Yg w B s i a->w.cell? ⟨a,2,I⟩=U (O g np j)->L H 127 #[J (U ⟨B,0,I⟩),Y Z (6-(f:Int))] w (vL w B s a (Xw s.data.toList np (f+1) i))
 |0,hf,w,i,h,d=>MP B s a np g j 0 b c hf (fun h=>absurd rfl h) w i h d
 | f+1,hf,w,i,h,d=>MP B s a np g j (f+1) b c hf (fun _=>Za fun w i h d=>by
   have e:=KG B s a np g j b c f (by omega) w i h d;rw[show(7-((f+1:Nat):Int))=6-(f:Int)from by omega]
   exact e) w i h d
theorem Gc {l}(h:∀(k:Nat) s,l[k]?=U s->Uy s 0 l=(k:Int)):YN l=true:=by
 unfold YN;rw[z8];intro k _
 cases a:l[k]? with
 |none=>rfl
 |some s=>simpa using h k s a
theorem JX {l}{k:Nat}{s}(a:l[k]?=U s)(h:¬Uy s 0 l=(k:Int)):YN l=false:=by
 cases e:YN l with
 |false=>rfl
 |true=>
  have:=z8.1 e k (y7.2 (iG.1 a).1);rw[a]at this;exact absurd (by simpa using this) h
theorem MQ (w a n c l)(h:Ye w a l)(v:l.length=n)(I:n<=1000):
  L H 123 #[O a n c] w fun e w'=>e=.returned (.bool (YN l))/\w'=w:=by
 have C:E (∀s,L H 66 #[O a n c,G s] w fun e w'=>e=.returned (Y Z (Uy s 0 l))/\w'=w):=fun s=>by
  have e:=Mo w a c l s h (by unfold maxLen;omega);rw[v]at e;exact e
 have D:=Za h;have x:=Za v;obtain⟨b,y⟩:∃b,YN l=b:=⟨_,rfl⟩;rw[y];have A:=Za y;go_enter Tryz.func123,Tryz.ntmps123;go_wp2_with fail
 go_loop [3,4,7] (fun _ _ i=>∃k:Nat,k<=n/\i=Y Z (k:Nat)/\E (∀(q:Nat) s,q<k->l[q]?=U s->Uy s 0 l=(q:Int))) (fun _ _ i=>n-(intOf i).toNat)
 case atStart=>exact⟨0,by omega,rfl,fun q s h=>by omega⟩
 obtain⟨k,J,rfl,B⟩:=hrel;by_cases F:k<n
 ·have j:(k:Int)<(n:Int):=by omega
  obtain⟨s,m⟩:∃s,l[k]?=U s:=⟨_,gE (by have:=x.o;omega)⟩;obtain⟨g,o,rfl,K⟩:=D.o k s m;go_wp2_with fail;refine(C.o s).mono ?_;rintro e M ⟨rfl,p⟩;replace p:=p.symm;subst p;by_cases f:Uy s 0 l=(k:Int)
  ·rw[f]
   have r:E (∀(q:Nat) s,q<k+1->l[q]?=U s->Uy s 0 l=(q:Int)):=fun q t N d=>by
    by_cases e:q=k
    ·subst e;rw[m]at d;injection d with d;subst d;exact f
    exact B.o q t (by omega) d
   go_wp2_with fail;exact⟨⟨k+1,by omega,by go_num,r⟩,by simp[intOf];omega⟩
  have u:b=false:=by rw[<-A.o];exact JX m f
  subst u
  have P:(Uy s 0 l !=(k:Int))=true:=by simpa using f
  generalize Uy s 0 l=z at*;go_wp2_with fail;go_ret;exact⟨rfl,rfl⟩
 have j:¬(k:Int)<(n:Int):=by omega
 have u:b=true:=by
  rw[<-A.o];exact Gc (fun q t d=>B.o q t (by have:=(iG.1 d).1;have:=x.o;omega) d)
 subst u;go_wp2_with fail;go_ret;exact⟨rfl,rfl⟩
def wu (w:A)(a:Option Addr)(l:List Zf):Prop:=∀k t,l[k]?=U t->∃g,a=U ⟨g,0,I⟩/\w.cell? ⟨g,k*3,I⟩=U (G t.name)/\w.cell? ⟨g,k*3+1,I⟩=U (Y Z (t.base:Nat))/\w.cell? ⟨g,k*3+2,I⟩=U (Y Z (t.rate:Nat))
theorem Br {w base d b rts}(h:w.ownsRow base 148 3 (O b rts.length d) rts.length (Yh rts)):wu w b rts:=fun k t c=>by
 have f:=(iG.1 c).1;obtain⟨g,cap,e,_,i,a⟩:=UV h (by omega);injection e with e _ _;exact⟨g,e,a k t c⟩
theorem MR (w a n c l)(h:wu w a l)(hl:l.length=n)(hn:n<=6):
  L H 124 #[O a n c] w fun e w'=>(∃v,e=.returned v/\w'.ownsRow w.heap.size 9 1 v n (WQ (l.map Zf.name)))/\F0 w w':=by
 obtain⟨ij,u,x,y,z⟩:=info_parts Pg;have HS:=Za h;have Q:=Za hl;obtain⟨M,R⟩:∃M,l.map Zf.name=M:=⟨_,rfl⟩;rw[R];have S:=Za R;go_enter Tryz.func124,Tryz.ntmps124;go_wp2_with fail
 go_loopg [3,8] n (fun m ov kv wr=>∃k:Nat,k<=n/\m=n-k/\kv=Y Z (k:Nat)/\E (wr.ownsRow w.heap.size 9 1 ov k (WQ (M.take k)))/\E (F0 w wr))
 case atStart=>exact⟨0,by omega,rfl,rfl,oZ _ _ _ _,Zt⟩
 obtain⟨k,T,rfl,rfl,A,b⟩:=hrel;obtain⟨V,W,s⟩:=oL A.o;subst s;by_cases a0:k<n
 ·have B:(k:Int)<(n:Int):=by omega
  obtain⟨t,ht⟩:∃t,l[k]?=U t:=⟨_,gE (by have:=Q.o;omega)⟩;obtain⟨g,rfl,d0,d1,d2⟩:=HS.o k t ht;have d:=bL w _ d0;have e0:=(b.o.cell (p:=⟨g,k*3,I⟩) d).trans d0;have e1:=(b.o.cell (p:=⟨g,k*3+1,I⟩) d).trans d1;have e2:=(b.o.cell (p:=⟨g,k*3+2,I⟩) d).trans d2
  have HT:E (WQ (M.take (k+1))=WQ (M.take k)++[G t.name]):=by show _=_;rw[List.take_add_one,<-S.o,List.getElem?_map,ht];simp[WQ]
  have J:=(Vx wr (D #[G t.name,Y Z (t.base:Nat),Y Z (t.rate:Nat)] 148)).2;have i:=Za (b.o.alloc (D #[G t.name,Y Z (t.base:Nat),Y Z (t.rate:Nat)] 148));have j:E ((wr.alloc (D #[G t.name,Y Z (t.base:Nat),Y Z (t.rate:Nat)] 148)).ownsRow w.heap.size 9 1 (O V k W) k (WQ (M.take k))):=A.o.alloc _;go_upto_region 5 with fail;generalize wr.alloc _=w2 at*;have x0:=Zc J.o 0;generalize wr.heap.size=X at*
  go_wp2_with (at_builtin;refine wpList_append_lies _ rfl (.tmp 12) (.tmp 15) 28 rfl w.heap.size 9 ij _ 1 16 Tryz.underlying28 u x y z rfl (by decide) (O V k W) k (WQ (M.take k)) rfl ?h1 ⟨w2.heap.size,0,I⟩ 1 1 [G t.name] rfl rfl ?h2 ?h3 (by decide) ?h4 ?h5 ?h6 _ rfl ?_)
  case h1=>exact j.o.alloc _
  try case h2=>exact C (aN w2 (D #[G t.name] 9))
  case h3=>simp[z5]
  case h4=>unfold maxLen;omega
  case h5=>omega
  case h6=>have:=i.o.size;simp;omega
  intro g2 q w8 r f b0 _;have K:E (F0 w w8):=(i.o.alloc _).grown f (fun k T=>F (j.o.lt k T).1)
  have N:E (w8.ownsRow w.heap.size 9 1 (O (U ⟨g2,0,I⟩) (k+1) q) (k+1) (WQ (M.take (k+1)))):=by
   show y3 _ _ _ _ _ _ _
   rw[HT.o];exact r
  go_wp2_with fail;go_roundg (n-(k+1))
  case measure=>omega
  exact⟨k+1,by omega,rfl,by go_num,N,K⟩
 have B:¬(k:Int)<(n:Int):=by omega
 have ek:k=n:=by omega
 subst ek;have s:=A.o;rw[List.take_of_length_le (by rw[<-S.o,y5];have:=Q.o;omega)]at s;have P:=Za s;go_wp2_with fail;go_ret;exact⟨⟨_,rfl,P.o⟩,b.o⟩
def RX (b:List UInt8):Option (LK×Nat):=match YM b 0 6 (Vu b) 0 with
 |none=>I
 |some (rts,i)=>match YM b 0 8 (UD b) i with
  |none=>I
  |some (nms,j)=>if YN (rts.map Zf.name)&&YN nms then(match YM b 1 255 (U6 b rts.length nms.length) j with
   |none=>I
   |some (prs,k)=>match Xw b prs.length 7 k with
    |none=>I
    |some (t,l)=>U (⟨rts,nms,prs,t⟩,l))else I
theorem zH (b):Oy b=match RX b with|none=>I|some (t,l)=>if l=b.length then U t else I:=by
 unfold Oy RX
 cases YM b 0 6 (Vu b) 0 with
 |none=>rfl
 |some p=>
  dsimp only
  cases YM b 0 8 (UD b) p.2 with
  |none=>rfl
  |some q=>
   dsimp only
   cases(YN (p.1.map Zf.name)&&YN q.1)with
   |false=>rfl
   |true=>
    simp only[if_true]
    cases YM b 1 255 (U6 b p.1.length q.1.length) q.2 with
    |none=>rfl
    |some r=>
     dsimp only
     cases Xw b r.1.length 7 r.2<;>rfl
structure yz (w wx:A)(B:Nat)(s:ByteArray)(j TT:Nat)(c0 c1 c2 c3 c4:z7):Prop where
 rd:Yg wx B s j TT
 bx:wx.heap[TT]?=U (D #[c0,c1,c2,c3,c4] 135)
 fr:Fr (fun k=>k=B\/k=TT) w wx
 lB:B<w.heap.size
 lT:TT<w.heap.size
 ne:TT≠B
theorem yz.call {w c a B j d b s e c1 f g i}(h:yz w c B s j b e c1 f g i)(m:Yg a B s d b)(l:Fr (fun k=>k=B) c a):yz w a B s d b e c1 f g i:=
 ⟨m,l.whole h.bx h.ne,h.fr.trans (l.mono (fun _ n=>.inl n)),h.lB,h.lT,h.ne⟩
theorem yz.look {w b c B j d s e c1 f g i}(h:yz w b B s j d e c1 f g i)(a:F0 b c):yz w c B s j d e c1 f g i:=
 ⟨h.rd.fr a,a.whole h.bx,h.fr.trans (a.mono),h.lB,h.lT,h.ne⟩
theorem yz.set {w c B j a s d c1 g i l m n q r t}(h:yz w c B s j a d c1 g i l)(o v)(e:(#[d,c1,g,i,l]:Array z7).setIfInBounds o v=#[m,n,q,r,t]):yz w (c.setCell ⟨a,o,I⟩ v) B s j a m n q r t:=by
 have f:=(Fr.refl (fun k=>k=a) c).setCell (p:=⟨a,o,I⟩) (z4 rfl) v;have b:=heap_setCell_same c a o _ _ v h.bx;rw[e]at b;exact⟨h.rd.fr f (fun e=>h.ne e.symm),b,h.fr.setCell (p:=⟨a,o,I⟩) (z4 (F rfl)) v,h.lB,h.lT,h.ne⟩
theorem V7 {w:A}{base a t z v n b}(h:w.ownsRow base t z v n b)(c:a<base)(o u):(w.setCell ⟨a,o,I⟩ u).ownsRow base t z v n b:=
 oF h ((Fr.refl (fun k=>k=a) w).setCell (p:=⟨a,o,I⟩) (z4 rfl) u) (fun _ d=>by omega)
theorem Ph.fr {base w w' v a S}(h:Ph base w v a)(b:Fr S w w')(c:∀k,S k->k<base:=by simp):Ph base w' v a:=by
 obtain⟨d,e,f⟩:=h;refine⟨d,oF e b c,fun j l g=>?_⟩;obtain⟨i,m,n⟩:=f j l g;exact⟨i,m,Rl n (R _) b c⟩
theorem Ph.base {b a w v c}(h:Ph b w v c)(d:a<=b):Ph a w v c:=by
 obtain⟨e,f,g⟩:=h;refine⟨e,oS f d,fun j l i=>?_⟩;obtain⟨k,m,n⟩:=g j l i;exact⟨k,m,n.base d⟩
theorem MS {w base v n l}(h:w.ownsRow base 9 1 v n (WQ l))(m:l.length=n):∃a c,v=O a n c/\Ye w a l:=by
 obtain⟨a,c,e⟩:=oL h;subst e;refine⟨a,c,rfl,fun k s b=>?_⟩;have f:=(iG.1 b).1;obtain⟨g,cap,e,_,_⟩:=h.form (by omega);injection e with i o j;subst i j;have d:=h.cells (g:=g) rfl k (G s) (by simp[WQ,b]);rw[Yc,y8]at d;exact⟨g,0,rfl,by rw[y8];exact d⟩
def Eo (a:Nat)(w:A)(d:Nat)(t:LK)(b:Option Addr)(c:Nat):Prop:=OR a w d t.rts b c t.nms t.prs t.root/\w.ownsRow a 148 3 (O b t.rts.length c) t.rts.length (Yh t.rts)
theorem Eo.fr {f w w' g t i l S}(h:Eo f w g t i l)(c:Fr S w w')(d:∀k,S k->k<f)(o:¬S g:=by simp):Eo f w' g t i l:=by
 obtain⟨p,q,a,b,r,s,⟨u,v,x⟩,y⟩:=h.1.bx;have n:=oF h.2 c d;refine⟨⟨⟨p,q,a,b,c.whole r o,oF s c d,⟨u,oF v c d,fun j m z=>?_⟩,y.keep' c (fun k D e=>by have:=d k e;omega)⟩,oS n (by omega)⟩,n⟩;obtain⟨A,B,C⟩:=x j m z;exact⟨A,B,Rl C (R _) c d⟩
def sR (w:A)(B:Nat)(s:ByteArray)(a:Nat)(r:Option (LK×Nat))(e:Ending)(w':A):Prop:=match r with
 |none=>e=Tb/\Fr (fun k=>k=B\/k=a) w w'
 |some (t,l)=>e=.returned (.tuple #[])/\Yg w' B s l a/\(∃b c,Eo w.heap.size w' a t b c)/\Fr (fun k=>k=B\/k=a) w w'
theorem Bt (w B s f)(h:Yg w B s 0 f)(hT:w.heap[f]?=U (D #[O I 0 0,O I 0 0,O I 0 0,J I,Y Z 0] 135))(V:f≠B):
  L H 77 #[J (U ⟨B,0,I⟩)] w (sR w B s f (RX s.data.toList)):=by
 have Z0:∀(fn:Fn)(first cap:Array z7)(w:A),(Instr.makeFunc fn first cap).run H w=.ok (.func fn first cap) w:=fun _ _ _ _=>rfl
 have X:E (yz w w B s 0 f (O I 0 0) (O I 0 0) (O I 0 0) (J I) (Y Z 0)):=⟨h,hT,Zt,(iA.1 h.bx).1,(iA.1 hT).1,V⟩;have n:=X.o.lT;have b2:=Zc h.bx 2;have x0:=Za (LM w B s 0 f 0 6 (Vu s.data.toList) (fun _=>True) (fun _ _ _ _=>trivial) h trivial (by omega) (fun W i hR _=>El W B s i f hR));obtain⟨N,hN⟩:∃N,RX s.data.toList=N:=⟨_,rfl⟩;rw[hN];have HN:=Za hN;go_enter Tryz.func77,Tryz.ntmps77;go_wp2_with fail;refine x0.o.mono ?_;intro e w1 m
 cases h1:YM s.data.toList 0 6 (Vu s.data.toList) 0 with
 |none=>
  rw[h1]at m;obtain⟨u,hf⟩:=m
  have x:N=I:=by rw[<-HN.o];unfold RX;rw[h1]
  subst x;unfold Tb at u;subst u;exact⟨rfl,rfl,X.o.fr.trans (hf.mono (fun _ Q=>.inl Q))⟩
 |some p1=>
  obtain⟨rts,i⟩:=p1;rw[h1]at m;obtain⟨⟨v,rfl,y⟩,y0,A0⟩:=m;have H1:=Za h1
  have k0:rts.length<=6:=by have:=(X8 (P:=fun _:Zf=>True) (fun _ _ _ _=>trivial) h1).2.1;omega
  obtain⟨ra,rc,e1⟩:=oL y;subst e1;have a0:=Za (X.o.call y0 A0);have z:=Za (a0.o.set 0 (O ra rts.length rc) rfl);have B0:=Za (V7 y n 0 (O ra rts.length rc));have z0:=Zc a0.o.bx 0;have f0:=bF a0.o.bx 0;go_upto_region 2 with fail;generalize w1.setCell ⟨f,0,I⟩ (O ra rts.length rc)=W1 at*;have C0:=Za (Hy W1 B s i f 0 8 (UD s.data.toList) (fun _=>True) (fun _ _ _ _=>trivial) z.o.rd trivial (by omega) (fun W i hR _=>KB W B s i f hR));have D0:=z.o.fr.size;go_wp2_with fail;refine C0.o.mono ?_;intro e w2 m
  cases h2:YM s.data.toList 0 8 (UD s.data.toList) i with
  |none=>
   rw[h2]at m;obtain⟨u,hf⟩:=m
   have x:N=I:=by rw[<-HN.o];unfold RX;rw[H1.o];simp only[h2]
   subst x;unfold Tb at u;subst u;exact⟨rfl,rfl,z.o.fr.trans (hf.mono (fun _ Q=>.inl Q))⟩
  |some p2=>
   obtain⟨c,j⟩:=p2;rw[h2]at m;obtain⟨⟨v,rfl,y⟩,E0,l0⟩:=m;have H2:=Za h2
   have F0:c.length<=8:=by have:=(X8 (P:=fun _:ByteArray=>True) (fun _ _ _ _=>trivial) h2).2.1;omega
   have y:=oS y D0;obtain⟨na,nc,e1⟩:=oL y;subst e1;have b0:=Za (z.o.call E0 l0);have m0:=Za (b0.o.set 1 (O na c.length nc) rfl);have G0:=Za (V7 y n 1 (O na c.length nc));have R:=Za (V7 (oF B0.o l0 (fun k Q=>by have:=z.o.lB;omega)) n 1 (O na c.length nc));have z0:=Zc b0.o.bx 1;have f0:=bF b0.o.bx 1;go_upto_region 3 with fail;generalize w2.setCell ⟨f,1,I⟩ (O na c.length nc)=W2 at*;have q0:=Zc m0.o.bx 0;have H0:=Za (MR W2 ra rts.length rc rts (Br R.o) rfl k0);go_wp2_with fail;refine H0.o.mono ?_;rintro e w3 ⟨⟨v,rfl,I0⟩,d0⟩;obtain⟨va,vc,rfl,J0⟩:=MS I0 (by rw[y5]);have K0:=Za (MQ w3 va rts.length vc (rts.map Zf.name) J0 (by rw[y5]) (by omega));have g:=Za (m0.o.look d0);have S:=Za (oF G0.o d0);have n0:=Za (oF R.o d0);have L0:=g.o.fr.size;go_wp2_with fail;refine K0.o.mono ?_;rintro e w4 ⟨rfl,r⟩;replace r:=r.symm;subst r
   cases e0:YN (rts.map Zf.name)with
   |false=>
    have x:N=I:=by rw[<-HN.o];unfold RX;rw[H1.o];simp only[H2.o,e0];rfl
    subst x;go_wp2_with fail;refine(Wo _).mono ?_;rintro e w4 ⟨u,r⟩;replace r:=r.symm;subst r;unfold Tb at u;subst u;exact⟨rfl,rfl,g.o.fr⟩
   |true=>
    have q1:=Zc g.o.bx 1;obtain⟨xa,xc,ex,M0⟩:=MS S.o rfl;injection ex with N0 _ O0;subst N0 O0;have P0:=Za (MQ w3 na c.length nc c M0 rfl (by omega));go_wp2_with fail;refine P0.o.mono ?_;rintro e w4 ⟨rfl,r⟩;replace r:=r.symm;subst r
    cases o0:YN c with
    |false=>
     have x:N=I:=by rw[<-HN.o];unfold RX;rw[H1.o];simp only[H2.o,e0,o0];rfl
     subst x;go_wp2_with fail;refine(Wo _).mono ?_;rintro e w4 ⟨u,r⟩;replace r:=r.symm;subst r;unfold Tb at u;subst u;exact⟨rfl,rfl,g.o.fr⟩
    |true=>
     have c0:=Zc g.o.bx 0;have c1:=Zc g.o.bx 1;have Q0:=Za (JW w3 B s j f 1 255 ra rts.length rc na c.length nc g.o.rd V c0 c1 k0 F0 (by omega))
     have p0:E ((match YM s.data.toList 1 255 (U6 s.data.toList rts.length c.length) j with|none=>I|some (d,k)=>match Xw s.data.toList d.length 7 k with|none=>I|some (t,l)=>U ((⟨rts,c,d,t⟩:LK),l))=N):=by
      show _=_
      rw[<-HN.o];unfold RX;rw[H1.o];simp only[H2.o,e0,o0,Bool.and_self,if_true]
     go_wp2_with fail;refine(WP _).mono ?_;rintro e w4 ⟨rfl,r⟩;replace r:=r.symm;subst r;go_wp2_with fail;refine Q0.o.mono ?_;intro e w5 m
     cases h3:YM s.data.toList 1 255 (U6 s.data.toList rts.length c.length) j with
     |none=>
      rw[h3]at m;obtain⟨u,hf⟩:=m
      have x:N=I:=by rw[<-p0.o,h3]
      subst x;unfold Tb at u;subst u;exact⟨rfl,rfl,g.o.fr.trans (hf.mono (fun _ Q=>.inl Q))⟩
     |some p3=>
      obtain⟨d,k⟩:=p3;rw[h3]at m;obtain⟨⟨v,rfl,y⟩,R0,g0⟩:=m
      have r0:E ((match Xw s.data.toList d.length 7 k with|none=>I|some (t,l)=>U ((⟨rts,c,d,t⟩:LK),l))=N):=by show _=_;rw[<-p0.o,h3]
      have h0:d.length<=255:=by have:=(X8 (P:=fun _:List Zl=>True) (fun _ _ _ _=>trivial) h3).2.1;omega
      have y:=y.base L0;obtain⟨xs,S0,_⟩:=id y;obtain⟨pa,pc,e1⟩:=oL S0;subst e1;have i0:=Za (g.o.call R0 g0);have C:=Za (i0.o.set 2 (O pa d.length pc) rfl);have G:Fr (fun q=>q=f) w5 (w5.setCell ⟨f,2,I⟩ (O pa d.length pc)):=(Fr.refl (fun q=>q=f) w5).setCell (p:=⟨f,2,I⟩) (z4 rfl) _;have a1:=g.o.lB;have T0:=Za (y.fr G (fun q hq=>by omega));have s0:=Za (V7 (oF S.o g0 (fun q hq=>by omega)) n 2 (O pa d.length pc));have t0:=Za (V7 (oF n0.o g0 (fun q hq=>by omega)) n 2 (O pa d.length pc));have z0:=Zc i0.o.bx 2;have f0:=bF i0.o.bx 2;go_upto_region 5 with fail;generalize w5.setCell ⟨f,2,I⟩ (O pa d.length pc)=W5 at*;have V0:=Za (KG B s f d.length pa pc V h0 6 (by omega) W5 k C.o.rd (Zc C.o.bx 2));go_wp2_with fail;refine V0.o.mono ?_;intro e w6 m;unfold vL at m
      cases h4:Xw s.data.toList d.length 7 k with
      |none=>
       rw[h4]at m;obtain⟨u,hf⟩:=m
       have x:N=I:=by rw[<-r0.o,h4]
       subst x;unfold Tb at u;subst u;exact⟨rfl,rfl,C.o.fr.trans (hf.mono (fun _ Q=>.inl Q))⟩
      |some p4=>
       obtain⟨t,l⟩:=p4;rw[h4]at m;obtain⟨⟨v,rfl,a,b,rfl,K⟩,W0,M⟩:=m
       have x:N=U (⟨rts,c,d,t⟩,l):=by rw[<-r0.o,h4]
       subst x;have X0:=C.o.fr.size;have K:=Xf.low X0 _ _ K;obtain⟨ka,kb,rfl,rfl⟩:=Xf.form K;have F:=Za (C.o.call W0 M);have j0:=Za ((F.o.set 3 (J ka) rfl).set 4 (Y Z (kb:Nat)) rfl);have G:Fr (fun q=>q=f) w6 ((w6.setCell ⟨f,3,I⟩ (J ka)).setCell ⟨f,4,I⟩ (Y Z (kb:Nat))):=((Fr.refl (fun q=>q=f) w6).setCell (p:=⟨f,3,I⟩) (z4 rfl) _).setCell (p:=⟨f,4,I⟩) (z4 rfl) _;have Y0:=Za (K.keep' G (fun q hq=>by omega));have v0:=Za ((T0.o.fr M (fun q hq=>by omega)).fr G (fun q hq=>by omega));have w0:=Za (V7 (V7 (oF s0.o M (fun q hq=>by omega)) n 3 (J ka)) n 4 (Y Z (kb:Nat)));have T:=Za (V7 (V7 (oF t0.o M (fun q hq=>by omega)) n 3 (J ka)) n 4 (Y Z (kb:Nat)));have z0:=Zc F.o.bx 3;have z1:=Zc F.o.bx 4;have f0:=bF F.o.bx 3;have f1:=bF F.o.bx 4;go_wp2_with fail
       go_end0
       refine⟨rfl,j0.o.rd,⟨ra,rc,⟨⟨_,_,_,_,j0.o.bx,w0.o,v0.o,Y0.o⟩,oS T.o (by omega)⟩,T.o⟩,j0.o.fr⟩
