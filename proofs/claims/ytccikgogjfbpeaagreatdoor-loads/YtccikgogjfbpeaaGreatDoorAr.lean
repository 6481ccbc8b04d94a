import Derived.Test.YtccikgogjfbpeaaGreatDoorAq
import Derived.Lib.LaidTab
open Option renaming none->I,some->V
open Go.Value renaming pointer->J,int->Y,slice->U,string->D,bool->z3,agg->y3
open Go.IntKind renaming i64->Z,u32->x4,u8->x6,i64->x9,signed->q8,wrap->q9,bits->j0,u8->j1
open Go.Proofs.Tryz renaming prog->E
open Go.Obj renaming cells->H
open UInt8 renaming ofNat->G,toNat_ofNat'->z5
open Go.RowKit renaming Hid->R
open Go.Ending renaming returned->L
open Nat renaming add_assoc->A,le_refl->Q,xor_lt_two_pow->z8,mod_eq_of_lt->y7,zero_add->q7
open Or renaming inl->C,inr->y6
open Go renaming World->F,Calls->z7,Value->y2
open Go.AllReadyH renaming nil->z4
open List renaming range->z6,take_of_length_le->z9,map_id'->y4,getElem?_map->y5,getD->y8,length_map->y9,mem_range->x5,take_add_one->x7,append_assoc->x8,all_eq_true->q3,flatMap_def->q4,take_left'->q5,drop_left'->q6
namespace Go.Proofs.YtccikgogjfbpeaaGreatDoor
set_option maxRecDepth 30000
set_option maxHeartbeats 8000000
open Go.RowKit
def Re (w:F)(K:Nat)(ts:List Tr):Prop:=∃c:Array y2,w.heap[K]?=V (H c 248)/\c.size=20/\∀d t,ts[d]?=V t->∃a b,c[d*2]?=V a/\c[d*2+1]?=V b/\Xf w (K+1) t (y3 #[a,b])
theorem Re.fr {w w' K ts S}(h:Re w K ts)(c:Fr S w w')(e:∀k,K<=k->¬S k:=by simp):Re w' K ts:=by
 obtain⟨f,g,i,j⟩:=h;refine⟨f,c.whole g (e K (Q _)),i,fun d t l=>?_⟩;obtain⟨a,b,m,n,o⟩:=j d t l;exact⟨a,b,m,n,o.keep' c (fun k p=>e k (by omega))⟩
theorem Re.more {w K ts t a b}(h:Re w K ts)(z:ts.length<10)(i:Xf w (K+1) t (y3 #[a,b])):Re ((w.setCell ⟨K,ts.length*2,I⟩ a).setCell ⟨K,ts.length*2+1,I⟩ b) K (ts++[t]):=by
 obtain⟨A,j,l,m⟩:=h;have n:=heap_setCell_same w K (ts.length*2) _ _ a j;have o:=heap_setCell_same _ K (ts.length*2+1) _ _ b n;have g:=((Fr.refl (fun k=>k=K) w).setCell (p:=⟨K,ts.length*2,I⟩) (C rfl) a).setCell (p:=⟨K,ts.length*2+1,I⟩) (C rfl) b;refine⟨_,o,by simp[l],fun d u c=>?_⟩;by_cases e:d<ts.length
 ·rw[List.getElem?_append_left e]at c
  obtain⟨x,y,q,r,s⟩:=m d u c;refine⟨x,y,?_,?_,s.keep' g (fun k v=>by omega)⟩
  ·rw[Array.getElem?_setIfInBounds_ne (by omega),Array.getElem?_setIfInBounds_ne (by omega)];exact q
  rw[Array.getElem?_setIfInBounds_ne (by omega),Array.getElem?_setIfInBounds_ne (by omega)];exact r
 have f:d=ts.length:=by
  have:=(iG.1 c).1;simp at this;omega
 subst f;rw[aR (Q _),Nat.sub_self]at c;simp at c;subst c;refine⟨a,b,?_,?_,i.keep' g (fun k v=>by omega)⟩
 ·rw[Array.getElem?_setIfInBounds_ne (by omega),Array.getElem?_setIfInBounds_self_of_lt (by omega)]
 rw[Array.getElem?_setIfInBounds_self_of_lt (by simp;omega)]
def vV (w:F)(B:Nat)(s:ByteArray)(c:Nat)(r:Option (Tr×Nat)):Ending->F->Prop:=P2 w B s c r fun w' v t=>∃a b,v=y3 #[a,b]/\Xf w' w.heap.size t (y3 #[a,b])
theorem BC {b}{np f i j:Nat}(h:Y4 b 1 0 np i=V (0,j)):Xz b np (f+1) i=if f=0 then I else(YH (Xz b np f) [] 10 j).map fun p=>(Tr.node (fun d=>p.1.getD d (.leaf 0)),p.2):=by
 conv=>lhs;unfold Xz
 rw[h]
 dsimp only
 split
 ·rfl
 unfold YH
 cases WS (Xz b np f) 10 j<;>simp
theorem BD {b}{np f i x j:Nat}(h:Y4 b 1 0 np i=V (x+1,j)):Xz b np (f+1) i=V (.leaf x,j):=by
 conv=>lhs;unfold Xz
 rw[h]
theorem BE {b}{np f i:Nat}(h:Y4 b 1 0 np i=I):Xz b np (f+1) i=I:=by
 conv=>lhs;unfold Xz
 rw[h]
theorem Gs {w W B m d s t a b g h}(i:Yh W B s m d)(j:W.heap[w.heap.size]?=V (H #[g,h] 133))(l:Fr (fun k=>k=B) w W)(u:B<w.heap.size)(n:Xf W (w.heap.size+1) t (y3 #[a,b])){tm}(c:tm[4]?=V (J (V ⟨w.heap.size,0,I⟩))):
  bodyPost E Tryz.f127 (P2 w B s d (V (t,m)) fun w' v t=>∃a b,v=y3 #[a,b]/\Xf w' w.heap.size t (y3 #[a,b])) .ret ⟨tm,[]⟩ ((W.setCell ⟨w.heap.size,0,I⟩ a).setCell ⟨w.heap.size,1,I⟩ b):=by
 have o:=heap_setCell_same W w.heap.size 0 _ _ a j;have e:=heap_setCell_same _ w.heap.size 1 _ _ b o;have f:=((Fr.refl (fun k=>k=w.heap.size) W).setCell (p:=⟨w.heap.size,0,I⟩) (C rfl) a).setCell (p:=⟨w.heap.size,1,I⟩) (C rfl) b;have g1:=i.fr f (by show¬B=w.heap.size;omega);have g2:=n.keep' f (fun k x=>by omega);have g3:=(l.setCell (p:=⟨w.heap.size,0,I⟩) (y6 (Q _)) a).setCell (p:=⟨w.heap.size,1,I⟩) (y6 (Q _)) b;have q:=Zc e 0;have r:=Zc e 1;generalize(W.setCell ⟨w.heap.size,0,I⟩ a).setCell ⟨w.heap.size,1,I⟩ b=y at*;exact bodyPost_ret (v:=y3 #[a,b]) (by simp[results,Tryz.results127,go_sem,c,q,r]) rfl ⟨⟨_,rfl,a,b,rfl,Xf.low (by omega) _ _ g2⟩,g1,g3⟩
theorem MZ (B s c np pa)(pc f:Nat)(v0:c≠B)(a1:np<=255)(b1:f<=6)(IH:f≠0->R (∀w i,Yh w B s i c->w.cell? ⟨c,2,I⟩=V (U pa np pc)->z7 E 127 #[J (V ⟨B,0,I⟩),Y Z (7-(f:Int))] w (vV w B s c (Xz s.data.toList np f i))))(w i)(h:Yh w B s i c)(Q:w.cell? ⟨c,2,I⟩=V (U pa np pc)):
  z7 E 127 #[J (V ⟨B,0,I⟩),Y Z (6-(f:Int))] w (vV w B s c (Xz s.data.toList np (f+1) i)):=by
 obtain⟨T,X⟩:∃T,w.alloc (H #[J I,Y Z 0] 133)=T:=⟨_,rfl⟩;have f0:B<w.heap.size:=(iA.1 h.bx).1
 have A:R (F0 w T):=by show Fr _ _ _;rw[<-X];exact Zt.alloc _
 have w0:R (T.heap[w.heap.size]?=V (H #[J I,Y Z 0] 133)):=by show _=_;rw[<-X];exact aN w _
 have h0:=Za (h.fr A.o)
 have HT:R (∀W,Fr (fun k=>k=B) w W->W.cell? ⟨c,2,I⟩=V (U pa np pc)):=fun W hf=>(hf.cell (p:=⟨c,2,I⟩) (bL w _ Q) v0).trans Q
 obtain⟨N,hN⟩:∃N,Xz s.data.toList np (f+1) i=N:=⟨_,rfl⟩;rw[hN];have HN:=Za hN
 have c1:w.heap.size<T.heap.size:=by rw[<-X];simp
 have b2:=Zc h0.o.bx 2;have t2:=HT.o T (A.o.mono)
 have x0:R (f≠0->∀(w:F)(i:Nat),Yh w B s i c->w.cell? ⟨c,2,I⟩=V (U pa np pc)->z7 E 127 #[J (V ⟨B,0,I⟩),Y Z (7-(f:Int))] w (vV w B s c (Xz s.data.toList np f i))):=fun hf=>(IH hf).out
 unfold vV;go_enter Tryz.func127,Tryz.ntmps127;go_upto_region 1 with fail;go_wp2_with fail;refine(Z2 T B s i c 1 1 0 np h0.o (by decide) rfl).mono ?_;intro e n z
 cases h1:Y4 s.data.toList 1 0 np i with
 |none=>
  rw[h1]at z;obtain⟨O,hf⟩:=z
  have D:N=I:=by rw[<-HN.o];exact BE h1
  subst D;unfold Te at O;subst O;exact⟨rfl,rfl,(A.o.mono).trans hf⟩
 |some xj=>
  obtain⟨x,j⟩:=xj;rw[h1]at z;obtain⟨⟨v,rfl,rfl⟩,A0,a0⟩:=z
  have hx:x<=np:=by have:=(Yq h1).2;omega
  have i0:=Za A0;have b0:=Za ((A.o.mono).trans a0);have g:R (n.heap[w.heap.size]?=V (H #[J I,Y Z 0] 133)):=a0.whole w0.o (by show¬w.heap.size=B;omega)
  have hK:w.heap.size<n.heap.size:=by have:=a0.size;omega
  cases x with
  |succ y=>
   have D:N=V (.leaf y,j):=by rw[<-HN.o];exact BD h1
   subst D
   have hz:(((y+1:Nat):Int) !=0)=true:=by simp;omega
   have d1:x9.wrap (((y+1:Nat):Int)-1)=(y:Int):=by rw[IntWalk.i64_in _ (by constructor<;>omega)];omega
   have p0:=Zc g.o 0;have p1:=Zc g.o 1;have g0:=bF g.o 0;have g1:=bF g.o 1;go_wp2_with fail;exact Gs (t:=.leaf y) (a:=J I) (b:=Y Z (y:Nat)) i0.o g.o b0.o f0 rfl rfl
  |zero=>
   have j0:R ((if f=0 then I else(YH (Xz s.data.toList np f) [] 10 j).map fun p=>(Tr.node (fun d=>p.1.getD d (.leaf 0)),p.2))=N):=by show _=_;rw[<-HN.o];exact(BC h1).symm
   by_cases d0:f=0
   ·have B0:decide ((6-(f:Int))<6)=false:=by simp;omega
    have D:N=I:=by rw[<-j0.o,if_pos d0]
    subst D;go_wp2_with fail;refine(Wu _).mono ?_;rintro e w2 ⟨O,hw⟩;replace hw:=hw.symm;subst hw;unfold Te at O;subst O;exact⟨rfl,rfl,b0.o⟩
   have B0:(6-(f:Int))<6:=by omega
   have C0:R (((YH (Xz s.data.toList np f) [] 10 j).map fun p=>(Tr.node (fun d=>p.1.getD d (.leaf 0)),p.2))=N):=by show _=_;rw[<-j0.o,if_neg d0]
   have D0:=Za (x0.o d0)
   have f1:x9.wrap (6-(f:Int)+1)=7-(f:Int):=by rw[IntWalk.i64_in _ (by constructor<;>omega)];omega
   generalize Xz s.data.toList np f=one at*;go_wp2_with fail;refine(WT _).mono ?_;rintro e w2 ⟨rfl,hw⟩;replace hw:=hw.symm;subst hw;have e0:=(SE n (H #[J I,Y Z 0,J I,Y Z 0,J I,Y Z 0,J I,Y Z 0,J I,Y Z 0,J I,Y Z 0,J I,Y Z 0,J I,Y Z 0,J I,Y Z 0,J I,Y Z 0] 248) (H #[J (V ⟨n.heap.size,0,I⟩),Y Z 0] 133)).1;have E0:R (Re ((n.alloc (H #[J I,Y Z 0,J I,Y Z 0,J I,Y Z 0,J I,Y Z 0,J I,Y Z 0,J I,Y Z 0,J I,Y Z 0,J I,Y Z 0,J I,Y Z 0,J I,Y Z 0] 248)).alloc (H #[J (V ⟨n.heap.size,0,I⟩),Y Z 0] 133)) n.heap.size []):=⟨#[J I,Y Z 0,J I,Y Z 0,J I,Y Z 0,J I,Y Z 0,J I,Y Z 0,J I,Y Z 0,J I,Y Z 0,J I,Y Z 0,J I,Y Z 0,J I,Y Z 0],((Fr.refl (fun _=>False) _).alloc _).whole (aN n _),by simp,fun d t hd=>by simp at hd⟩;have HX:=(SE n (H #[J I,Y Z 0,J I,Y Z 0,J I,Y Z 0,J I,Y Z 0,J I,Y Z 0,J I,Y Z 0,J I,Y Z 0,J I,Y Z 0,J I,Y Z 0,J I,Y Z 0] 248) (H #[J (V ⟨n.heap.size,0,I⟩),Y Z 0] 133)).2.2;go_upto_region 6 with fail;generalize((n.alloc _).alloc _)=W2 at*;have G0:=Za (i0.o.fr e0.o);have H0:=Za (e0.o.whole g.o);have I0:=Za (b0.o.trans (e0.o.mono));generalize n.heap.size=K at*;go_wp2_with fail
   go_loopg [28] 10 (fun m kv wr=>∃(k:Nat)(ts:List Tr)(jj:Nat),k<=10/\m=10-k/\kv=Y Z (k:Nat)/\ts.length=k/\R (Yh wr B s jj c)/\R (Re wr K ts)/\R (wr.heap[K+1]?=V (H #[J (V ⟨K,0,I⟩),Y Z 0] 133))/\R (wr.heap[w.heap.size]?=V (H #[J I,Y Z 0] 133))/\R (((YH one ts (10-k) jj).map fun p=>(Tr.node (fun d=>p.1.getD d (.leaf 0)),p.2))=N)/\R (Fr (fun k=>k=B) w wr))
   case atStart=>exact⟨0,[],j,by omega,rfl,rfl,rfl,G0,E0,HX,H0,C0,I0⟩
   obtain⟨k,ts,jj,hk,rfl,rfl,k0,HR,HK,r,l,l0,G⟩:=hrel;by_cases i1:k<10
   ·have J0:(k:Int)<10:=by omega
    have m0:R (((YH one ts (10-(k+1)+1) jj).map fun p=>(Tr.node (fun d=>p.1.getD d (.leaf 0)),p.2))=N):=by show _=_;rw[show 10-(k+1)+1=10-k from by omega];exact l0.o
    have c0:=Zc r.o 0;go_wp2_with fail;have L:R (F0 wr wr.drew):=Zt.drew;refine wp_region_held_drew (S:=fun W=>W.cell? ⟨K+1,0,I⟩=V (J (V ⟨K,0,I⟩))) (by kernel_rfl) (by simpa using c0) (fun hH=>?_)
    iterate 6 (refine YP 0 hH ?_;try go_frame)
    refine ZY 7 hH ?_
    try go_frame
    refine Vy 6 (fun K2 hK=>?_);go_simp;refine(D0.o wr.drew jj (HR.o.fr L.o) (HT.o _ (G.o.trans (L.o.mono)))).mono ?_;intro e P z;unfold vV at z
    cases Q:one jj with
    |none=>
     rw[Q]at z;obtain⟨O,hf⟩:=z
     have D:N=I:=by rw[<-m0.o,UQ Q];rfl
     subst D;unfold Te at O;subst O;exact⟨rfl,rfl,(G.o.trans (L.o.mono)).trans hf⟩
    |some tj=>
     obtain⟨t,j3⟩:=tj;rw[Q]at z;obtain⟨⟨v,rfl,a,b,rfl,n0⟩,K0,L0⟩:=z
     have M0:R (((YH one (ts++[t]) (10-(k+1)) j3).map fun p=>(Tr.node (fun d=>p.1.getD d (.leaf 0)),p.2))=N):=by show _=_;rw[<-m0.o,UR Q]
     have f3:=(L.o.mono).trans L0;obtain⟨u,kb,rfl,rfl⟩:=Xf.form n0;have o0:R (P.heap[K+1]?=V (H #[J (V ⟨K,0,I⟩),Y Z 0] 133)):=f3.whole r.o (by show¬K+1=B;omega);have N0:R (P.heap[w.heap.size]?=V (H #[J I,Y Z 0] 133)):=f3.whole l.o (by show¬w.heap.size=B;omega);have r0:=Za (HK.o.fr f3 (fun k hk=>by omega));have O0:=Za (G.o.trans f3);have j1:K+1<wr.heap.size:=(iA.1 r.o).1;have P0:R (Xf P (K+1) t (y3 #[J u,Y Z (kb:Nat)])):=Xf.low (by show K+1<=wr.drew.heap.size;have:wr.drew.heap.size=wr.heap.size:=rfl;omega) _ _ n0;have Q0:=Za K0;have c3:=Zc o0.o 0;refine hK.out _ _ c3 (fun hH=>?_)
     try go_frame
     refine ZY 8 hH ?_
     try go_frame
     obtain⟨cs,M,l1,_⟩:=id r0.o;have y0:=bC M (k*2) _ (Array.getElem?_eq_getElem (by omega));have y1:=bC M (k*2+1) _ (Array.getElem?_eq_getElem (by omega));have z0:=bF M (k*2);have z1:=bF M (k*2+1);refine Vy 9 (fun K2 hK=>?_);go_simp;have hm:=r0.o.more (a:=J u) (b:=Y Z (kb:Nat)) (by omega) P0.o;rw[k0]at hm;have R0:=Za hm;have hS:Fr (fun q=>q=K) P ((P.setCell ⟨K,k*2,I⟩ (J u)).setCell ⟨K,k*2+1,I⟩ (Y Z (kb:Nat))):=((Fr.refl (fun q=>q=K) P).setCell (p:=⟨K,k*2,I⟩) (C rfl) _).setCell (p:=⟨K,k*2+1,I⟩) (C rfl) _;have S0:=Za (Q0.o.fr hS (by show¬B=K;omega));have s0:=Za (hS.whole o0.o (by show¬K+1=K;omega));have V0:=Za (hS.whole N0.o (by show¬w.heap.size=K;omega));have X0:R (Fr (fun k=>k=B) w ((P.setCell ⟨K,k*2,I⟩ (J u)).setCell ⟨K,k*2+1,I⟩ (Y Z (kb:Nat)))):=(O0.o.setCell (p:=⟨K,k*2,I⟩) (y6 (by show w.heap.size<=K;omega)) _).setCell (p:=⟨K,k*2+1,I⟩) (y6 (by show w.heap.size<=K;omega)) _;have c4:=Zc s0.o 0;refine hK.out _ _ c4 (fun _=>?_)
     try go_frame
     generalize(P.setCell ⟨K,k*2,I⟩ (J u)).setCell ⟨K,k*2+1,I⟩ (Y Z (kb:Nat))=W4 at*;refine wpAnyH_done (by kernel_rfl) ?_ _;go_wp2_with fail;go_roundg (10-(k+1))
     case measure=>omega
     exact⟨k+1,ts++[t],j3,by omega,rfl,by go_num,by simp[k0],S0,R0,s0,V0,M0,X0⟩
   have J0:¬(k:Int)<10:=by omega
   have Z0:k=10:=by omega
   have D:N=V (Tr.node (fun d=>ts.getD d (.leaf 0)),jj):=by
    rw[<-l0.o,show 10-k=0 from by omega,T0];rfl
   subst D
   have Y0:R (Xf wr (w.heap.size+1) (Tr.node (fun d=>ts.getD d (.leaf 0))) (y3 #[J (V ⟨K,0,I⟩),Y Z 0])):=by
    obtain⟨cs,k1,k2,k3⟩:=HK.o;refine⟨K,cs,rfl,by omega,k1,k2,fun d hd=>?_⟩
    have t0:d<ts.length:=by omega
    obtain⟨a,b,e1,e2,e3⟩:=k3 d ts[d] (gE t0);refine⟨a,b,e1,e2,?_⟩
    show Xf _ _ (ts.getD d (.leaf 0)) _
    rw[show ts.getD d (.leaf 0)=ts[d]from by simp[y8,t0]];exact Xf.low (by omega) _ _ e3
   have q0:=Zc r.o 0;have q1:=Zc r.o 1;have p0:=Zc l.o 0;have p1:=Zc l.o 1;have g0:=bF l.o 0;have g1:=bF l.o 1;go_wp2_with fail;exact Gs HR.o l.o G.o f0 Y0.o rfl
theorem KQ (B:Nat)(s:ByteArray)(a np:Nat)(g:Option Addr)(j:Nat)(b:a≠B)(c:np<=255):∀(f:Nat),f<=6->∀(w:F)(i:Nat),Yh w B s i a->w.cell? ⟨a,2,I⟩=V (U g np j)->z7 E 127 #[J (V ⟨B,0,I⟩),Y Z (6-(f:Int))] w (vV w B s a (Xz s.data.toList np (f+1) i))
 |0,hf,w,i,h,d=>MZ B s a np g j 0 b c hf (fun h=>absurd rfl h) w i h d
 | f+1,hf,w,i,h,d=>MZ B s a np g j (f+1) b c hf (fun _=>Za fun w i h d=>by
   have e:=KQ B s a np g j b c f (by omega) w i h d;rw[show(7-((f+1:Nat):Int))=6-(f:Int)from by omega]
   exact e) w i h d
theorem Gt {l}(h:∀(k:Nat) s,l[k]?=V s->UB s 0 l=(k:Int)):YO l=true:=by
 unfold YO;rw[q3];intro k _
 cases a:l[k]? with
 |none=>rfl
 |some s=>simpa using h k s a
theorem J5 {l}{k:Nat}{s}(a:l[k]?=V s)(h:¬UB s 0 l=(k:Int)):YO l=false:=by
 cases e:YO l with
 |false=>rfl
 |true=>
  have:=q3.1 e k (x5.2 (iG.1 a).1);rw[a]at this;exact absurd (by simpa using this) h
theorem M0 (w a n c l)(h:Yf w a l)(v:l.length=n)(H:n<=1000):
  z7 E 123 #[U a n c] w fun e w'=>e=L (z3 (YO l))/\w'=w:=by
 have C:R (∀s,z7 E 66 #[U a n c,D s] w fun e w'=>e=L (Y Z (UB s 0 l))/\w'=w):=fun s=>by
  have e:=Mr w a c l s h (by unfold maxLen;omega);rw[v]at e;exact e
 have F:=Za h;have x:=Za v;obtain⟨b,y⟩:∃b,YO l=b:=⟨_,rfl⟩;rw[y];have A:=Za y;go_enter Tryz.func123,Tryz.ntmps123;go_wp2_with fail
 go_loop [3,4,7] (fun _ _ i=>∃k:Nat,k<=n/\i=Y Z (k:Nat)/\R (∀(q:Nat) s,q<k->l[q]?=V s->UB s 0 l=(q:Int))) (fun _ _ i=>n-(intOf i).toNat)
 case atStart=>exact⟨0,by omega,rfl,fun q s h=>by omega⟩
 obtain⟨k,I,rfl,B⟩:=hrel;by_cases G:k<n
 ·have j:(k:Int)<(n:Int):=by omega
  obtain⟨s,m⟩:∃s,l[k]?=V s:=⟨_,gE (by have:=x.o;omega)⟩;obtain⟨g,o,rfl,J⟩:=F.o k s m;go_wp2_with fail;refine(C.o s).mono ?_;rintro e K ⟨rfl,p⟩;replace p:=p.symm;subst p;by_cases f:UB s 0 l=(k:Int)
  ·rw[f]
   have r:R (∀(q:Nat) s,q<k+1->l[q]?=V s->UB s 0 l=(q:Int)):=fun q t M d=>by
    by_cases e:q=k
    ·subst e;rw[m]at d;injection d with d;subst d;exact f
    exact B.o q t (by omega) d
   go_wp2_with fail;exact⟨⟨k+1,by omega,by go_num,r⟩,by simp[intOf];omega⟩
  have u:b=false:=by rw[<-A.o];exact J5 m f
  subst u
  have N:(UB s 0 l !=(k:Int))=true:=by simpa using f
  generalize UB s 0 l=z at*;go_wp2_with fail;go_ret;exact⟨rfl,rfl⟩
 have j:¬(k:Int)<(n:Int):=by omega
 have u:b=true:=by
  rw[<-A.o];exact Gt (fun q t d=>B.o q t (by have:=(iG.1 d).1;have:=x.o;omega) d)
 subst u;go_wp2_with fail;go_ret;exact⟨rfl,rfl⟩
def wG (w:F)(a:Option Addr)(l:List Zf):Prop:=∀k t,l[k]?=V t->∃g,a=V ⟨g,0,I⟩/\w.cell? ⟨g,k*3,I⟩=V (D t.name)/\w.cell? ⟨g,k*3+1,I⟩=V (Y Z (t.base:Nat))/\w.cell? ⟨g,k*3+2,I⟩=V (Y Z (t.rate:Nat))
theorem BF {w base d b rts}(h:w.ownsRow base 148 3 (U b rts.length d) rts.length (Yi rts)):wG w b rts:=fun k t c=>by
 have f:=(iG.1 c).1;obtain⟨g,cap,e,_,i,a⟩:=U0 h (by omega);injection e with e _ _;exact⟨g,e,a k t c⟩
theorem M3 (w a n c l)(h:wG w a l)(hl:l.length=n)(hn:n<=6):
  z7 E 124 #[U a n c] w fun e w'=>(∃v,e=L v/\w'.ownsRow w.heap.size 9 1 v n (WU (l.map Zf.name)))/\F0 w w':=by
 obtain⟨ij,u,x,y,z⟩:=info_parts Pp;have HS:=Za h;have K:=Za hl;obtain⟨M,N⟩:∃M,l.map Zf.name=M:=⟨_,rfl⟩;rw[N];have O:=Za N;go_enter Tryz.func124,Tryz.ntmps124;go_wp2_with fail
 go_loopg [3,8] n (fun m ov kv wr=>∃k:Nat,k<=n/\m=n-k/\kv=Y Z (k:Nat)/\R (wr.ownsRow w.heap.size 9 1 ov k (WU (M.take k)))/\R (F0 w wr))
 case atStart=>exact⟨0,by omega,rfl,rfl,oZ _ _ _ _,Zt⟩
 obtain⟨k,P,rfl,rfl,A,b⟩:=hrel;obtain⟨Q,S,s⟩:=oL A.o;subst s;by_cases a0:k<n
 ·have B:(k:Int)<(n:Int):=by omega
  obtain⟨t,T⟩:∃t,l[k]?=V t:=⟨_,gE (by have:=K.o;omega)⟩;obtain⟨g,rfl,W,d1,d2⟩:=HS.o k t T;have d:=bL w _ W;have e0:=(b.o.cell (p:=⟨g,k*3,I⟩) d).trans W;have e1:=(b.o.cell (p:=⟨g,k*3+1,I⟩) d).trans d1;have e2:=(b.o.cell (p:=⟨g,k*3+2,I⟩) d).trans d2
  have HT:R (WU (M.take (k+1))=WU (M.take k)++[D t.name]):=by show _=_;rw[x7,<-O.o,y5,T];simp[WU]
  have C:=(VA wr (H #[D t.name,Y Z (t.base:Nat),Y Z (t.rate:Nat)] 148)).2;have i:=Za (b.o.alloc (H #[D t.name,Y Z (t.base:Nat),Y Z (t.rate:Nat)] 148));have j:R ((wr.alloc (H #[D t.name,Y Z (t.base:Nat),Y Z (t.rate:Nat)] 148)).ownsRow w.heap.size 9 1 (U Q k S) k (WU (M.take k))):=A.o.alloc _;go_upto_region 5 with fail;generalize wr.alloc _=w2 at*;have x0:=Zc C.o 0;generalize wr.heap.size=X at*
  go_wp2_with (at_builtin;refine wpList_append_lies _ rfl (.tmp 12) (.tmp 15) 28 rfl w.heap.size 9 ij _ 1 16 Tryz.underlying28 u x y z rfl (by decide) (U Q k S) k (WU (M.take k)) rfl ?h1 ⟨w2.heap.size,0,I⟩ 1 1 [D t.name] rfl rfl ?h2 ?h3 (by decide) ?h4 ?h5 ?h6 _ rfl ?h7)
  case h1=>exact j.o.alloc _
  try case h2=>exact World.news_of_block (aN w2 (H #[D t.name] 9))
  case h3=>simp[Value.oneCell']
  case h4=>unfold maxLen;omega
  case h5=>omega
  case h6=>have:=i.o.size;simp;omega
  intro g2 q w8 r f b0 _;have F:R (F0 w w8):=(i.o.alloc _).grown f (fun k P=>y6 (j.o.lt k P).1)
  have G:R (w8.ownsRow w.heap.size 9 1 (U (V ⟨g2,0,I⟩) (k+1) q) (k+1) (WU (M.take (k+1)))):=by
   show World.ownsRow _ _ _ _ _ _ _
   rw[HT.o];exact r
  go_wp2_with fail;go_roundg (n-(k+1))
  case measure=>omega
  exact⟨k+1,by omega,rfl,by go_num,G,F⟩
 have B:¬(k:Int)<(n:Int):=by omega
 have ek:k=n:=by omega
 subst ek;have s:=A.o;rw[z9 (by rw[<-O.o,y9];have:=K.o;omega)]at s;have J:=Za s;go_wp2_with fail;go_ret;exact⟨⟨_,rfl,J.o⟩,b.o⟩
def R7 (b:List UInt8):Option (LR×Nat):=match YN b 0 6 (Vx b) 0 with
 |none=>I
 |some (rts,i)=>match YN b 0 8 (UG b) i with
  |none=>I
  |some (nms,j)=>if YO (rts.map Zf.name)&&YO nms then(match YN b 1 255 (Ta b rts.length nms.length) j with
   |none=>I
   |some (prs,k)=>match Xz b prs.length 7 k with
    |none=>I
    |some (t,l)=>V (⟨rts,nms,prs,t⟩,l))else I
theorem zT (b):OG b=match R7 b with|none=>I|some (t,l)=>if l=b.length then V t else I:=by
 unfold OG R7
 cases YN b 0 6 (Vx b) 0 with
 |none=>rfl
 |some p=>
  dsimp only
  cases YN b 0 8 (UG b) p.2 with
  |none=>rfl
  |some q=>
   dsimp only
   cases(YO (p.1.map Zf.name)&&YO q.1)with
   |false=>rfl
   |true=>
    simp only[if_true]
    cases YN b 1 255 (Ta b p.1.length q.1.length) q.2 with
    |none=>rfl
    |some r=>
     dsimp only
     cases Xz b r.1.length 7 r.2<;>rfl
structure yG (w wx:F)(B:Nat)(s:ByteArray)(j TT:Nat)(c0 c1 c2 c3 c4:y2):Prop where
 rd:Yh wx B s j TT
 bx:wx.heap[TT]?=V (H #[c0,c1,c2,c3,c4] 135)
 fr:Fr (fun k=>k=B\/k=TT) w wx
 lB:B<w.heap.size
 lT:TT<w.heap.size
 ne:TT≠B
theorem yG.call {w c a B j d b s e c1 f g i}(h:yG w c B s j b e c1 f g i)(m:Yh a B s d b)(l:Fr (fun k=>k=B) c a):yG w a B s d b e c1 f g i:=
 ⟨m,l.whole h.bx h.ne,h.fr.trans (l.mono (fun _ n=>.inl n)),h.lB,h.lT,h.ne⟩
theorem yG.look {w b c B j d s e c1 f g i}(h:yG w b B s j d e c1 f g i)(a:F0 b c):yG w c B s j d e c1 f g i:=
 ⟨h.rd.fr a,a.whole h.bx,h.fr.trans (a.mono),h.lB,h.lT,h.ne⟩
theorem yG.set {w c B j a s d c1 g i l m n q r t}(h:yG w c B s j a d c1 g i l)(o v)(e:(#[d,c1,g,i,l]:Array y2).setIfInBounds o v=#[m,n,q,r,t]):yG w (c.setCell ⟨a,o,I⟩ v) B s j a m n q r t:=by
 have f:=(Fr.refl (fun k=>k=a) c).setCell (p:=⟨a,o,I⟩) (C rfl) v;have b:=heap_setCell_same c a o _ _ v h.bx;rw[e]at b;exact⟨h.rd.fr f (fun e=>h.ne e.symm),b,h.fr.setCell (p:=⟨a,o,I⟩) (C (y6 rfl)) v,h.lB,h.lT,h.ne⟩
theorem Ua {w:F}{base a t z v n b}(h:w.ownsRow base t z v n b)(c:a<base)(o u):(w.setCell ⟨a,o,I⟩ u).ownsRow base t z v n b:=
 oF h ((Fr.refl (fun k=>k=a) w).setCell (p:=⟨a,o,I⟩) (C rfl) u) (fun _ d=>by omega)
theorem Pq.fr {base w w' v a S}(h:Pq base w v a)(b:Fr S w w')(c:∀k,S k->k<base:=by simp):Pq base w' v a:=by
 obtain⟨d,e,f⟩:=h;refine⟨d,oF e b c,fun j l g=>?_⟩;obtain⟨i,m,n⟩:=f j l g;exact⟨i,m,Rp n (Q _) b c⟩
theorem Pq.base {b a w v c}(h:Pq b w v c)(d:a<=b):Pq a w v c:=by
 obtain⟨e,f,g⟩:=h;refine⟨e,oS f d,fun j l i=>?_⟩;obtain⟨k,m,n⟩:=g j l i;exact⟨k,m,n.base d⟩
theorem M4 {w base v n l}(h:w.ownsRow base 9 1 v n (WU l))(m:l.length=n):∃a c,v=U a n c/\Yf w a l:=by
 obtain⟨a,c,e⟩:=oL h;subst e;refine⟨a,c,rfl,fun k s b=>?_⟩;have f:=(iG.1 b).1;obtain⟨g,cap,e,_,_⟩:=h.form (by omega);injection e with i o j;subst i j;have d:=h.cells (g:=g) rfl k (D s) (by simp[WU,b]);rw[Yd,q7]at d;exact⟨g,0,rfl,by rw[q7];exact d⟩
def Ez (a:Nat)(w:F)(d:Nat)(t:LR)(b:Option Addr)(c:Nat):Prop:=OV a w d t.rts b c t.nms t.prs t.root/\w.ownsRow a 148 3 (U b t.rts.length c) t.rts.length (Yi t.rts)
theorem Ez.fr {f w w' g t i l S}(h:Ez f w g t i l)(c:Fr S w w')(d:∀k,S k->k<f)(o:¬S g:=by simp):Ez f w' g t i l:=by
 obtain⟨p,q,a,b,r,s,⟨u,v,x⟩,y⟩:=h.1.bx;have n:=oF h.2 c d;refine⟨⟨⟨p,q,a,b,c.whole r o,oF s c d,⟨u,oF v c d,fun j m z=>?_⟩,y.keep' c (fun k D e=>by have:=d k e;omega)⟩,oS n (by omega)⟩,n⟩;obtain⟨A,B,C⟩:=x j m z;exact⟨A,B,Rp C (Q _) c d⟩
def sJ (w:F)(B:Nat)(s:ByteArray)(a:Nat)(r:Option (LR×Nat))(e:Ending)(w':F):Prop:=match r with
 |none=>e=Te/\Fr (fun k=>k=B\/k=a) w w'
 |some (t,l)=>e=L (.tuple #[])/\Yh w' B s l a/\(∃b c,Ez w.heap.size w' a t b c)/\Fr (fun k=>k=B\/k=a) w w'
theorem BG (w B s f)(h:Yh w B s 0 f)(hT:w.heap[f]?=V (H #[U I 0 0,U I 0 0,U I 0 0,J I,Y Z 0] 135))(T:f≠B):
  z7 E 77 #[J (V ⟨B,0,I⟩)] w (sJ w B s f (R7 s.data.toList)):=by
 have a1:∀(fn:Fn)(first cap:Array y2)(w:F),(Instr.makeFunc fn first cap).run E w=.ok (.func fn first cap) w:=fun _ _ _ _=>rfl
 have X:R (yG w w B s 0 f (U I 0 0) (U I 0 0) (U I 0 0) (J I) (Y Z 0)):=⟨h,hT,Zt,(iA.1 h.bx).1,(iA.1 hT).1,T⟩;have n:=X.o.lT;have b2:=Zc h.bx 2;have x0:=Za (LT w B s 0 f 0 6 (Vx s.data.toList) (fun _=>True) (fun _ _ _ _=>trivial) h trivial (by omega) (fun W i hR _=>Ew W B s i f hR));obtain⟨N,hN⟩:∃N,R7 s.data.toList=N:=⟨_,rfl⟩;rw[hN];have HN:=Za hN;go_enter Tryz.func77,Tryz.ntmps77;go_wp2_with fail;refine x0.o.mono ?_;intro e w1 m
 cases h1:YN s.data.toList 0 6 (Vx s.data.toList) 0 with
 |none=>
  rw[h1]at m;obtain⟨u,hf⟩:=m
  have x:N=I:=by rw[<-HN.o];unfold R7;rw[h1]
  subst x;unfold Te at u;subst u;exact⟨rfl,rfl,X.o.fr.trans (hf.mono (fun _ M=>.inl M))⟩
 |some p1=>
  obtain⟨rts,i⟩:=p1;rw[h1]at m;obtain⟨⟨v,rfl,y⟩,y0,A0⟩:=m;have H1:=Za h1
  have k0:rts.length<=6:=by have:=(Wg (P:=fun _:Zf=>True) (fun _ _ _ _=>trivial) h1).2.1;omega
  obtain⟨ra,rc,e1⟩:=oL y;subst e1;have a0:=Za (X.o.call y0 A0);have z:=Za (a0.o.set 0 (U ra rts.length rc) rfl);have B0:=Za (Ua y n 0 (U ra rts.length rc));have z0:=Zc a0.o.bx 0;have f0:=bF a0.o.bx 0;go_upto_region 2 with fail;generalize w1.setCell ⟨f,0,I⟩ (U ra rts.length rc)=W1 at*;have C0:=Za (Gp W1 B s i f 0 8 (UG s.data.toList) (fun _=>True) (fun _ _ _ _=>trivial) z.o.rd trivial (by omega) (fun W i hR _=>KO W B s i f hR));have D0:=z.o.fr.size;go_wp2_with fail;refine C0.o.mono ?_;intro e w2 m
  cases h2:YN s.data.toList 0 8 (UG s.data.toList) i with
  |none=>
   rw[h2]at m;obtain⟨u,hf⟩:=m
   have x:N=I:=by rw[<-HN.o];unfold R7;rw[H1.o];simp only[h2]
   subst x;unfold Te at u;subst u;exact⟨rfl,rfl,z.o.fr.trans (hf.mono (fun _ M=>.inl M))⟩
  |some p2=>
   obtain⟨c,j⟩:=p2;rw[h2]at m;obtain⟨⟨v,rfl,y⟩,E0,l0⟩:=m;have H2:=Za h2
   have F0:c.length<=8:=by have:=(Wg (P:=fun _:ByteArray=>True) (fun _ _ _ _=>trivial) h2).2.1;omega
   have y:=oS y D0;obtain⟨na,nc,e1⟩:=oL y;subst e1;have b0:=Za (z.o.call E0 l0);have m0:=Za (b0.o.set 1 (U na c.length nc) rfl);have G0:=Za (Ua y n 1 (U na c.length nc));have O:=Za (Ua (oF B0.o l0 (fun k M=>by have:=z.o.lB;omega)) n 1 (U na c.length nc));have z0:=Zc b0.o.bx 1;have f0:=bF b0.o.bx 1;go_upto_region 3 with fail;generalize w2.setCell ⟨f,1,I⟩ (U na c.length nc)=W2 at*;have q0:=Zc m0.o.bx 0;have H0:=Za (M3 W2 ra rts.length rc rts (BF O.o) rfl k0);go_wp2_with fail;refine H0.o.mono ?_;rintro e w3 ⟨⟨v,rfl,I0⟩,d0⟩;obtain⟨va,vc,rfl,J0⟩:=M4 I0 (by rw[y9]);have K0:=Za (M0 w3 va rts.length vc (rts.map Zf.name) J0 (by rw[y9]) (by omega));have g:=Za (m0.o.look d0);have Q:=Za (oF G0.o d0);have n0:=Za (oF O.o d0);have L0:=g.o.fr.size;go_wp2_with fail;refine K0.o.mono ?_;rintro e w4 ⟨rfl,r⟩;replace r:=r.symm;subst r
   cases e0:YO (rts.map Zf.name)with
   |false=>
    have x:N=I:=by rw[<-HN.o];unfold R7;rw[H1.o];simp only[H2.o,e0];rfl
    subst x;go_wp2_with fail;refine(Wu _).mono ?_;rintro e w4 ⟨u,r⟩;replace r:=r.symm;subst r;unfold Te at u;subst u;exact⟨rfl,rfl,g.o.fr⟩
   |true=>
    have q1:=Zc g.o.bx 1;obtain⟨xa,xc,ex,N0⟩:=M4 Q.o rfl;injection ex with O0 _ P0;subst O0 P0;have Q0:=Za (M0 w3 na c.length nc c N0 rfl (by omega));go_wp2_with fail;refine Q0.o.mono ?_;rintro e w4 ⟨rfl,r⟩;replace r:=r.symm;subst r
    cases o0:YO c with
    |false=>
     have x:N=I:=by rw[<-HN.o];unfold R7;rw[H1.o];simp only[H2.o,e0,o0];rfl
     subst x;go_wp2_with fail;refine(Wu _).mono ?_;rintro e w4 ⟨u,r⟩;replace r:=r.symm;subst r;unfold Te at u;subst u;exact⟨rfl,rfl,g.o.fr⟩
    |true=>
     have c0:=Zc g.o.bx 0;have c1:=Zc g.o.bx 1;have R0:=Za (J4 w3 B s j f 1 255 ra rts.length rc na c.length nc g.o.rd T c0 c1 k0 F0 (by omega))
     have p0:R ((match YN s.data.toList 1 255 (Ta s.data.toList rts.length c.length) j with|none=>I|some (d,k)=>match Xz s.data.toList d.length 7 k with|none=>I|some (t,l)=>V ((⟨rts,c,d,t⟩:LR),l))=N):=by
      show _=_
      rw[<-HN.o];unfold R7;rw[H1.o];simp only[H2.o,e0,o0,Bool.and_self,if_true]
     go_wp2_with fail;refine(WT _).mono ?_;rintro e w4 ⟨rfl,r⟩;replace r:=r.symm;subst r;go_wp2_with fail;refine R0.o.mono ?_;intro e w5 m
     cases h3:YN s.data.toList 1 255 (Ta s.data.toList rts.length c.length) j with
     |none=>
      rw[h3]at m;obtain⟨u,hf⟩:=m
      have x:N=I:=by rw[<-p0.o,h3]
      subst x;unfold Te at u;subst u;exact⟨rfl,rfl,g.o.fr.trans (hf.mono (fun _ M=>.inl M))⟩
     |some p3=>
      obtain⟨d,k⟩:=p3;rw[h3]at m;obtain⟨⟨v,rfl,y⟩,S0,g0⟩:=m
      have r0:R ((match Xz s.data.toList d.length 7 k with|none=>I|some (t,l)=>V ((⟨rts,c,d,t⟩:LR),l))=N):=by show _=_;rw[<-p0.o,h3]
      have h0:d.length<=255:=by have:=(Wg (P:=fun _:List Zl=>True) (fun _ _ _ _=>trivial) h3).2.1;omega
      have y:=y.base L0;obtain⟨xs,T0,_⟩:=id y;obtain⟨pa,pc,e1⟩:=oL T0;subst e1;have i0:=Za (g.o.call S0 g0);have A:=Za (i0.o.set 2 (U pa d.length pc) rfl);have G:Fr (fun q=>q=f) w5 (w5.setCell ⟨f,2,I⟩ (U pa d.length pc)):=(Fr.refl (fun q=>q=f) w5).setCell (p:=⟨f,2,I⟩) (C rfl) _;have b1:=g.o.lB;have V0:=Za (y.fr G (fun q hq=>by omega));have s0:=Za (Ua (oF Q.o g0 (fun q hq=>by omega)) n 2 (U pa d.length pc));have t0:=Za (Ua (oF n0.o g0 (fun q hq=>by omega)) n 2 (U pa d.length pc));have z0:=Zc i0.o.bx 2;have f0:=bF i0.o.bx 2;go_upto_region 5 with fail;generalize w5.setCell ⟨f,2,I⟩ (U pa d.length pc)=W5 at*;have W0:=Za (KQ B s f d.length pa pc T h0 6 (by omega) W5 k A.o.rd (Zc A.o.bx 2));go_wp2_with fail;refine W0.o.mono ?_;intro e w6 m;unfold vV at m
      cases h4:Xz s.data.toList d.length 7 k with
      |none=>
       rw[h4]at m;obtain⟨u,hf⟩:=m
       have x:N=I:=by rw[<-r0.o,h4]
       subst x;unfold Te at u;subst u;exact⟨rfl,rfl,A.o.fr.trans (hf.mono (fun _ M=>.inl M))⟩
      |some p4=>
       obtain⟨t,l⟩:=p4;rw[h4]at m;obtain⟨⟨v,rfl,a,b,rfl,K⟩,X0,L⟩:=m
       have x:N=V (⟨rts,c,d,t⟩,l):=by rw[<-r0.o,h4]
       subst x;have Y0:=A.o.fr.size;have K:=Xf.low Y0 _ _ K;obtain⟨ka,kb,rfl,rfl⟩:=Xf.form K;have D:=Za (A.o.call X0 L);have j0:=Za ((D.o.set 3 (J ka) rfl).set 4 (Y Z (kb:Nat)) rfl);have G:Fr (fun q=>q=f) w6 ((w6.setCell ⟨f,3,I⟩ (J ka)).setCell ⟨f,4,I⟩ (Y Z (kb:Nat))):=((Fr.refl (fun q=>q=f) w6).setCell (p:=⟨f,3,I⟩) (C rfl) _).setCell (p:=⟨f,4,I⟩) (C rfl) _;have Z0:=Za (K.keep' G (fun q hq=>by omega));have v0:=Za ((V0.o.fr L (fun q hq=>by omega)).fr G (fun q hq=>by omega));have w0:=Za (Ua (Ua (oF s0.o L (fun q hq=>by omega)) n 3 (J ka)) n 4 (Y Z (kb:Nat)));have S:=Za (Ua (Ua (oF t0.o L (fun q hq=>by omega)) n 3 (J ka)) n 4 (Y Z (kb:Nat)));have z0:=Zc D.o.bx 3;have z1:=Zc D.o.bx 4;have f0:=bF D.o.bx 3;have f1:=bF D.o.bx 4;go_wp2_with fail
       go_end0
       refine⟨rfl,j0.o.rd,⟨ra,rc,⟨⟨_,_,_,_,j0.o.bx,w0.o,v0.o,Z0.o⟩,oS S.o (by omega)⟩,S.o⟩,j0.o.fr⟩
def zU:List Int:=MT.map fun(n:Nat)=>(n:Int)
def LU (w:F):Prop:=Lib.TabIs E w "junction/seal.halves" .u32 zU
theorem LU.fr {w w'}(h:LU w)(a:F0 w w'):LU w':=Lib.tabBelow_of_tabIs h w' (a.below (Q _))
theorem uB:E.globalNamed "junction/seal.halves" =V 0:=by kernel_rfl
theorem LU.cell {w}(h:LU w)(i)(hi:i<16):w.cell? ⟨0,i,I⟩=V (Y .u32 ((MT.getD i 0:Nat):Int)):=by
 have e:=Lib.TabIs.cell h uB i (by simpa[zU,MT]using hi);rw[e]
 congr 2
 unfold zU;rw[y8,y5,y8]
 cases MT[i]?<;>rfl
theorem Un (a b:Nat)(e:a<4294967296)(f:b<4294967296):bits .xor .u32 (a:Int) (b:Int)=((a^^^b:Nat):Int):=by
 have g:a^^^b<2^32:=z8 (by omega) (by omega)
 have c:(BitVec.ofInt 32 (a:Int)).toNat=a:=by
  rw[BitVec.ofInt_natCast,BitVec.toNat_ofNat];exact y7 (by omega)
 have d:(BitVec.ofInt 32 (b:Int)).toNat=b:=by
  rw[BitVec.ofInt_natCast,BitVec.toNat_ofNat];exact y7 (by omega)
 show x4.wrap ((BitVec.ofInt 32 (a:Int)^^^BitVec.ofInt 32 (b:Int)).toNat:Int)=_
 rw[BitVec.toNat_xor,c,d];exact IntWalk.u32_in _ (by constructor<;>omega)
theorem SC (a:Nat)(c:a<4294967296):bits .and .u32 (a:Int) 15=((a % 16:Nat):Int):=by
 have b:(BitVec.ofInt 32 (a:Int)).toNat=a:=by
  rw[BitVec.ofInt_natCast,BitVec.toNat_ofNat];exact y7 (by omega)
 show x4.wrap ((BitVec.ofInt 32 (a:Int)&&& BitVec.ofInt 32 15).toNat:Int)=_
 rw[BitVec.toNat_and,b,show(BitVec.ofInt 32 15).toNat=2^4-1 from by decide,Nat.and_two_pow_sub_one_eq_mod];exact IntWalk.u32_in _ (by constructor<;>omega)
theorem zV:∀(l:List UInt8){r:Nat},r<4294967296->B3 r l<4294967296
 |[],_,h=>h
 |c::l,r,h=>zV l (DH 8 (z8 (n:=32) h (by have:c.toNat<256:=c.toNat_lt;omega)))
theorem zW (l c):∀r,B3 r (l++[c])=tn 8 (B3 r l^^^c.toNat):=by
 induction l with
 |nil=>intro r;rfl
 |cons d l a=>intro r;exact a _
theorem xL (i)(hi:i<16):MT.getD i 0<4294967296:=by
 have:i=0\/i=1\/i=2\/i=3\/i=4\/i=5\/i=6\/i=7\/i=8\/i=9\/i=10\/i=11\/i=12\/i=13\/i=14\/i=15:=by omega
 rcases this with h|h|h|h|h|h|h|h|h|h|h|h|h|h|h|h<;>rw[h]<;>decide
theorem KR {W}(h:LU W)(y)(a:y<4294967296):∃v:Nat,W.cell? ⟨0,y % 16,I⟩=V (Y .u32 (v:Nat))/\bits .xor .u32 ((y:Int)/16) (v:Int)=((tn 4 y:Nat):Int):=by
 refine⟨MT.getD (y % 16) 0,h.cell _ (by omega),?_⟩;rw[show((y:Int)/16)=((y/16:Nat):Int)from by simp,Un _ _ (by omega) (xL _ (by omega)),xI]
def Qx (l:List UInt8):Nat:=4294967295^^^B3 4294967295 l
theorem Gu (s w)(hs:s.size<=200000)(C:LU w):
  z7 E 118 #[D s] w fun e w'=>e=L (Y .u32 (Qx s.data.toList:Nat))/\F0 w w':=by
 have p:=fun w=>Lib.run_convert_string_bytes (P:=E) w 9 50 5 s Tryz.underlying9 Tryz.underlying50 Tryz.underlying5
 have F:=Za C;obtain⟨l,h⟩:∃l,s.data.toList=l:=⟨_,rfl⟩;have N:=Za h
 have O:l.length=s.size:=by rw[<-h];simp
 rw[h];clear h;clear C;go_enter Tryz.func118,Tryz.ntmps118;go_wp2_with fail;have G:R (F0 w (Lib.bytesWorld w 5 s)):=Wn _ _ _;have f:=Za (F.o.fr G.o)
 have a:∀j,j<s.size->(Lib.bytesWorld w 5 s).cell? ⟨w.heap.size,j,I⟩=V (Y x6 (ZD s j)):=fun j Q=>by
  have:=Lib.bytesWorld_cell w 5 s j Q
  simpa[ZD]using this
 have S:=Za a;clear a p F;generalize Lib.bytesWorld w 5 s=W at*;generalize grownCap _ _ _ _=cap at*
 go_loop [3,5,9] (fun T _ i=>∃(k r:Nat),k<=s.size/\i=Y Z k/\T=Y .u32 (r:Nat)/\r<4294967296/\R (r=B3 4294967295 (l.take k))) (fun _ _ i=>s.size-(intOf i).toNat)
 case atStart=>exact⟨0,4294967295,Nat.zero_le _,rfl,rfl,by omega,rfl⟩
 obtain⟨k,r,hk,rfl,rfl,H,m⟩:=hrel;by_cases t:k<s.size
 ·have U:=S.o k t
  have u:(k:Int)<(s.size:Int):=by omega
  obtain⟨c,b⟩:∃c,l[k]?=V c:=⟨_,gE (by omega)⟩
  have g:ZD s k=(c.toNat:Int):=by unfold ZD;rw[N.o];simp[y8,b]
  rw[g]at U;have X:=c.toNat_lt
  have J:R (B3 4294967295 (l.take (k+1))=tn 8 (r^^^c.toNat)):=by
   show _=_
   rw[x7,b,m.o];exact zW _ _ _
  generalize c.toNat=v at*;have x1:=Un r v H (by omega);have d:r^^^v<4294967296:=z8 (n:=32) (by omega) (by omega);generalize r^^^v=y at*;have a1:=SC y d;obtain⟨v1,c1,x2⟩:=KR f.o y d;have x:=DH 4 d;have K:=Za (Er 4 4 y);generalize tn 4 y=z at*;have a2:=SC z x;obtain⟨v2,c2,x3⟩:=KR f.o z x;have A:=DH 4 x
  have B:R (tn 4 z=B3 4294967295 (l.take (k+1))):=by show _=_;rw[J.o,K.o]
  generalize tn 4 z=z2 at*
  have m1:((y:Int)% 16)<16:=by omega
  have m2:((z:Int)% 16)<16:=by omega
  have m3:0<=((y:Int)% 16):=by omega
  have m4:0<=((z:Int)% 16):=by omega
  clear b g J K m;go_wp2_with fail;exact⟨⟨k+1,z2,by omega,by go_num,rfl,A,B⟩,by simp[intOf];omega⟩
 have u:¬(k:Int)<(s.size:Int):=by omega
 have M:r=B3 4294967295 l:=by rw[m.o,z9 (by omega)]
 have x1:bits .xor .u32 x4.max (r:Int)=((4294967295^^^r:Nat):Int):=Un 4294967295 r (by omega) H
 have HS:R (4294967295^^^r=Qx l):=by show _=_;rw[M];rfl
 clear M m;generalize 4294967295^^^r=q at*;go_wp2_with fail;go_ret;rw[HS.o];exact⟨rfl,G.o⟩
def XA (n:Nat):List UInt8:=[G n,G (n/256),G (n/65536),G (n/16777216)]
theorem Rx (n w)(k:n<4294967296):
  z7 E 117 #[Y .u32 (n:Nat)] w fun e w'=>e=L (D ⟨(XA n).toArray⟩)/\F0 w w':=by
 have f:∀x:Nat,j1.wrap (x:Int)=(((G x).toNat:Nat):Int):=fun x=>by
  rw[z5];simp[q9,j0,q8]
 have w0:=f n
 have l:(n:Int)/256 % 256=(((G (n/256)).toNat:Nat):Int):=by rw[z5];omega
 have w2:(n:Int)/65536 % 256=(((G (n/65536)).toNat:Nat):Int):=by rw[z5];omega
 have m:(n:Int)/16777216=(((G (n/16777216)).toNat:Nat):Int):=by rw[z5];omega
 have g:R (XA n=[G n,G (n/256),G (n/65536),G (n/16777216)]):=rfl;generalize XA n=p at*;generalize G n=a at*;generalize G (n/256)=b at*;generalize G (n/65536)=c at*;generalize G (n/16777216)=d at*
 have h:(convert 50 9 (U (V ⟨w.heap.size,0,I⟩) 4 4)).run E (w.alloc (H #[Y x6 (a.toNat:Nat),Y x6 (b.toNat:Nat),Y x6 (c.toNat:Nat),Y x6 (d.toNat:Nat)] 5))=.ok (D ⟨#[a,b,c,d]⟩) (w.alloc (H #[Y x6 (a.toNat:Nat),Y x6 (b.toNat:Nat),Y x6 (c.toNat:Nat),Y x6 (d.toNat:Nat)] 5)):=by
  have e:=run_convert_bytes_back (P:=E) (w.alloc (H #[Y x6 (a.toNat:Nat),Y x6 (b.toNat:Nat),Y x6 (c.toNat:Nat),Y x6 (d.toNat:Nat)] 5)) 50 9 5 ⟨w.heap.size,0,I⟩ 4 [a,b,c,d] Tryz.underlying50 Tryz.underlying5 Tryz.underlying9 (by
   intro j i
   have:j=0\/j=1\/j=2\/j=3:=by simp at i;omega
   rcases this with rfl|rfl|rfl|rfl<;>rw[Yd]<;>exact bC (aN w _) _ _ rfl)
  simpa using e
 clear f;go_enter Tryz.func117,Tryz.ntmps117;go_wp2_with fail;go_ret;rw[g.o];exact⟨rfl,Zt.alloc _⟩
def Rf (l:List UInt8):Option (List UInt8):=if 8<=l.length/\l.length<=200000 then(if l.take 4=XA l.length/\l.drop (l.length-4)=XA (Qx (l.take (l.length-4)))then V ((l.take (l.length-4)).drop 4)else I)else I
def zX:Option (List UInt8)->y2
 |none=>.tuple #[D ⟨#[]⟩,z3 false]
 |some l=>.tuple #[D ⟨l.toArray⟩,z3 true]
theorem KS (a:ByteArray)(l):(a.toList==(⟨l.toArray⟩:ByteArray).toList)=decide (a.data.toList=l):=by
 rw[ByteArray.toList_eq,ByteArray.toList_eq];by_cases h:a.data.toList=l
 ·simp[h]
 simp[h]
theorem DJ (l):Qx l<4294967296:=z8 (n:=32) (by omega) (zV l (by omega))
theorem Pr (s:ByteArray)(i j):(s.extract i j).data.toList=(s.data.toList.take j).drop i:=by
 rw[ByteArray.data_extract,Array.toList_extract];simp[List.extract_eq_take_drop,List.drop_take]
theorem BH (s w)(hs:s.size<=9223372036854775807)(a:LU w):
  z7 E 75 #[D s] w fun e w'=>e=L (zX (Rf s.data.toList))/\F0 w w':=by
 have M:=Za a
 have g:s.data.toList.length=s.size:=by simp
 obtain⟨O,q⟩:∃O,Rf s.data.toList=O:=⟨_,rfl⟩;rw[q];have N:x9.wrap ((s.size:Int)-4)=(s.size:Int)-4:=IntWalk.i64_in _ (by constructor<;>omega);by_cases P:8<=s.size
 ·by_cases Q:s.size<=200000
  ·have u:(if s.data.toList.take 4=XA s.size/\s.data.toList.drop (s.size-4)=XA (Qx (s.data.toList.take (s.size-4)))then V ((s.data.toList.take (s.size-4)).drop 4)else I)=O:=by
    rw[<-q];unfold Rf;rw[g,if_pos (show 8<=s.size/\s.size<=200000 from⟨P,Q⟩)]
   have r:=Za u
   have F:¬(s.size:Int)-4<4:=by omega
   have T:¬(200000:Int)<(s.size:Int):=by omega
   obtain⟨en,x⟩:∃en,s.size-4=en:=⟨_,rfl⟩
   have U:(s.size:Int)-4=(en:Int):=by omega
   have X:en<=s.size:=by omega
   have l4:(4:Int)<=(s.size:Int):=by omega
   have l5:(en:Int)<=(s.size:Int):=by omega
   have l6:(4:Int)<=(en:Int):=by omega
   have hu:x4.wrap (s.size:Int)=(s.size:Int):=IntWalk.u32_in _ (by constructor<;>omega);rw[x]at r;have i:R (F0 w w.drew):=Zt.drew
   have y:R ((s.extract 0 4).data.toList=s.data.toList.take 4):=by show _=_;rw[Pr];simp
   have z:R ((s.extract en s.size).data.toList=s.data.toList.drop en):=by show _=_;rw[Pr,z9 (by omega)]
   have A:R ((s.extract 0 en).data.toList=s.data.toList.take en):=by show _=_;rw[Pr];simp
   have j:R (∀W,z7 E 117 #[Y .u32 (s.size:Nat)] W fun e w'=>e=L (D ⟨(XA s.size).toArray⟩)/\F0 W w'):=fun W=>Rx s.size W (by omega)
   have n:R (∀W,F0 w W->z7 E 118 #[D (s.extract 0 en)] W fun e w'=>e=L (Y .u32 (Qx (s.data.toList.take en):Nat))/\F0 W w'):=fun W b=>by
    have e:=Gu (s.extract 0 en) W (by rw[ByteArray.size_extract];omega) (M.o.fr b);rw[A.o]at e;exact e
   have p:R (∀W,z7 E 117 #[Y .u32 (Qx (s.data.toList.take en):Nat)] W fun e w'=>e=L (D ⟨(XA (Qx (s.data.toList.take en))).toArray⟩)/\F0 W w'):=fun W=>Rx _ W (DJ _)
   have B:=KS (s.extract 0 4) (XA s.size);have C:=KS (s.extract en s.size) (XA (Qx (s.data.toList.take en)));rw[y.o]at B;rw[z.o]at C;generalize Qx (s.data.toList.take en)=G at*;generalize(⟨(XA s.size).toArray⟩:ByteArray)=H at*;generalize(⟨(XA G).toArray⟩:ByteArray)=J at*;by_cases c1:s.data.toList.take 4=XA s.size
   ·have Z:((s.extract 0 4).toList==H.toList)=true:=by rw[B];simpa using c1
    by_cases t:s.data.toList.drop en=XA G
    ·have e2:((s.extract en s.size).toList==J.toList)=true:=by rw[C];simpa using t
     have f:O=V ((s.data.toList.take en).drop 4):=by rw[<-r.o,if_pos ⟨c1,t⟩]
     subst f;go_enter Tryz.func75,Tryz.ntmps75;go_wp2_with fail;refine wp_region_held_drew (S:=fun _=>True) (by kernel_rfl) trivial (fun a=>?_)
     iterate 5 (refine YP 0 a ?_;try go_frame)
     refine XC [5] ?_;refine Zb rfl (fun m d=>?_) z4
     try rw[if_pos (by rfl)]
     go_simp;refine(j.o _).mono ?_;rintro e K ⟨rfl,b⟩;have c:=Za (i.o.trans b);refine d.out _ _ trivial (fun a=>?_)
     try go_frame
     iterate 8 (refine YP 0 a ?_;try go_frame)
     refine XC [14] ?_;refine Zb rfl (fun m d=>?_) z4
     try rw[if_pos (by rfl)]
     go_simp;refine(n.o _ c.o).mono ?_;rintro e wb ⟨rfl,b⟩;have k:=Za (c.o.trans b);refine d.out _ _ trivial (fun a=>?_)
     try go_frame
     refine XC [15] ?_;refine Zb rfl (fun m d=>?_) z4
     try rw[if_pos (by rfl)]
     go_simp;refine(p.o _).mono ?_;rintro e wc ⟨rfl,b⟩;have l:=Za (k.o.trans b);refine d.out _ _ trivial (fun a=>?_)
     try go_frame
     iterate 2 (refine YP 0 a ?_;try go_frame)
     refine wpAnyH_done (by kernel_rfl) ?_ _;go_wp2_with fail;refine bodyPost_ret (v:=.tuple #[D (s.extract 4 en),z3 true]) (by simp[results,Tryz.results75,go_sem]) rfl ⟨?_,l.o⟩
     have ee:s.extract 4 en=⟨((s.data.toList.take en).drop 4).toArray⟩:=by
      apply ByteArray.ext;apply Array.toList_inj.1;rw[Pr]
     rw[ee];rfl
    have e2:((s.extract en s.size).toList==J.toList)=false:=by rw[C];simpa using t
    have f:O=I:=by rw[<-r.o,if_neg (fun h=>t h.2)]
    subst f;go_enter Tryz.func75,Tryz.ntmps75;go_wp2_with fail;refine wp_region_held_drew (S:=fun _=>True) (by kernel_rfl) trivial (fun a=>?_)
    iterate 5 (refine YP 0 a ?_;try go_frame)
    refine XC [5] ?_;refine Zb rfl (fun m d=>?_) z4
    try rw[if_pos (by rfl)]
    go_simp;refine(j.o _).mono ?_;rintro e K ⟨rfl,b⟩;have c:=Za (i.o.trans b);refine d.out _ _ trivial (fun a=>?_)
    try go_frame
    iterate 8 (refine YP 0 a ?_;try go_frame)
    refine XC [14] ?_;refine Zb rfl (fun m d=>?_) z4
    try rw[if_pos (by rfl)]
    go_simp;refine(n.o _ c.o).mono ?_;rintro e wb ⟨rfl,b⟩;have k:=Za (c.o.trans b);refine d.out _ _ trivial (fun a=>?_)
    try go_frame
    refine XC [15] ?_;refine Zb rfl (fun m d=>?_) z4
    try rw[if_pos (by rfl)]
    go_simp;refine(p.o _).mono ?_;rintro e wc ⟨rfl,b⟩;have l:=Za (k.o.trans b);refine d.out _ _ trivial (fun a=>?_)
    try go_frame
    iterate 2 (refine YP 0 a ?_;try go_frame)
    refine wpAnyH_done (by kernel_rfl) ?_ _;go_wp2_with fail;exact bodyPost_ret (v:=.tuple #[D ⟨#[]⟩,z3 false]) (by simp[results,Tryz.results75,go_sem]) rfl ⟨rfl,l.o⟩
   have Z:((s.extract 0 4).toList==H.toList)=false:=by rw[B];simpa using c1
   have f:O=I:=by rw[<-r.o,if_neg (fun h=>c1 h.1)]
   subst f;go_enter Tryz.func75,Tryz.ntmps75;go_wp2_with fail;refine wp_region_held_drew (S:=fun _=>True) (by kernel_rfl) trivial (fun a=>?_)
   iterate 5 (refine YP 0 a ?_;try go_frame)
   refine XC [5] ?_;refine Zb rfl (fun m d=>?_) z4
   try rw[if_pos (by rfl)]
   go_simp;refine(j.o _).mono ?_;rintro e K ⟨rfl,b⟩;have c:=Za (i.o.trans b);refine d.out _ _ trivial (fun a=>?_)
   try go_frame
   iterate 2 (refine YP 0 a ?_;try go_frame)
   refine Va 8 rfl (by kernel_rfl) (by kernel_rfl) (by kernel_rfl) (fun _ _ _ h=>h) rfl a ?_
   try go_frame
   refine Va 9 rfl (by kernel_rfl) (by kernel_rfl) (by kernel_rfl) (fun _ _ _ h=>h) rfl a ?_
   try go_frame
   refine Va 10 rfl (by kernel_rfl) (by kernel_rfl) (by kernel_rfl) (fun _ _ _ h=>h) rfl a ?_
   try go_frame
   refine Va 11 rfl (by kernel_rfl) (by kernel_rfl) (by kernel_rfl) (fun _ _ _ h=>h) rfl a ?_
   try go_frame
   refine Va 12 rfl (by kernel_rfl) (by kernel_rfl) (by kernel_rfl) (fun _ _ _ h=>h) rfl a ?_
   try go_frame
   refine Va 13 rfl (by kernel_rfl) (by kernel_rfl) (by kernel_rfl) (fun _ _ _ h=>h) rfl a ?_
   try go_frame
   refine Va 14 rfl (by kernel_rfl) (by kernel_rfl) (by kernel_rfl) (fun _ _ _ h=>h) rfl a ?_
   try go_frame
   refine Va 15 rfl (by kernel_rfl) (by kernel_rfl) (by kernel_rfl) (fun _ _ _ h=>h) rfl a ?_
   try go_frame
   refine Va 16 rfl (by kernel_rfl) (by kernel_rfl) (by kernel_rfl) (fun _ _ _ h=>h) rfl a ?_
   try go_frame
   refine ZY 17 a ?_
   try go_frame
   refine wpAnyH_done (by kernel_rfl) ?_ _;go_wp2_with fail;exact bodyPost_ret (v:=.tuple #[D ⟨#[]⟩,z3 false]) (by simp[results,Tryz.results75,go_sem]) rfl ⟨rfl,c.o⟩
  have f:O=I:=by rw[<-q];unfold Rf;rw[g,if_neg (by omega)]
  subst f
  have T:(200000:Int)<(s.size:Int):=by omega
  have F:¬(s.size:Int)-4<4:=by omega
  go_enter Tryz.func75,Tryz.ntmps75;go_wp2_with fail;exact bodyPost_ret (v:=.tuple #[D ⟨#[]⟩,z3 false]) (by simp[results,Tryz.results75,go_sem]) rfl ⟨rfl,Zt⟩
 have f:O=I:=by rw[<-q];unfold Rf;rw[g,if_neg (by omega)]
 subst f
 have F:decide ((s.size:Int)-4<4)=true:=by simp;omega
 go_enter Tryz.func75,Tryz.ntmps75;go_wp2_with fail;exact bodyPost_ret (v:=.tuple #[D ⟨#[]⟩,z3 false]) (by simp[results,Tryz.results75,go_sem]) rfl ⟨rfl,Zt⟩
def R8 (l:List UInt8):Option LR:=match Rf l with
 |none=>I
 |some b=>OG b
def sK (w:F)(r:Option LR)(e:Ending)(w':F):Prop:=match r with
 |none=>e=Te/\F0 w w'
 |some t=>(∃b a c d,e=L (J (V ⟨a,0,I⟩))/\w.heap.size<=a/\a<=b/\Ez b w' a t c d)/\F0 w w'
theorem BI (s w)(hs:s.size<=9223372036854775807)(z:LU w):
  z7 E 42 #[D s] w (sK w (R8 s.data.toList)):=by
 have HO:=Za (BH s w hs z);obtain⟨N,A⟩:∃N,R8 s.data.toList=N:=⟨_,rfl⟩;rw[A];unfold R8 at A
 have HB:R (∀b,Rf s.data.toList=V b->b.length<=200000):=fun b c=>by
  unfold Rf at c
  split at c
  ·split at c
   ·injection c with c
    rw[<-c,List.length_drop,List.length_take];omega
   cases c
  cases c
 have HN:=Za A;go_enter Tryz.func42,Tryz.ntmps42;go_wp2_with fail;refine HO.o.mono ?_;rintro e a ⟨rfl,B⟩;have g:=Za B
 cases C:Rf s.data.toList with
 |none=>
  have h:N=I:=by rw[<-HN.o,C]
  subst h;rw[show zX I=.tuple #[D ⟨#[]⟩,z3 false]from rfl];go_wp2_with fail;refine(Wu _).mono ?_;rintro e w2 ⟨f,i⟩;replace i:=i.symm;subst i;unfold Te at f;subst f;exact⟨rfl,rfl,g.o⟩
 |some b=>
  have c:=HB.o b C
  have F:R (OG b=N):=by show _=_;rw[<-HN.o,C]
  rw[show zX (V b)=.tuple #[D ⟨b.toArray⟩,z3 true]from rfl];obtain⟨S,G⟩:∃S:ByteArray,(⟨b.toArray⟩:ByteArray)=S:=⟨_,rfl⟩
  have m:S.data.toList=b:=by rw[<-G]
  have K:S.size<=200000:=by rw[<-G];exact c
  rw[G];obtain⟨M,n,_⟩:=SE a (H #[U I 0 0,U I 0 0,U I 0 0,J I,Y Z 0] 135) (H #[D S,Y Z 0,J (V ⟨a.heap.size,0,I⟩)] 158)
  have O:R (Yh ((a.alloc (H #[U I 0 0,U I 0 0,U I 0 0,J I,Y Z 0] 135)).alloc (H #[D S,Y Z 0,J (V ⟨a.heap.size,0,I⟩)] 158)) (a.heap.size+1) S 0 a.heap.size):=by
   have e:=aN (a.alloc (H #[U I 0 0,U I 0 0,U I 0 0,J I,Y Z 0] 135)) (H #[D S,Y Z 0,J (V ⟨a.heap.size,0,I⟩)] 158);rw[show(a.alloc (H #[U I 0 0,U I 0 0,U I 0 0,J I,Y Z 0] 135)).heap.size=a.heap.size+1 from by simp]at e;exact⟨e,by omega,K⟩
  go_wp2_with fail;refine(WT _).mono ?_;rintro e w2 ⟨rfl,i⟩;replace i:=i.symm;subst i;go_upto_region 4 with fail;generalize(a.alloc _).alloc _=W2 at*;have P:=g.o.size;generalize a.heap.size=j at*;have p:=Za (BG W2 (j+1) S j O.o n.o (by omega));rw[m]at p;have q:=Za (g.o.trans M.o);have T:R (j<=W2.heap.size):=Nat.le_of_lt (iA.1 n.o).1;go_wp2_with fail;refine p.o.mono ?_;intro e w3 x;have r:=Za ((zT b).symm.trans F.o)
  cases y:R7 b with
  |none=>
   rw[y]at x;obtain⟨f,hf⟩:=x
   have h:N=I:=by rw[<-r.o,y]
   subst h;unfold Te at f;subst f;exact⟨rfl,rfl,q.o.monoNew hf (fun k hk=>.inr (by omega))⟩
  |some tl=>
   obtain⟨t,l⟩:=tl;rw[y]at x;obtain⟨rfl,d,⟨ra,rc,X⟩,a0⟩:=x;have d0:=Za d;have b0:=Za X;have u:=Za (q.o.monoNew a0 (fun k hk=>.inr (by omega)))
   have v:R ((if l=b.length then V t else I)=N):=by show _=_;rw[<-r.o,y]
   have e0:b.length=S.size:=by rw[<-m];simp
   have c0:=Zc d.bx 0;have c1:=Zc d.bx 1;have c2:=Zc d.bx 2;by_cases hl:l=b.length
   ·have h:N=V t:=by rw[<-v.o,if_pos hl]
    subst h
    have hd:((l:Int)==(S.size:Int))=true:=by simp;omega
    have HI:R (∀W,z7 E 76 #[z3 true] W fun e w'=>e=L (.tuple #[])/\w'=W):=fun W=>WT W
    go_wp2_with fail
    go_quiet ((go_at_call 76;exact Calls.quiet_of_same (HI.o _)))
    go_wp2_with fail;go_ret;exact⟨⟨_,j,ra,rc,rfl,P,T.o,b0.o.fr (S:=fun _=>False) ⟨rfl,rfl,rfl,Q _,fun _ _ _=>rfl⟩ (by simp)⟩,u.o.trans ⟨rfl,rfl,rfl,Q _,fun _ _ _=>rfl⟩⟩
   have h:N=I:=by rw[<-v.o,if_neg hl]
   subst h
   have hd:((l:Int)==(S.size:Int))=false:=by simp;omega
   go_wp2_with fail;refine wp_region_held_drew (S:=fun W=>W.cell? ⟨j+1,0,I⟩=V (D S)/\W.cell? ⟨j+1,1,I⟩=V (Y Z (l:Nat))) (by kernel_rfl) ⟨by simpa using c0,by simpa using c1⟩ (fun z=>?_)
   iterate 10 (refine YP 0 z ?_;try go_frame)
   refine Vy 10 (fun K2 hK=>?_);go_simp;refine(Wu _).mono ?_;rintro e w4 ⟨f,rfl⟩;unfold Te at f;subst f;exact⟨rfl,rfl,u.o.drew⟩
theorem P4 (a b v0 v1 w)(i:w.cell? ⟨a,0,I⟩=V v0)(k:w.cell? ⟨b,0,I⟩=V v1)(t:w.frozen? ⟨a,0,I⟩=false)(z:w.frozen? ⟨b,0,I⟩=false)(d:¬a=b)(f:¬b=a):
  CallsD E 41 #[J (V ⟨a,0,I⟩),J (V ⟨b,0,I⟩)] (.panicking [{v:=.iface 223 (y3 #[]),recovered:=false}]) w fun e m w'=>
   e=L (.tuple #[])/\m=.panicking [{v:=.iface 223 (y3 #[]),recovered:=true}]/\w'.cell? ⟨a,0,I⟩=V (J I)/\w'.cell? ⟨b,0,I⟩=V (z3 false)/\Fr (fun j=>j=a\/j=b) w w':=by
 refine callsD_of_wpS Tryz.func41 rfl fun n q r=>?_
 have s:(#[J (V ⟨a,0,I⟩),J (V ⟨b,0,I⟩)]++Array.replicate (Tryz.f41.ntmps-(#[J (V ⟨a,0,I⟩),J (V ⟨b,0,I⟩)]:Array y2).size) undef:Array y2)=#[J (V ⟨a,0,I⟩),J (V ⟨b,0,I⟩),undef,undef]:=by
  rw[Tryz.ntmps41];rfl
 rw[s];refine On (v:=.iface 223 (y3 #[])) (cs':={n with mode:=.panicking [{v:=.iface 223 (y3 #[]),recovered:=true}]}::q) (w':=w) (o:=?o) (l:=?l) ?ho ?hw ?hx ?hr ?hno ?main
 case ho=>rfl
 case hw=>kernel_rfl
 case hx=>rfl
 case hr=>simp only[recoverD,r]
 case hno=>intro a w g;obtain⟨u,g,_⟩:=g;cases g
 show wpList E _ _ _ {tmps:=#[J (V ⟨a,0,I⟩),J (V ⟨b,0,I⟩),.iface 223 (y3 #[]),undef],defers:=[]} w
 go_wp2
 have c:∀(v:F)(x y:Nat)(u:y2),¬x=y->(v.setCell ⟨x,0,I⟩ u).cell? ⟨y,0,I⟩=v.cell? ⟨y,0,I⟩:=fun v x y u h=>cO _ _ _ _ (fun e=>h (by injection e))
 refine⟨rfl,_,rfl,.tuple #[],results_none rfl _ _ _,rfl,rfl,?_,?_,?_⟩
 ·exact(c _ b a _ f).trans (cS _ _ _ i)
 ·exact cS _ _ _ ((c _ a b _ d).trans k)
 exact(Zt.setCell (p:=⟨a,0,I⟩) (C (C rfl)) _).setCell (p:=⟨b,0,I⟩) (C (y6 rfl)) _
theorem Gv (a b w):
  CallsD E 41 #[J (V ⟨a,0,I⟩),J (V ⟨b,0,I⟩)] .returning w fun e f w'=>e=L (.tuple #[])/\f=.returning/\F0 w w':=by
 refine callsD_of_wpS Tryz.func41 rfl fun i j d=>?_
 have g:(#[J (V ⟨a,0,I⟩),J (V ⟨b,0,I⟩)]++Array.replicate (Tryz.f41.ntmps-(#[J (V ⟨a,0,I⟩),J (V ⟨b,0,I⟩)]:Array y2).size) undef:Array y2)=#[J (V ⟨a,0,I⟩),J (V ⟨b,0,I⟩),undef,undef]:=by
  rw[Tryz.ntmps41];rfl
 rw[g];refine QY (w':=w) (o:=?o) (l:=?l) ?ho ?hw ?hx ?hr ?hno ?main
 case ho=>rfl
 case hw=>kernel_rfl
 case hx=>rfl
 case hr=>simp only[recoverD,d]
 case hno=>intro a w c;obtain⟨u,c,_⟩:=c;cases c
 show wpList E _ _ _ {tmps:=#[J (V ⟨a,0,I⟩),J (V ⟨b,0,I⟩),.nilIface,undef],defers:=[]} w
 have h:=Za d;go_wp2;exact⟨rfl,.returning,by rw[<-h.o],.tuple #[],results_none rfl _ _ _,rfl,rfl,Zt⟩
def sM (w:F)(r:Option LR)(e:Ending)(w':F):Prop:=match r with
 |none=>e=L (.tuple #[J I,z3 false])/\F0 w w'
 |some t=>(∃T b c a d f,e=L (.tuple #[J (V ⟨T,0,I⟩),z3 true])/\w'.cell? ⟨T,0,I⟩=V (J (V ⟨b,0,I⟩))/\w'.cell? ⟨T,1,I⟩=V (J (V ⟨a,0,I⟩))/\w'.heap[b]?=V (H #[U I 0 0,U I 0 0] 89)/\Ez c w' a t d f/\w.heap.size<=a/\a<=c/\w.heap.size<=T/\w.heap.size<=b)/\F0 w w'
theorem zY (s w)(hs:s.size<=9223372036854775807)(hH:LU w):z7 E 24 #[D s] w (sM w (R8 s.data.toList)):=by
 have b0:∀(fn:Fn)(first cap:Array y2)(w:F),(Instr.makeFunc fn first cap).run E w=.ok (.func fn first cap) w:=fun _ _ _ _=>rfl
 obtain⟨N,hN⟩:∃N,R8 s.data.toList=N:=⟨_,rfl⟩
 have X:=fun W (c:F0 w W)=>BI s W hs (hH.fr c)
 rw[hN]at X ⊢;have A:=Za X;obtain⟨B,q0,q1,q2⟩:=Ac w (H #[J I] 31) (H #[z3 false] 4) (H #[U I 0 0,U I 0 0] 89);have d:=Za B;have g:=Za q0;have i:=Za q1;have n:=Za q2
 go_enter_defers Tryz.func24,Tryz.ntmps24
 go_wp2_with fail;refine(A.o _ d.o).mono ?_;intro e b Y;generalize((w.alloc _).alloc _).alloc _=w0 at*
 cases N with
 |none=>
  obtain⟨Z,c⟩:=Y;unfold Te at Z;subst Z;refine leaves_cons (f:=41) (args:=#[J (V ⟨w.heap.size,0,I⟩),J (V ⟨w.heap.size+1,0,I⟩)]) (by simp) (by simp[go_sem]) ?_;refine(P4 w.heap.size (w.heap.size+1) _ _ b (bC (c.whole g.o) 0 _ rfl) (bC (c.whole i.o) 0 _ rfl) (bF (c.whole g.o) 0) (bF (c.whole i.o) 0) (by omega) (by omega)).mono ?_;rintro e u' w2 ⟨rfl,rfl,G,K,a⟩;have hB:=(d.o.trans c).monoNew a (fun k hk=>.inr (by omega));simp[Leaves,settle,results,Tryz.results24,go_sem,G,K];exact⟨rfl,hB⟩
 |some t=>
  obtain⟨⟨zb,m,ra,rc,rfl,L,M,O⟩,c⟩:=Y;have e0:w.heap.size+1+1<w0.heap.size:=(iA.1 n.o).1;have P:=Za O;have q:=Za c;have l:=c.alloc (H #[J (V ⟨w.heap.size+1+1,0,I⟩),J (V ⟨m,0,I⟩)] 80);have c0:=bC (l.whole g.o) 0 _ rfl;have c1:=bC (l.whole i.o) 0 _ rfl;have z0:=bF (l.whole g.o) 0;have z1:=bF (l.whole i.o) 0;have f0:w.heap.size+1+1<b.heap.size:=nL (iA.1 n.o).1 c.size;go_wp2_with fail
  have r:∀(v:F)(x y o:Nat)(u:y2),¬x=y->(v.setCell ⟨x,0,I⟩ u).cell? ⟨y,o,I⟩=v.cell? ⟨y,o,I⟩:=fun v x y o u h=>cO _ _ _ _ (fun e=>h (by injection e))
  have Q:=aN b (H #[J (V ⟨w.heap.size+1+1,0,I⟩),J (V ⟨m,0,I⟩)] 80);have z:Fr (fun j=>j=w.heap.size\/j=w.heap.size+1) (b.alloc (H #[J (V ⟨w.heap.size+1+1,0,I⟩),J (V ⟨m,0,I⟩)] 80)) (((b.alloc (H #[J (V ⟨w.heap.size+1+1,0,I⟩),J (V ⟨m,0,I⟩)] 80)).setCell ⟨w.heap.size,0,I⟩ (J (V ⟨b.heap.size,0,I⟩))).setCell ⟨w.heap.size+1,0,I⟩ (z3 true)):=(Zt.setCell (p:=⟨w.heap.size,0,I⟩) (C (C rfl)) _).setCell (p:=⟨w.heap.size+1,0,I⟩) (C (y6 rfl)) _;have d0:=(r _ (w.heap.size+1) w.heap.size 0 (z3 true) (by omega)).trans (cS _ _ (J (V ⟨b.heap.size,0,I⟩)) c0);have d1:=cS _ _ (z3 true) ((r _ w.heap.size (w.heap.size+1) 0 (J (V ⟨b.heap.size,0,I⟩)) (by omega)).trans c1);have bT:=z.whole Q (by show¬(b.heap.size=w.heap.size\/b.heap.size=w.heap.size+1);omega);have R:=(Lt b (H #[J (V ⟨w.heap.size+1+1,0,I⟩),J (V ⟨m,0,I⟩)] 80)).1;have bB:=z.whole (R.whole (q.o.whole n.o)) (by show¬(w.heap.size+1+1=w.heap.size\/w.heap.size+1+1=w.heap.size+1);omega);have S:=(P.o.fr R (by simp)).fr z (fun k hk=>by omega) (by show¬(m=w.heap.size\/m=w.heap.size+1);omega);have T:=((d.o.trans q.o).trans R).monoNew z (fun k hk=>.inr (by omega));generalize((b.alloc _).setCell ⟨w.heap.size,0,I⟩ (J (V ⟨b.heap.size,0,I⟩))).setCell ⟨w.heap.size+1,0,I⟩ (z3 true)=W at*;refine leaves_cons (f:=41) (args:=#[J (V ⟨w.heap.size,0,I⟩),J (V ⟨w.heap.size+1,0,I⟩)]) (by simp) (by simp[go_sem]) ?_;refine(Gv w.heap.size (w.heap.size+1) W).mono ?_;rintro e u' w3 ⟨rfl,rfl,a⟩;have G:=(a.cell (p:=⟨w.heap.size,0,I⟩) (bL W _ d0)).trans d0;have K:=(a.cell (p:=⟨w.heap.size+1,0,I⟩) (bL W _ d1)).trans d1
  have eT:=a.whole bT;simp[Leaves,settle,results,Tryz.results24,go_sem,G,K];exact⟨⟨_,_,zb,m,ra,rc,rfl,Zc eT 0,Zc eT 1,a.whole bB,S.fr a (by simp),Nat.le_trans d.o.size L,M,(d.o.trans q.o).size,by omega⟩,T.trans a⟩
theorem uC {t:LR}(h:t.Ok):zm t.rts t.nms t.prs t.root:=by
 refine⟨fun r c=>?_,h.r6,fun s a=>?_,fun l d=>?_,h.dp⟩
 ·have:=h.rt r c
  exact⟨by omega,by omega,by omega⟩
 ·have:=h.nm s a
  omega
 obtain⟨e,f,b,g⟩:=h.pr l d
 exact⟨by omega,fun s a _=>⟨by have:=(b s a).nl;omega,(b s a).sk,(b s a).am⟩⟩
def ZA:Nat->Nat->List UInt8
 |0,_=>[]
 |k+1,n=>G n::ZA k (n/256)
theorem Zi:∀k n,(ZA k n).length=k
 |0,_=>rfl
 |k+1,n=>by simp[ZA,Zi k]
theorem Gw:∀k n,n<256^k->Pv (ZA k n)=n
 |0,n,h=>by simp[ZA,Pv]at*;omega
 |k+1,n,h=>by
  simp only[ZA,Pv,z5];rw[Gw k (n/256) (by rw[Nat.pow_succ]at h;omega)];omega
theorem Gx:∀k n i,i<k->(ZA k n)[i]?=V (G (n/2^(8*i)))
 |k+1,n,0,_=>by simp[ZA]
 |k+1,n,i+1,h=>by
  simp only[ZA,List.getElem?_cons_succ];rw[Gx k (n/256) i (by omega),Nat.div_div_eq_div_mul,show 8*(i+1)=8+8*i from by omega,Nat.pow_add]
def WD (s:ByteArray):List UInt8:=ZA 1 s.size++s.data.toList
def WV (r:Zf):List UInt8:=WD r.name++(ZA 4 r.base++ZA 4 r.rate)
def Tw (l:List Nat):List UInt8:=ZA 1 l.length++l.flatMap (ZA 2)
def Y1 (s:Zl):List UInt8:=ZA 1 s.sort++(if s.sort=0\/s.sort=2 then ZA 1 s.skip++Tw s.nums else if s.sort=1 then ZA 1 s.skip++(ZA 4 (s.nums.getD 0 0)++ZA 4 (s.nums.getD 1 0))else if s.sort=3 then ZA 1 s.rule else if s.sort=4\/s.sort=5 then ZA 1 s.rule++Tw s.nums else[])
def Tb (l:List Zl):List UInt8:=ZA 1 l.length++l.flatMap Y1
def Tr.wr:Tr->List UInt8
 | .leaf p=>ZA 1 (1+p)
 | .node k=>ZA 1 0++(z6 10).flatMap fun d=>(k d).wr
def XH (t:LR):List UInt8:=(ZA 1 t.rts.length++t.rts.flatMap WV)++((ZA 1 t.nms.length++t.nms.flatMap WD)++((ZA 1 t.prs.length++t.prs.flatMap Tb)++t.root.wr))
def Tr.norm:Tr->Tr
 | .leaf p=>.leaf p
 | .node k=>.node fun d=>((z6 10).map fun d=>(k d).norm).getD d (.leaf 0)
theorem DK {α}(f)(a:α){d}(h:d<10):((z6 10).map f).getD d a=f d:=by
 rw[y8,y5,List.getElem?_range h];rfl
theorem KT {dg:Nat->Nat}(a:∀n,dg n<10):∀(t:Tr)(n:Nat),t.norm.find dg n=t.find dg n
 | .leaf _,_=>rfl
 | .node k,n=>by
  show(((z6 10).map fun d=>(k d).norm).getD (dg n) (.leaf 0)).find dg (n+1)=(k (dg n)).find dg (n+1)
  rw[DK (fun d=>(k d).norm) _ (a n)];exact KT a (k (dg n)) (n+1)
theorem DL:∀(t:Tr),t.norm.wr=t.wr
 | .leaf _=>rfl
 | .node k=>by
  show ZA 1 0++(z6 10).flatMap (fun d=>(((z6 10).map fun d=>(k d).norm).getD d (.leaf 0)).wr)=ZA 1 0++(z6 10).flatMap fun d=>(k d).wr
  congr 1
  rw[q4,q4]
  congr 1
  refine List.map_congr_left fun d a=>?_
  rw[DK (fun d=>(k d).norm) _ (x5.1 a)];exact DL (k d)
def KU (b:List UInt8)(i:Nat)(l:List UInt8):Prop:=∃p r,b=p++(l++r)/\p.length=i
theorem KU.left {b i l m}(h:KU b i (l++m)):KU b i l:=by
 obtain⟨p,r,e,a⟩:=h;exact⟨p,m++r,by rw[e,x8],a⟩
theorem KU.right {b i l m}(h:KU b i (l++m)):KU b (i+l.length) m:=by
 obtain⟨p,r,e,a⟩:=h;exact⟨p++l,r,by rw[e];simp,by simp[a]⟩
theorem Gy {b i l n}(h:KU b i l)(a:l.length=n):R6 b n i=V (l,i+n):=by
 obtain⟨p,r,e,c⟩:=h;subst a c;unfold R6;rw[if_pos (by rw[e];simp),e];simp
theorem Xk {b i k n}{lo hi:Int}(h:KU b i (ZA k n))(a:n<256^k)(c:lo<=n)(d:(n:Int)<=hi):Y4 b k lo hi i=V (n,i+k):=by
 unfold Y4;rw[Gy h (Zi k n)]
 dsimp only
 rw[Gw k n a,if_pos ⟨c,d⟩]
theorem P5 {α β:Type}{b:List UInt8}{one:Rd β}{W:α->List UInt8}{f:α->β}:∀(l:List α)(i:Nat),(∀x,x∈l->∀i,KU b i (W x)->one i=V (f x,i+(W x).length))->KU b i (l.flatMap W)->WS one l.length i=V (l.map f,i+(l.flatMap W).length)
 |[],i,_,_=>by simp[WS]
 |x::l,i,ho,h=>by
  rw[List.flatMap_cons]at h;simp only[List.length_cons,WS];rw[ho x (by simp) i h.left]
  dsimp only
  rw[P5 l _ (fun y a=>ho y (by simp[a])) h.right];simp[A]
theorem Rg {α β b}{one:Rd β}{W f}{lo hi:Int}{l:List α}{i:Nat}(a:∀x,x∈l->∀i,KU b i (W x)->one i=V (f x,i+(W x).length))(h:KU b i (ZA 1 l.length++l.flatMap W))(g:l.length<=255)(c:lo<=l.length)(d:(l.length:Int)<=hi):
  YN b lo hi one i=V (l.map f,i+(ZA 1 l.length++l.flatMap W).length):=by
 unfold YN;rw[Xk h.left (by omega) c d]
 dsimp only
 have e:=h.right;rw[Zi]at e;rw[P5 l _ a e,lA,Zi,A]
theorem M5 {s}(h:WC s=true):1<=s.size/\s.size<=8:=by
 unfold WC at h;simp only[Bool.and_eq_true,decide_eq_true_eq]at h;exact⟨h.1,h.2.1⟩
theorem Gz {b i s}(a:WC s=true)(h:KU b i (WD s)):UG b i=V (s,i+(WD s).length):=by
 have c:=M5 a;unfold UG;rw[Xk h.left (by omega) (by omega) (by omega)]
 dsimp only
 have e:=h.right;rw[Zi]at e;rw[Gy e (by simp)]
 dsimp only
 rw[show(⟨s.data.toList.toArray⟩:ByteArray)=s from by rw[Array.toArray_toList],if_pos a];simp[WD,Zi,A]
theorem BJ {b i r}(a:WC r.name=true/\r.base<=1000000/\r.rate<=1000)(h:KU b i (WV r)):Vx b i=V (r,i+(WV r).length):=by
 unfold Vx;rw[Gz a.1 h.left]
 dsimp only
 rw[Xk h.right.left (by omega) (by omega) (by omega)]
 dsimp only
 have e:=h.right.right;rw[Zi]at e;rw[Xk e (by omega) (by omega) (by omega)];simp[WV,Zi,A]
theorem GA {b i l hi}(d:1<=l.length)(g:l.length<=4)(a:∀x:Nat,x∈l->(x:Int)<=hi/\x<65536)(h:KU b i (Tw l)):OE b hi i=V (l,i+(Tw l).length):=by
 unfold OE;have e:=Rg (b:=b) (one:=Y4 b 2 0 hi) (W:=ZA 2) (f:=fun x=>x) (lo:=1) (hi:=4) (l:=l) (i:=i) (fun x c i hi=>by rw[Zi];exact Xk hi (by have:=a x c;omega) (by omega) (a x c).1) h (by omega) (by omega) (by omega);rw[e,y4];rfl
def vW (c b:Nat)(s:Zl):Prop:=
 (∃(a hi:Nat)(l:List Nat)(k:Nat),(a=0/\hi=9999\/a=2/\hi=999)/\s=⟨a,l,0,k⟩/\1<=k/\k<=255/\1<=l.length/\l.length<=4/\∀x,x∈l->x<=hi)\/
 (∃x y k:Nat,s=⟨1,[x,y],0,k⟩/\1<=k/\k<=255/\x<=y/\y<=1000000000)\/
 (∃i:Nat,s=⟨3,[],i,0⟩/\i<b)\/
 (∃(a:Nat)(l:List Nat)(i:Nat),(a=4\/a=5)/\s=⟨a,l,i,0⟩/\i<b/\1<=l.length/\l.length<=4/\∀x,x∈l->x<c)\/s=⟨6,[],0,0⟩
theorem zZ {b m n i s}(C:m<=6)(D:n<=8)(v:vW m n s)(h:KU b i (Y1 s)):V9 b m n i=V (s,i+(Y1 s).length):=by
 rcases v with⟨d,hi,l,k,f,rfl,w,z,o,p,q⟩|⟨x,y,k,rfl,w,z,B,E⟩|⟨j,rfl,g⟩|⟨d,l,j,f,rfl,g,o,p,q⟩|rfl
 ·have e:Y1 ⟨d,l,0,k⟩=ZA 1 d++(ZA 1 k++Tw l):=by unfold Y1;dsimp only;rw[if_pos (by omega)]
  rw[e]at h ⊢;have a:=h.right;rw[Zi]at a;have c:=a.right;rw[Zi]at c
  have t:∀g:Int,(hi:Int)=g->U9 b d g (i+1)=V (⟨d,l,0,k⟩,i+(ZA 1 d++(ZA 1 k++Tw l)).length):=fun g F=>by
   unfold U9;rw[Xk a.left (by omega) (by omega) (by omega)]
   dsimp only
   rw[GA o p (fun x r=>by have:=q x r;omega) c];simp[Zi,A];omega
  unfold V9;rw[Xk h.left (by omega) (by omega) (by omega)]
  dsimp only
  rcases f with⟨rfl,rfl⟩|⟨rfl,rfl⟩
  ·rw[if_pos rfl]
   exact t _ rfl
  rw[if_neg (by omega),if_neg (by omega),if_pos rfl]
  exact t _ rfl
 ·have e:Y1 ⟨1,[x,y],0,k⟩=ZA 1 1++(ZA 1 k++(ZA 4 x++ZA 4 y)):=rfl
  rw[e]at h ⊢;have a:=h.right;rw[Zi]at a;have c:=a.right;rw[Zi]at c;have u:=c.right;rw[Zi]at u;unfold V9;rw[Xk h.left (by omega) (by omega) (by omega)]
  dsimp only
  rw[if_neg (by omega),if_pos rfl];unfold Gk;rw[Xk a.left (by omega) (by omega) (by omega)]
  dsimp only
  rw[Xk c.left (by omega) (by omega) (by omega)]
  dsimp only
  rw[Xk u (by omega) (by omega) (by omega)];simp[Zi,A]
 ·have e:Y1 ⟨3,[],j,0⟩=ZA 1 3++ZA 1 j:=rfl
  rw[e]at h ⊢;have a:=h.right;rw[Zi]at a;unfold V9;rw[Xk h.left (by omega) (by omega) (by omega)]
  dsimp only
  rw[if_neg (by omega),if_neg (by omega),if_neg (by omega),if_neg (by omega)];unfold JW;rw[Xk a (by omega) (by omega) (by omega)];simp[Zi,A]
 ·have e:Y1 ⟨d,l,j,0⟩=ZA 1 d++(ZA 1 j++Tw l):=by unfold Y1;dsimp only;rw[if_neg (by omega),if_neg (by omega),if_neg (by omega),if_pos f]
  rw[e]at h ⊢;have a:=h.right;rw[Zi]at a;have c:=a.right;rw[Zi]at c;unfold V9;rw[Xk h.left (by omega) (by omega) (by omega)]
  dsimp only
  rw[if_neg (by omega),if_neg (by omega),if_neg (by omega),if_neg (by omega)];unfold JW;rw[Xk a.left (by omega) (by omega) (by omega)]
  dsimp only
  rw[if_neg (by omega),GA o p (fun x r=>by have:=q x r;omega) c];simp[Zi,A];omega
 have e:Y1 ⟨6,[],0,0⟩=ZA 1 6++[]:=rfl
 rw[e]at h ⊢;unfold V9;rw[Xk h.left (by omega) (by omega) (by omega)]
 dsimp only
 rw[if_neg (by omega),if_neg (by omega),if_neg (by omega),if_pos rfl];simp[Zi]
theorem GB {b:List UInt8}{np:Nat}(l:np<=255):∀(t:Tr)(n i:Nat),n<=6->t.deep n->t.lows np->KU b i t.wr->Xz b np (7-n) i=V (t.norm,i+t.wr.length)
 | .leaf p,n,i,h6,_,a,h=>by
  have a:p<np:=a;have h:KU b i (ZA 1 (1+p)):=h;rw[show 7-n=(6-n)+1 from by omega,Xz]
  dsimp only
  rw[Xk h (by omega) (by omega) (by omega),Nat.add_comm 1 p];simp[Tr.norm,Tr.wr,Zi]
 | .node k,n,i,h6,g,a,h=>by
  have h:KU b i (ZA 1 0++(z6 10).flatMap fun d=>(k d).wr):=h;have g:n<6/\∀d,d<10->(k d).deep (n+1):=g;have a:∀d,d<10->(k d).lows np:=a;have j:=h.right;rw[Zi]at j
  have e:=P5 (b:=b) (one:=Xz b np (6-n)) (W:=fun d=>(k d).wr) (f:=fun d=>(k d).norm) (z6 10) (i+1) (fun d m i hi=>by
   have c:=x5.1 m;have:=GB l (k d) (n+1) i (by omega) (g.2 d c) (a d c) hi;rw[show 7-(n+1)=6-n from by omega]at this
   exact this) j
  rw[List.length_range]at e;rw[show 7-n=(6-n)+1 from by omega,Xz]
  dsimp only
  rw[Xk h.left (by omega) (by omega) (by omega)]
  dsimp only
  rw[if_neg (by omega),e];simp[Tr.norm,Tr.wr,Zi,A]
structure LR.Wr (t:LR):Prop where
 r6:t.rts.length<=6
 rt:∀r,r∈t.rts->WC r.name=true/\r.base<=1000000/\r.rate<=1000
 n8:t.nms.length<=8
 nm:∀s,s∈t.nms->WC s=true
 df:(YO (t.rts.map Zf.name)&&YO t.nms)=true
 pl:1<=t.prs.length/\t.prs.length<=255
 pr:∀l,l∈t.prs->1<=l.length/\l.length<=255/\(∀s,s∈l->vW t.rts.length t.nms.length s)/\OF l=true
 dp:t.root.deep 0
 lf:t.root.lows t.prs.length
theorem ya {t}(h:t.Wr):OG (XH t)=V ⟨t.rts,t.nms,t.prs,t.root.norm⟩:=by
 have a:KU (XH t) 0 ((ZA 1 t.rts.length++t.rts.flatMap WV)++((ZA 1 t.nms.length++t.nms.flatMap WD)++((ZA 1 t.prs.length++t.prs.flatMap Tb)++t.root.wr))):=⟨[],[],by simp[XH],rfl⟩;have c:=h.r6;have d:=h.n8;have k:=h.pl
 have g:(XH t).length=0+(ZA 1 t.rts.length++t.rts.flatMap WV).length+(ZA 1 t.nms.length++t.nms.flatMap WD).length+(ZA 1 t.prs.length++t.prs.flatMap Tb).length+t.root.wr.length:=by
  unfold XH;simp only[List.length_append];omega
 generalize XH t=b at*;unfold OG;rw[Rg (W:=WV) (f:=fun x=>x) (fun r j i hi=>BJ (h.rt r j) hi) a.left (by omega) (by omega) (by omega)]
 dsimp only
 rw[y4,Rg (W:=WD) (f:=fun x=>x) (fun r j i hi=>Gz (h.nm r j) hi) a.right.left (by omega) (by omega) (by omega)]
 dsimp only
 rw[y4,if_pos h.df,Rg (W:=Tb) (f:=fun x=>x) (fun l g i hi=>by
  obtain⟨p,q,m,n⟩:=h.pr l g;unfold Ta;have e:=Rg (b:=b) (one:=V9 b t.rts.length t.nms.length) (W:=Y1) (f:=fun x=>x) (lo:=1) (hi:=255) (l:=l) (i:=i) (fun s o i hi=>zZ c d (m s o) hi) hi (by omega) (by omega) (by omega);rw[e,y4]
  dsimp only
  rw[if_pos n]
  rfl) a.right.right.left (by omega) (by omega) (by omega)]
 dsimp only
 rw[y4];have e:=GB (np:=t.prs.length) (by omega) t.root 0 _ (by omega) h.dp h.lf a.right.right.right;rw[e]
 dsimp only
 rw[if_pos g.symm]
def WW (b:List UInt8):List UInt8:=(XA (8+b.length)++b)++XA (Qx (XA (8+b.length)++b))
theorem T3 (n):(XA n).length=4:=rfl
theorem KV (b):(WW b).length=8+b.length:=by
 unfold WW;simp[T3];omega
theorem EA {b}(h:b.length<=199992):Rf (WW b)=V b:=by
 have a:=KV b
 have c:(WW b).take 4=XA (8+b.length):=by
  unfold WW;rw[x8,q5 (T3 _)]
 have d:(WW b).take (4+b.length)=XA (8+b.length)++b:=by
  unfold WW;rw[q5 (by simp[T3])]
 have e:(WW b).drop (4+b.length)=XA (Qx (XA (8+b.length)++b)):=by
  unfold WW;rw[q6 (by simp[T3])]
 unfold Rf;rw[a,if_pos ⟨by omega,by omega⟩,show 8+b.length-4=4+b.length from by omega,c,d,e,if_pos ⟨rfl,rfl⟩,q6 (T3 _)]
theorem EB {t}(h:t.Wr)(a:(XH t).length<=199992):R8 (WW (XH t))=V ⟨t.rts,t.nms,t.prs,t.root.norm⟩:=by
 unfold R8;rw[EA a];exact ya h
abbrev bs (l:List UInt8):ByteArray:=⟨l.toArray⟩
