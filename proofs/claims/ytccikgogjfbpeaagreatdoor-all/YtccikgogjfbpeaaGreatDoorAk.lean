import Derived.Test.YtccikgogjfbpeaaGreatDoorAg
import Derived.Deep.CutBlock
import Derived.Lib.LaidTab
import Derived.Lib.UnsafeStr
import Derived.Lib.AppendStr
open Option renaming none->I,some->Z
open Go.Value renaming pointer->Y,int->U,slice->H,string->z4,oneCell'->x9,bool->q4,agg->q6,slice->q7
open Go.IntKind renaming i64->E,u8->x6,i64->j6,u32->k4,u8->k5,signed->g7,wrap->g8,bits->g9
open Go.Proofs.Tryz renaming prog->D
open Go.RowKit renaming Hid->G
open Go.Obj renaming cells->R
open Go renaming Calls->z5,World->z9,Value->x5
open Go.Ending renaming returned->z6
open Nat renaming le_refl->z7,add_assoc->x7,le_of_eq->j0,zero_le->j1,xor_lt_two_pow->j4,zero_add->v5,mod_eq_of_lt->v6,le_trans->v7
open List renaming append_assoc->z8,length_append->y7,take_of_length_le->y8,range->q5,getElem?_map->q8,getElem?_append_left->j2,take_add_one->j5,all_eq_true->j7,map_id'->j8,mem_range->j9,getD->v8,length_map->v9,map_append->k0,flatMap_append->k6,length_take->k7,flatMap_def->k8,take_left'->k9,drop_left'->g5,nil_append->g6
open UInt8 renaming ofNat->y4,toNat_ofNat'->x4
open Go.AllReadyH renaming nil->y5
open Or renaming inl->y6,inr->x8
open Go.World renaming news_of_block->y9,ownsRow->v4
open Go.Proofs.Tryz
namespace Go.Proofs.YtccikgogjfbpeaaGreatDoor
set_option linter.defProp false
set_option maxRecDepth 30000
set_option maxHeartbeats 8000000
open Go.RowKit
def YO {α:Type}(a:Rd α)(b:List α)(m j:Nat):Option (List α×Nat):=(WU a m j).map fun p=>(b++p.1,p.2)
def UY {α}{a:Rd α}{b m j}(h:a j=I):YO a b (m+1) j=I:=by unfold YO;simp only[WU,h,Option.map_none]
def UZ {α a b m j k}{x:α}(h:a j=Z (x,k)):YO a b (m+1) j=YO a (b++[x]) m k:=by
 unfold YO;simp only[WU,h]
 cases WU a m k with
 |none=>rfl
 |some p=>simp
def Sd {α}{a:Rd α}{b j}:YO a b 0 j=Z (b,j):=by simp[YO,WU]
def Se {α b c d}{a:Rd α}{i n j}(h:Xa b 1 c d i=Z (n,j)):YV b c d a i=YO a [] n j:=by
 unfold YV YO;rw[h]
 show WU a n j=_
 cases WU a n j<;>simp
def Sf {α b c d}{a:Rd α}{i}(h:Xa b 1 c d i=I):YV b c d a i=I:=by
 unfold YV;rw[h]
def PW:(D.info? 9).map (fun i=>(i.zero,i.size,i.bytes))=Z (Z (z4 ByteArray.empty),1,16):=n
def IL:(D.info? 148).map (fun i=>(i.zero,i.size,i.bytes))=Z (Z (q6 #[z4 ByteArray.empty,U E 0,U E 0]),3,32):=n
def IM:(D.info? 3).map (fun i=>(i.zero,i.size,i.bytes))=Z (Z (U E 0),1,8):=n
def WY (l:List ByteArray):List x5:=l.map Value.string
def GX (l x):WY (l++[x])=WY l++[z4 x]:=by simp[WY]
def GY (l x):Ym (l++[x])=Ym l++[z4 x.name,U E (x.base:Nat),U E (x.rate:Nat)]:=by simp[Ym,Sr]
def IN (l x):Zg (l++[x])=Zg l++[U E (x:Nat)]:=by simp[Zg]
def GZ (w B s i l)(u t:Int)(a)(Q:z9->Prop)(hQ:∀W W',Q W->Fr (fun k=>k=B) W W'->Q W')(h:Yk w B s i l)(h0:Q w)(p0:t<=255)(HO:G (∀W i,Yk W B s i l->Q W->z5 D 122 #[Y (Z ⟨B,0,I⟩)] W (Ou W B s l (a i) fun _ v x=>v=z4 x))):
  z5 D 121 #[Y (Z ⟨B,0,I⟩),U E u,U E t,.func (.func 122) #[Y (Z ⟨B,0,I⟩)] #[]] w (Ou w B s l (YV s.data.toList u t a i) fun w' v b=>w'.ownsRow w.heap.size 9 1 v b.length (WY b)):=by
 have HH:=o (Z2 w B s i l 1 1 u t h aB rfl);have q0:B<w.heap.size:=(iA.1 h.bx).1;have HQ:=o hQ;have b0:=o h0;obtain⟨N,hN⟩:=ad (YV s.data.toList u t a i);rw[hN];have HN:=o hN;go_enter func121,ntmps121;go_wp2_with fail;refine HH.o.mono ?_;intro e w1 d
 cases h1:Xa s.data.toList 1 u t i with
 |none=>
  rw[h1]at d;obtain⟨y,hf⟩:=d
  have z:N=I:=by rw[<-HN.o];exact Sf h1
  subst z;unfold Tp at y;subst y;exact⟨rfl,rfl,hf⟩
 |some nj=>
  obtain⟨n,j⟩:=nj;rw[h1]at d;obtain⟨⟨v,rfl,rfl⟩,c0,d0⟩:=d;have e0:=o c0;have f0:=o d0;have hn:n<=255:=aj (Yu h1).2
  have g0:G (YO a [] n j=N):=by show _=_;rw[<-HN.o];exact(Se h1).symm
  go_wp2
  go_loopg [9,14] n (fun m ov kv wr=>∃(k:Nat)(b:List ByteArray)(p:Nat),k<=n/\m=n-k/\kv=U E (k:Nat)/\b.length=k/\G (Yk wr B s p l)/\G (wr.ownsRow w.heap.size 9 1 ov k (WY b))/\G (YO a b (n-k) p=N)/\G (Fr (fun k=>k=B) w wr))
  case atStart=>exact⟨0,[],j,az,rfl,rfl,rfl,e0,oZ _ _ _ _,g0,f0⟩
  obtain⟨k,b,p,A,rfl,rfl,C,HR,q,F,g⟩:=hrel;obtain⟨oa,oc,P⟩:=oL q.o;subst P;by_cases r0:k<n
  ·have i0:=af k n
   have J:G (YO a b (n-(k+1)+1) p=N):=by show _=_;rw[show n-(k+1)+1=n-k from az];exact F.o
   go_wp2_with fail;refine(HO.o wr p HR.o (HQ.o _ _ b0.o g.o)).mono ?_;intro e w2 d
   cases h2:a p with
   |none=>
    rw[h2]at d;obtain⟨y,hf⟩:=d
    have z:N=I:=by rw[<-J.o];exact UY h2
    subst z;unfold Tp at y;subst y;exact⟨rfl,rfl,g.o.trans hf⟩
   |some xj=>
    obtain⟨x,j3⟩:=xj;rw[h2]at d;obtain⟨⟨v,rfl,rfl⟩,j0,K⟩:=d;have k0:=o j0;have L:=o (g.o.trans K);have r:=o (oF q.o K (fun k A=>az))
    have l0:G (YO a (b++[x]) (n-(k+1)) j3=N):=by show _=_;rw[<-J.o];exact(UZ h2).symm
    go_wp2_with (at_builtin;refine ao w.heap.size PW underlying28 (H oa k oc) k (WY b) ?h1 ⟨w2.heap.size,0,I⟩ [z4 x] ?h2 ?_ (k4:=?h6))
    case h1=>exact r.o.alloc _
    try case h2=>exact y9 (aN w2 (R #[z4 x] 9))
    case h6=>have:=L.o.size;simp;omega
    intro g2 M S O c s0 _;have m0:G (Fr (fun k=>k=B) w S):=(L.o.alloc _).grown c (fun k A=>x8 (r.o.lt k A).1)
    have n0:G (Yk S B s j3 l):=by
     have f:Fr (fun k'=>(q7 oa k oc).ownBlock=Z k') w2 S:=(Zo.alloc _).grown c (fun k A=>.inl A);exact k0.o.fr f (fun hb=>aj (r.o.lt B hb).1)
    have o0:G (S.ownsRow w.heap.size 9 1 (H (Z ⟨g2,0,I⟩) (k+1) M) (k+1) (WY (b++[x]))):=by
     show v4 _ _ _ _ _ _ _
     rw[GX];exact O
    go_wp2;go_roundg (n-(k+1))
    case measure=>omega
    exact⟨k+1,b++[x],j3,az,rfl,aE,by simp[C],n0,o0,l0,m0⟩
  have i0:=ai k n
  have z:N=Z (b,p):=by
   have e:=F.o;rw[show n-k=0 from az,Sd]at e;exact e.symm
  subst z;go_wp2;go_ret;have P:=q.o;rw[<-C]at P ⊢;exact⟨⟨_,rfl,P⟩,HR.o,g.o⟩
def KG (w B s i l)(u t:Int)(a)(Q:z9->Prop)(hQ:∀W W',Q W->Fr (fun k=>k=B) W W'->Q W')(h:Yk w B s i l)(h0:Q w)(p0:t<=255)(HO:G (∀W i,Yk W B s i l->Q W->z5 D 120 #[Y (Z ⟨B,0,I⟩)] W (Ou W B s l (a i) fun _ v x=>v=rF x))):
  z5 D 119 #[Y (Z ⟨B,0,I⟩),U E u,U E t,.func (.func 120) #[Y (Z ⟨B,0,I⟩)] #[]] w (Ou w B s l (YV s.data.toList u t a i) fun w' v b=>w'.ownsRow w.heap.size 148 3 v b.length (Ym b)):=by
 have HH:=o (Z2 w B s i l 1 1 u t h aB rfl);have q0:B<w.heap.size:=(iA.1 h.bx).1;have HQ:=o hQ;have b0:=o h0;obtain⟨N,hN⟩:=ad (YV s.data.toList u t a i);rw[hN];have HN:=o hN;go_enter func119,ntmps119;go_wp2_with fail;refine HH.o.mono ?_;intro e w1 d
 cases h1:Xa s.data.toList 1 u t i with
 |none=>
  rw[h1]at d;obtain⟨y,hf⟩:=d
  have z:N=I:=by rw[<-HN.o];exact Sf h1
  subst z;unfold Tp at y;subst y;exact⟨rfl,rfl,hf⟩
 |some nj=>
  obtain⟨n,j⟩:=nj;rw[h1]at d;obtain⟨⟨v,rfl,rfl⟩,c0,d0⟩:=d;have e0:=o c0;have f0:=o d0;have hn:n<=255:=aj (Yu h1).2
  have g0:G (YO a [] n j=N):=by show _=_;rw[<-HN.o];exact(Se h1).symm
  go_wp2
  go_loopg [9,14] n (fun m ov kv wr=>∃(k:Nat)(b:List Zf)(p:Nat),k<=n/\m=n-k/\kv=U E (k:Nat)/\b.length=k/\G (Yk wr B s p l)/\G (wr.ownsRow w.heap.size 148 3 ov k (Ym b))/\G (YO a b (n-k) p=N)/\G (Fr (fun k=>k=B) w wr))
  case atStart=>exact⟨0,[],j,az,rfl,rfl,rfl,e0,oZ _ _ _ _,g0,f0⟩
  obtain⟨k,b,p,A,rfl,rfl,C,HR,q,F,g⟩:=hrel;obtain⟨oa,oc,P⟩:=oL q.o;subst P;by_cases r0:k<n
  ·have i0:=af k n
   have J:G (YO a b (n-(k+1)+1) p=N):=by show _=_;rw[show n-(k+1)+1=n-k from az];exact F.o
   go_wp2_with fail;refine(HO.o wr p HR.o (HQ.o _ _ b0.o g.o)).mono ?_;intro e w2 d
   cases h2:a p with
   |none=>
    rw[h2]at d;obtain⟨y,hf⟩:=d
    have z:N=I:=by rw[<-J.o];exact UY h2
    subst z;unfold Tp at y;subst y;exact⟨rfl,rfl,g.o.trans hf⟩
   |some xj=>
    obtain⟨x,j3⟩:=xj;rw[h2]at d;obtain⟨⟨v,rfl,rfl⟩,j0,K⟩:=d;have k0:=o j0;have L:=o (g.o.trans K);have r:=o (oF q.o K (fun k A=>az))
    have l0:G (YO a (b++[x]) (n-(k+1)) j3=N):=by show _=_;rw[<-J.o];exact(UZ h2).symm
    unfold rF
    go_wp2_with (at_builtin;refine ao w.heap.size IL underlying86 (H oa k oc) k (Ym b) ?h1 ⟨w2.heap.size,0,I⟩ [z4 x.name,U E (x.base:Nat),U E (x.rate:Nat)] ?h2 ?_ (k4:=?h6))
    case h1=>exact r.o.alloc _
    try case h2=>exact y9 (aN w2 (R #[z4 x.name,U E (x.base:Nat),U E (x.rate:Nat)] 148))
    case h6=>have:=L.o.size;simp;omega
    intro g2 M S O c s0 _;have m0:G (Fr (fun k=>k=B) w S):=(L.o.alloc _).grown c (fun k A=>x8 (r.o.lt k A).1)
    have n0:G (Yk S B s j3 l):=by
     have f:Fr (fun k'=>(q7 oa k oc).ownBlock=Z k') w2 S:=(Zo.alloc _).grown c (fun k A=>.inl A);exact k0.o.fr f (fun hb=>aj (r.o.lt B hb).1)
    have o0:G (S.ownsRow w.heap.size 148 3 (H (Z ⟨g2,0,I⟩) (k+1) M) (k+1) (Ym (b++[x]))):=by
     show v4 _ _ _ _ _ _ _
     rw[GY];exact O
    go_wp2;go_roundg (n-(k+1))
    case measure=>omega
    exact⟨k+1,b++[x],j3,az,rfl,aE,by simp[C],n0,o0,l0,m0⟩
  have i0:=ai k n
  have z:N=Z (b,p):=by
   have e:=F.o;rw[show n-k=0 from az,Sd]at e;exact e.symm
  subst z;go_wp2;go_ret;have P:=q.o;rw[<-C]at P ⊢;exact⟨⟨_,rfl,P⟩,HR.o,g.o⟩
def G0 (w B s i l)(u t:Int)(b1 b2 a)(Q:z9->Prop)(hQ:∀W W',Q W->Fr (fun k=>k=B) W W'->Q W')(h:Yk w B s i l)(h0:Q w)(p0:t<=255)(HO:G (∀W i,Yk W B s i l->Q W->z5 D 247 #[Y (Z ⟨b1,0,I⟩),Y (Z ⟨b2,0,I⟩)] W (Ou W B s l (a i) fun _ v x=>v=U E (x:Nat)))):
  z5 D 246 #[Y (Z ⟨B,0,I⟩),U E u,U E t,.func (.func 247) #[] #[Y (Z ⟨b1,0,I⟩),Y (Z ⟨b2,0,I⟩)]] w (Ou w B s l (YV s.data.toList u t a i) fun w' v b=>w'.ownsRow w.heap.size 3 1 v b.length (Zg b)):=by
 have HH:=o (Z2 w B s i l 1 1 u t h aB rfl);have q0:B<w.heap.size:=(iA.1 h.bx).1;have HQ:=o hQ;have b0:=o h0;obtain⟨N,hN⟩:=ad (YV s.data.toList u t a i);rw[hN];have HN:=o hN;go_enter func246,ntmps246;go_wp2_with fail;refine HH.o.mono ?_;intro e w1 d
 cases h1:Xa s.data.toList 1 u t i with
 |none=>
  rw[h1]at d;obtain⟨y,hf⟩:=d
  have z:N=I:=by rw[<-HN.o];exact Sf h1
  subst z;unfold Tp at y;subst y;exact⟨rfl,rfl,hf⟩
 |some nj=>
  obtain⟨n,j⟩:=nj;rw[h1]at d;obtain⟨⟨v,rfl,rfl⟩,c0,d0⟩:=d;have e0:=o c0;have f0:=o d0;have hn:n<=255:=aj (Yu h1).2
  have g0:G (YO a [] n j=N):=by show _=_;rw[<-HN.o];exact(Se h1).symm
  go_wp2
  go_loopg [9,14] n (fun m ov kv wr=>∃(k:Nat)(b:List Nat)(p:Nat),k<=n/\m=n-k/\kv=U E (k:Nat)/\b.length=k/\G (Yk wr B s p l)/\G (wr.ownsRow w.heap.size 3 1 ov k (Zg b))/\G (YO a b (n-k) p=N)/\G (Fr (fun k=>k=B) w wr))
  case atStart=>exact⟨0,[],j,az,rfl,rfl,rfl,e0,oZ _ _ _ _,g0,f0⟩
  obtain⟨k,b,p,A,rfl,rfl,C,HR,q,F,g⟩:=hrel;obtain⟨oa,oc,P⟩:=oL q.o;subst P;by_cases r0:k<n
  ·have i0:=af k n
   have J:G (YO a b (n-(k+1)+1) p=N):=by show _=_;rw[show n-(k+1)+1=n-k from az];exact F.o
   go_wp2_with fail;refine(HO.o wr p HR.o (HQ.o _ _ b0.o g.o)).mono ?_;intro e w2 d
   cases h2:a p with
   |none=>
    rw[h2]at d;obtain⟨y,hf⟩:=d
    have z:N=I:=by rw[<-J.o];exact UY h2
    subst z;unfold Tp at y;subst y;exact⟨rfl,rfl,g.o.trans hf⟩
   |some xj=>
    obtain⟨x,j3⟩:=xj;rw[h2]at d;obtain⟨⟨v,rfl,rfl⟩,j0,K⟩:=d;have k0:=o j0;have L:=o (g.o.trans K);have r:=o (oF q.o K (fun k A=>az))
    have l0:G (YO a (b++[x]) (n-(k+1)) j3=N):=by show _=_;rw[<-J.o];exact(UZ h2).symm
    go_wp2_with (at_builtin;refine ao w.heap.size IM underlying25 (H oa k oc) k (Zg b) ?h1 ⟨w2.heap.size,0,I⟩ [U E (x:Nat)] ?h2 ?_ (k4:=?h6))
    case h1=>exact r.o.alloc _
    try case h2=>exact y9 (aN w2 (R #[U E (x:Nat)] 3))
    case h6=>have:=L.o.size;simp;omega
    intro g2 M S O c s0 _;have m0:G (Fr (fun k=>k=B) w S):=(L.o.alloc _).grown c (fun k A=>x8 (r.o.lt k A).1)
    have n0:G (Yk S B s j3 l):=by
     have f:Fr (fun k'=>(q7 oa k oc).ownBlock=Z k') w2 S:=(Zo.alloc _).grown c (fun k A=>.inl A);exact k0.o.fr f (fun hb=>aj (r.o.lt B hb).1)
    have o0:G (S.ownsRow w.heap.size 3 1 (H (Z ⟨g2,0,I⟩) (k+1) M) (k+1) (Zg (b++[x]))):=by
     show v4 _ _ _ _ _ _ _
     rw[IN];exact O
    go_wp2;go_roundg (n-(k+1))
    case measure=>omega
    exact⟨k+1,b++[x],j3,az,rfl,aE,by simp[C],n0,o0,l0,m0⟩
  have i0:=ai k n
  have z:N=Z (b,p):=by
   have e:=F.o;rw[show n-k=0 from az,Sd]at e;exact e.symm
  subst z;go_wp2;go_ret;have P:=q.o;rw[<-C]at P ⊢;exact⟨⟨_,rfl,P⟩,HR.o,g.o⟩
def AK (w B s i a)(h:Yk w B s i a):
  z5 D 215 #[Y (Z ⟨B,0,I⟩)] w (Ou w B s a (Xa s.data.toList 1 1 255 i) fun _ v x=>v=U E (x:Nat)):=by
 have c:=o (Z2 w B s i a 1 1 1 255 h aB rfl);obtain⟨N,g⟩:=ad (Xa s.data.toList 1 1 255 i);rw[g]at c ⊢;go_enter func215,ntmps215;go_wp2_with fail;refine(c.o).mono ?_;intro e q d
 cases N with
 |none=>
  obtain⟨f,b⟩:=d;unfold Tp at f;subst f;exact⟨rfl,rfl,b⟩
 |some k=>
  obtain⟨x,j⟩:=k;obtain⟨⟨v,rfl,l⟩,m,b⟩:=d
  try subst l
  have n:=o m;have p:=o b;go_wp2;go_ret;exact⟨⟨_,rfl,rfl⟩,n.o,p.o⟩
def AL (w B s i b k a l)(h:Yk w B s i b)(u:w.cell? ⟨b,1,I⟩=Z (H k a l))(y:a<=8):
  z5 D 218 #[Y (Z ⟨B,0,I⟩)] w (Ou w B s b (Xa s.data.toList 1 0 ((a:Int)-1) i) fun _ v x=>v=U E (x:Nat)):=by
 have d:=o (Z2 w B s i b 1 1 0 ((a:Int)-1) h aB rfl);have z:=Zc h.bx 2;have A:j6.wrap ((a:Int)-1)=(a:Int)-1:=IntWalk.i64_in _ aI;obtain⟨N,m⟩:=ad (Xa s.data.toList 1 0 ((a:Int)-1) i);rw[m]at d ⊢;go_enter func218,ntmps218;go_wp2_with fail;refine(d.o).mono ?_;intro e C f
 cases N with
 |none=>
  obtain⟨g,c⟩:=f;unfold Tp at g;subst g;exact⟨rfl,rfl,c⟩
 |some n=>
  obtain⟨x,j⟩:=n;obtain⟨⟨v,rfl,p⟩,q,c⟩:=f
  try subst p
  have r:=o q;have t:=o c;go_wp2;go_ret;exact⟨⟨_,rfl,rfl⟩,r.o,t.o⟩
def Dt (w B s i b d f)(a:Int)(h:Yk w B s i b)(u:w.cell? ⟨d,0,I⟩=Z (Y (Z ⟨B,0,I⟩)))(y:w.cell? ⟨f,0,I⟩=Z (U E a)):
  z5 D 247 #[Y (Z ⟨d,0,I⟩),Y (Z ⟨f,0,I⟩)] w (Ou w B s b (Xa s.data.toList 2 0 a i) fun _ v x=>v=U E (x:Nat)):=by
 have g:=o (Z2 w B s i b 2 2 0 a h aB rfl);obtain⟨N,m⟩:=ad (Xa s.data.toList 2 0 a i);rw[m]at g ⊢;go_enter func247,ntmps247;go_wp2_with fail;refine(g.o).mono ?_;intro e z k
 cases N with
 |none=>
  obtain⟨l,c⟩:=k;unfold Tp at l;subst l;exact⟨rfl,rfl,c⟩
 |some n=>
  obtain⟨x,j⟩:=n;obtain⟨⟨v,rfl,p⟩,q,c⟩:=k
  try subst p
  have r:=o q;have t:=o c;go_wp2;go_ret;exact⟨⟨_,rfl,rfl⟩,r.o,t.o⟩
def OF (w B s i d)(a:Int)(h:Yk w B s i d):
  z5 D 216 #[Y (Z ⟨B,0,I⟩),U E a] w (Ou w B s d (Nc s.data.toList a i) fun q v g=>q.ownsRow w.heap.size 3 1 v g.length (Zg g)):=by
 have K:∀(A:Fn)(first l:Array x5)(w:z9),(Instr.makeFunc A first l).run D w=.ok (.func A first l) w:=fun _ _ _ _=>rfl
 obtain⟨W,n⟩:=ad ((w.alloc (R #[Y (Z ⟨B,0,I⟩)] 156)).alloc (R #[U E a] 3));obtain⟨P,m⟩:=ad w.heap.size
 have L:B<P:=by rw[<-m];exact(iA.1 h.bx).1
 have b:G (Fr (fun k=>k=B) w W):=by show Fr _ _ _;rw[<-n];exact(Zo.alloc _).alloc _
 have r:G (Yk W B s i d):=by show Yk _ _ _ _ _;rw[<-n];exact h.fr (S:=fun _=>False) ((Zo.alloc _).alloc _)
 have M:W.cell? ⟨P,0,I⟩=Z (Y (Z ⟨B,0,I⟩)):=by
  rw[<-n,<-m];exact bC (((Fr.refl (fun _=>False) _).alloc _).whole (aN w _)) 0 _ rfl
 have O:W.cell? ⟨P+1,0,I⟩=Z (U E a):=by
  rw[<-n,<-m];have e:=aN (w.alloc (R #[Y (Z ⟨B,0,I⟩)] 156)) (R #[U E a] 3);exact Zc (by simpa using e) 0
 have t:G (W.cell? ⟨P,0,I⟩=Z (Y (Z ⟨B,0,I⟩))/\W.cell? ⟨P+1,0,I⟩=Z (U E a)):=⟨M,O⟩
 have u:P<=W.heap.size:=by rw[<-m];exact b.o.size
 have C:G (z5 D 246 #[Y (Z ⟨B,0,I⟩),U E 1,U E 4,.func (.func 247) #[] #[Y (Z ⟨P,0,I⟩),Y (Z ⟨P+1,0,I⟩)]] W (Ou W B s d (Nc s.data.toList a i) fun q v g=>q.ownsRow W.heap.size 3 1 v g.length (Zg g))):=
  G0 W B s i d 1 4 P (P+1) (Xa s.data.toList 2 0 a) (fun W=>W.cell? ⟨P,0,I⟩=Z (Y (Z ⟨B,0,I⟩))/\W.cell? ⟨P+1,0,I⟩=Z (U E a))
   (fun W W' c f=>⟨(f.cell (p:=⟨P,0,I⟩) (bL W _ c.1) (by show¬P=B;omega)).trans c.1,(f.cell (p:=⟨P+1,0,I⟩) (bL W _ c.2) (by show¬P+1=B;omega)).trans c.2⟩)
   r.o t.o az (fun W i y c=>Dt W B s i d P (P+1) a y c.1 c.2)
 obtain⟨N,Q⟩:=ad (Nc s.data.toList a i);rw[Q]at C ⊢;go_enter func216,ntmps216;go_upto_region 1 with fail;have z:=o m;go_wp2_with fail;refine(C.o).mono ?_;intro e w1 F
 cases N with
 |none=>
  obtain⟨H,f⟩:=F;unfold Tp at H;subst H;exact⟨rfl,rfl,(b.o.trans f)⟩
 |some T=>
  obtain⟨x,j⟩:=T;obtain⟨⟨v,rfl,J⟩,y,f⟩:=F
  try subst J
  have V:=o y;have X:=o f;have HV:=o J;go_wp2;go_ret;exact⟨⟨_,rfl,oS HV.o (by rw[z.o];exact u)⟩,V.o,b.o.trans X.o⟩
def LF (b:List UInt8)(a:Int):Rd (List Nat):=fun i=>match Xa b 4 0 a i with
 |none=>I
 |some (y,k)=>match Xa b 4 y a k with
  |none=>I
  |some (z,l)=>Z ([y,z],l)
def uj (w:z9)(y z):(w.alloc (R #[U E (y:Nat),U E (z:Nat)] 3)).ownsRow w.heap.size 3 1 (H (Z ⟨w.heap.size,0,I⟩) 2 2) 2 (Zg [y,z]):=
 ⟨rfl,.inr ⟨w.heap.size,2,#[U E (y:Nat),U E (z:Nat)],rfl,z7 _,heap_alloc_new w _,z7 _,by unfold maxLen;simp,aA,by simp[Zg]⟩⟩
def AM (w B s i j)(b:Int)(h:Yk w B s i j):
  z5 D 217 #[Y (Z ⟨B,0,I⟩),U E b] w (Ou w B s j (LF s.data.toList b i) fun J v F=>J.ownsRow w.heap.size 3 1 v F.length (Zg F)):=by
 have K:=o (Z2 w B s i j 4 4 0 b h aB rfl);obtain⟨N,G⟩:=ad (LF s.data.toList b i);rw[G];have p:=o G;go_enter func217,ntmps217;go_wp2_with fail;refine K.o.mono ?_;intro e L a
 cases m:Xa s.data.toList 4 0 b i with
 |none=>
  rw[m]at a;obtain⟨c,q⟩:=a
  have d:N=I:=by rw[<-p.o];unfold LF;rw[m]
  subst d;unfold Tp at c;subst c;exact⟨rfl,rfl,q⟩
 |some M=>
  obtain⟨y,k⟩:=M;rw[m]at a;obtain⟨⟨v,rfl,rfl⟩,r,t⟩:=a;have f:=o t;have H:=o m;have u:=o (Z2 L B s k j 4 4 y b r aB rfl);go_wp2_with fail;refine u.o.mono ?_;intro e O a
  cases n:Xa s.data.toList 4 y b k with
  |none=>
   rw[n]at a;obtain⟨c,q⟩:=a
   have d:N=I:=by rw[<-p.o];unfold LF;rw[H.o];simp only[n]
   subst d;unfold Tp at c;subst c;exact⟨rfl,rfl,f.o.trans q⟩
  |some P=>
   obtain⟨z,l⟩:=P;rw[n]at a;obtain⟨⟨v,rfl,rfl⟩,x,A⟩:=a
   have d:N=Z ([y,z],l):=by rw[<-p.o];unfold LF;rw[H.o];simp only[n]
   subst d;have C:=o x;have g:=o (f.o.trans A);go_wp2;go_ret;exact⟨⟨_,rfl,oS (uj O y z) g.o.size⟩,C.o.fr (S:=fun _=>False) (Zo.alloc _),g.o.alloc _⟩
structure xI (w wx:z9)(B X:Nat)(s:ByteArray)(j TT:Nat)(c0 c1 c2 c3:x5):Prop where
 rd:Yk wx B s j TT
 bx:wx.heap[X]?=Z (R #[c0,c1,c2,c3] 208)
 bp:wx.heap[w.heap.size]?=Z (R #[U x6 0,H I 0 0,U E 0,U E 0] 208)
 fr:Fr (fun k=>k=B) w wx
 ne:w.heap.size<X
 lt:B<w.heap.size
def xI.call {w d a B X j e b s f g i l}(h:xI w d B X s j b f g i l)(m:Yk a B s e b)(c:Fr (fun k=>k=B) d a):xI w a B X s e b f g i l:=by
 have n:=h.ne;have o:=h.lt;exact⟨m,c.whole h.bx (by show¬X=B;omega),c.whole h.bp (by show¬w.heap.size=B;omega),h.fr.trans c,n,o⟩
def xI.set {w a B X j c s d g i l m n q r}(h:xI w a B X s j c d g i l)(o v)(e:(#[d,g,i,l]:Array x5).setIfInBounds o v=#[m,n,q,r]):xI w (a.setCell ⟨X,o,I⟩ v) B X s j c m n q r:=by
 have t:=h.ne;have u:=h.lt;have f:=(Fr.refl (fun k=>k=X) a).setCell (p:=⟨X,o,I⟩) (y6 rfl) v;have b:=heap_setCell_same a X o _ _ v h.bx;rw[e]at b;exact⟨h.rd.fr f (by show¬B=X;omega),b,f.whole h.bp (by show¬w.heap.size=X;omega),h.fr.setCell (p:=⟨X,o,I⟩) (x8 (by show w.heap.size<=X;omega)) v,t,u⟩
def RA {w:z9}{a X v n l m}(h:w.ownsRow a 3 1 v n l)(q:w.heap[X]?=Z (R m 208))(o u):(w.setCell ⟨X,o,I⟩ u).ownsRow a 3 1 v n l:=by
 refine⟨h.1,?_⟩;rcases h.2 with r|⟨g,d,f,rfl,i,b,c⟩
 ·exact .inl r
 refine .inr ⟨g,d,f,rfl,i,?_,c⟩
 have j:g≠X:=fun e=>by subst e;rw[q]at b;injection b with e;injection e with _ s;exact absurd s aB
 exact((Fr.refl (fun k=>k=X) w).setCell (p:=⟨X,o,I⟩) (y6 rfl) u).whole b j
def Jz (b:List UInt8):Rd Zl:=fun i=>match Xa b 1 1 255 i with
 |none=>I
 |some (x,j)=>match LF b 1000000000 j with
  |none=>I
  |some (l,k)=>Z (⟨1,l,0,x⟩,k)
def uk (b i):Gy b i=Jz b i:=by
 unfold Gy Jz LF
 cases Xa b 1 1 255 i with
 |none=>rfl
 |some p=>
  obtain⟨x,j⟩:=p
  dsimp only
  cases Xa b 4 0 1000000000 j with
  |none=>rfl
  |some q=>
   obtain⟨y,k⟩:=q
   dsimp only
   cases Xa b 4 y 1000000000 k<;>rfl
def AN (a b c:Nat)(d:Option Addr)(e f:Nat):x5:=q6 #[U x6 (a:Nat),H d e f,U E (b:Nat),U E (c:Nat)]
def rW {w:z9}{b t u0 u1 u2 u3 v0 v1 v2 v3}(h:w.heap[b]?=Z (R #[u0,u1,u2,u3] t)):
    ((((w.setCell ⟨b,0,I⟩ v0).setCell ⟨b,1,I⟩ v1).setCell ⟨b,2,I⟩ v2).setCell ⟨b,3,I⟩ v3).heap[b]?=Z (R #[v0,v1,v2,v3] t):=by
  have e:=heap_setCell_same _ b 3 _ _ v3 (heap_setCell_same _ b 2 _ _ v2 (heap_setCell_same _ b 1 _ _ v1 (heap_setCell_same w b 0 _ _ v0 h)))
  simpa using e
def xI.fin {w b B X j c s g i l m}(h:xI w b B X s j c g i l m){v n d}(o:b.ownsRow w.heap.size 3 1 v n d)(u0 u1 u2 u3):
    Yk ((((b.setCell ⟨w.heap.size,0,I⟩ u0).setCell ⟨w.heap.size,1,I⟩ u1).setCell ⟨w.heap.size,2,I⟩ u2).setCell ⟨w.heap.size,3,I⟩ u3) B s j c/\((((b.setCell ⟨w.heap.size,0,I⟩ u0).setCell ⟨w.heap.size,1,I⟩ u1).setCell ⟨w.heap.size,2,I⟩ u2).setCell ⟨w.heap.size,3,I⟩ u3).ownsRow w.heap.size 3 1 v n d/\Fr (fun k=>k=B) w ((((b.setCell ⟨w.heap.size,0,I⟩ u0).setCell ⟨w.heap.size,1,I⟩ u1).setCell ⟨w.heap.size,2,I⟩ u2).setCell ⟨w.heap.size,3,I⟩ u3):=by
  have a:w.heap.size≠B:=aj h.lt;have e:=heap_setCell_same b w.heap.size 0 _ _ u0 h.bp;have f:=heap_setCell_same _ w.heap.size 1 _ _ u1 e;have q:=heap_setCell_same _ w.heap.size 2 _ _ u2 f
  exact⟨(((h.rd.set 0 u0 a).set 1 u1 a).set 2 u2 a).set 3 u3 a,RA (RA (RA (RA o h.bp 0 u0) e 1 u1) f 2 u2) q 3 u3,
    (((h.fr.setCell (p:=⟨w.heap.size,0,I⟩) (x8 (z7 _)) u0).setCell (p:=⟨w.heap.size,1,I⟩) (x8 (z7 _)) u1).setCell (p:=⟨w.heap.size,2,I⟩) (x8 (z7 _)) u2).setCell (p:=⟨w.heap.size,3,I⟩) (x8 (z7 _)) u3⟩
def xJ {w f B X m i c d e s a b l}(h:xI w f B X s m i (U x6 (c:Nat)) (H a l.length b) (U E (d:Nat)) (U E (e:Nat)))(j:f.ownsRow w.heap.size 3 1 (H a l.length b) l.length (Zg l)){t}(k:t[2]?=Z (Y (Z ⟨w.heap.size,0,I⟩))):
    bodyPost D f179 (Ou w B s i (Z ((⟨c,l,d,e⟩:Zl),m)) fun n v (x:Zl)=>∃(a:Option Addr)(b:Nat),v=AN x.sort x.rule x.skip a x.nums.length b/\n.ownsRow w.heap.size 3 1 (H a x.nums.length b) x.nums.length (Zg x.nums)) .ret ⟨t,[]⟩
      ((((f.setCell ⟨w.heap.size,0,I⟩ (U x6 (c:Nat))).setCell ⟨w.heap.size,1,I⟩ (H a l.length b)).setCell ⟨w.heap.size,2,I⟩ (U E (d:Nat))).setCell ⟨w.heap.size,3,I⟩ (U E (e:Nat))):=by
  obtain⟨g1,g2,g3⟩:=h.fin j (U x6 (c:Nat)) (H a l.length b) (U E (d:Nat)) (U E (e:Nat));have g:=rW (v0:=U x6 (c:Nat)) (v1:=H a l.length b) (v2:=U E (d:Nat)) (v3:=U E (e:Nat)) h.bp;obtain⟨o,p,q,r⟩:=au g;generalize(((f.setCell ⟨w.heap.size,0,I⟩ (U x6 (c:Nat))).setCell ⟨w.heap.size,1,I⟩ (H a l.length b)).setCell ⟨w.heap.size,2,I⟩ (U E (d:Nat))).setCell ⟨w.heap.size,3,I⟩ (U E (e:Nat))=W at*;exact bodyPost_ret (v:=AN c d e a l.length b) (by simp[results,results179,go_sem,k,o,p,q,r,AN]) rfl ⟨⟨_,rfl,a,b,rfl,g2⟩,g1,g3⟩
def Ou.cases {α w B a s}{r:Option (α×Nat)}{V e w'}(h:Ou w B s a r V e w'):(r=I/\e=.panicked [{v:=.iface 223 (q6 #[]),recovered:=false}]/\Fr (fun k=>k=B) w w')\/∃x j v,r=Z (x,j)/\e=z6 v/\V w' v x/\Yk w' B s j a/\Fr (fun k=>k=B) w w':=by
 match r,h with
 |none,h=>exact .inl ⟨rfl,h⟩
 |some (x,j),⟨⟨v,h1,h2⟩,h3,h4⟩=>exact .inr ⟨x,j,v,rfl,h1,h2,h3,h4⟩
def AO (w B s i c ra q rc na z nc)(h:Yk w B s i c)(M:c≠B)(h0:w.cell? ⟨c,0,I⟩=Z (H ra q rc))(A:w.cell? ⟨c,1,I⟩=Z (H na z nc))(m0:q<=6)(a0:z<=8):
  z5 D 179 #[Y (Z ⟨B,0,I⟩)] w (Ou w B s c (V1 s.data.toList q z i) fun w' v x=>∃(f:Option Addr)(g:Nat),v=AN x.sort x.rule x.skip f x.nums.length g/\w'.ownsRow w.heap.size 3 1 (H f x.nums.length g) x.nums.length (Zg x.nums)):=by
 obtain⟨K,C⟩:=ad (w.alloc (R #[U x6 0,H I 0 0,U E 0,U E 0] 208));have b0:B<w.heap.size:=(iA.1 h.bx).1
 have F:G (F0 w K):=by show Fr _ _ _;rw[<-C];exact Zo.alloc _
 have c0:G (K.heap[w.heap.size]?=Z (R #[U x6 0,H I 0 0,U E 0,U E 0] 208)):=by show _=_;rw[<-C];exact aN w _
 have d0:=o (h.fr F.o)
 have HT:G (∀W,Fr (fun k=>k=B) w W->W.cell? ⟨c,0,I⟩=Z (H ra q rc)/\W.cell? ⟨c,1,I⟩=Z (H na z nc)):=fun W u=>⟨(u.cell (p:=⟨c,0,I⟩) (bL w _ h0) M).trans h0,(u.cell (p:=⟨c,1,I⟩) (bL w _ A) M).trans A⟩
 obtain⟨N,hN⟩:=ad (V1 s.data.toList q z i);rw[hN];have O:=o hN
 have n0:w.heap.size<K.heap.size:=by rw[<-C];simp
 go_enter func179,ntmps179;go_upto_region 1 with fail;go_wp2_with fail;refine(Z2 K B s i c 1 1 0 6 d0.o aB rfl).mono ?_;intro e P Q;rcases Q.cases with⟨A,rfl,u⟩|⟨x,j,_,A,rfl,rfl,e0,J⟩
 ·have T:N=I:=by rw[<-O.o];unfold V1;rw[A]
  subst T;exact⟨rfl,rfl,(F.o.mono).trans u⟩
 have o0:x<=6:=aj (Yu A).2;have r0:k5.wrap (x:Int)=(x:Int):=IntWalk.u8_in _ aI
 have L:G ((if x=0 then Tb s.data.toList 0 9999 j else if x=1 then Jz s.data.toList j else if x=2 then Tb s.data.toList 2 999 j else if x=6 then Z (⟨6,[],0,0⟩,j)else Iv s.data.toList x q z j)=N):=by
  show _=_
  rw[<-O.o];unfold V1;rw[A,<-uk]
 have d:G (xI w (P.alloc (R #[U x6 (x:Nat),H I 0 0,U E 0,U E 0] 208)) B P.heap.size s j c (U x6 (x:Nat)) (H I 0 0) (U E 0) (U E 0)):=
  ⟨e0.fr (S:=fun _=>False) (Zo.alloc _),aN P _,((Fr.refl (fun _=>False) _).alloc _).whole (J.whole c0.o (by show¬w.heap.size=B;omega)),((F.o.mono).trans J).alloc _,aj J.size,b0⟩
 go_upto_region 2 with fail;generalize P.alloc _=W1 at*;generalize P.heap.size=X at*;have z0:=Zc d.o.bx 0
 go_upto_block 0 with fail
 go_cut [] (fun wx=>G (∃(so ru sk m:Nat)(l:List Nat)(f:Option Addr)(g:Nat),N=Z (⟨so,l,ru,sk⟩,m)/\xI w wx B X s m c (U x6 (so:Nat)) (H f l.length g) (U E (ru:Nat)) (U E (sk:Nat))/\wx.ownsRow w.heap.size 3 1 (H f l.length g) l.length (Zg l)))
 case rest=>
  obtain⟨so,ru,sk,m,l,f,g,rfl,hS,hV⟩:=hcut.o;have a:=o hS;have r:=o hV;obtain⟨q0,q1,q2,q3⟩:=au a.o.bx;obtain⟨p0,p1,p2,p3⟩:=au a.o.bp;have g0:=bF a.o.bp;go_wp2_with fail;exact xJ a.o r.o rfl
 have h7:x=0\/x=1\/x=2\/x=3\/x=4\/x=5\/x=6:=az;rcases h7 with rfl|rfl|rfl|rfl|rfl|rfl|rfl
 all_goals go_wp2_with fail
 iterate 3
  refine(AK _ B s j c d.o.rd).mono ?_
  rotate_left
 iterate 3
  refine(AL _ B s j c na z nc d.o.rd (HT.o _ d.o.fr).2 a0).mono ?_
  rotate_left
 ·go_meet;exact⟨6,0,0,j,[],I,0,L.o.symm,d.o,oZ _ _ _ _⟩
 all_goals
  intro e w2 Q;rcases Q.cases with⟨h2,rfl,u⟩|⟨y,k,_,h2,rfl,rfl,f0,i0⟩
  ·have T:N=I:=by rw[<-L.o];simp[Tb,Jz,Iv,h2]
   subst T;exact⟨rfl,rfl,d.o.fr.trans u⟩
  have H2:=o h2;have n:=o (d.o.call f0 i0);have z2:=Zc n.o.bx 2;have z3:=Zc n.o.bx 3;have ff:=bF n.o.bx;have V:=o (n.o.set 2 (U E (y:Nat)) rfl);have j0:=o (n.o.set 3 (U E (y:Nat)) rfl)
 iterate 3
  focus
   go_wp2_with fail;generalize w2.setCell ⟨X,3,I⟩ (U E (y:Nat))=W2 at*;have b:=j0
   first|refine(AM W2 B s k c 1000000000 b.o.rd).mono ?_|refine(OF W2 B s k c 9999 b.o.rd).mono ?_|refine(OF W2 B s k c 999 b.o.rd).mono ?_
  rotate_left
 ·go_wp2;go_meet;exact⟨3,y,0,k,[],I,0,by rw[<-L.o];simp[Iv,H2.o],V.o,World.ownsRow_nil _ _ _ _⟩
 iterate 2
  focus
   go_upto_region 17 with fail;generalize w2.setCell ⟨X,2,I⟩ (U E (y:Nat))=W2 at*;have b:=V;have b2:=Zc b.o.rd.bx 2;have t0:=(HT.o _ b.o.fr).1;have s0:j6.wrap ((q:Int)-1)=(q:Int)-1:=IntWalk.i64_in _ aI;go_wp2_with fail;refine(OF W2 B s k c ((q:Int)-1) b.o.rd).mono ?_
  rotate_left
 all_goals
  intro e w3 Q;rcases Q.cases with⟨h3,rfl,u⟩|⟨l,m,v,h3,rfl,hv,k0,l0⟩
  ·have T:N=I:=by rw[<-L.o];simp[Tb,Jz,Iv,H2.o,h3]
   subst T;exact⟨rfl,rfl,b.o.fr.trans u⟩
  have H3:=o h3;have t:=o (b.o.call k0 l0);have HV:=o (oS hv b.o.fr.size);obtain⟨f,g,e1⟩:=oL hv;subst e1;have z1:=Zc t.o.bx 1;have f1:=bF t.o.bx 1;have a:=o (t.o.set 1 (H f l.length g) rfl);have r:=o (RA HV.o t.o.bx 1 (H f l.length g));go_wp2;go_meet
  first|exact⟨_,0,y,m,l,f,g,by rw[<-L.o];simp[Tb,Jz,H2.o,H3.o],a.o,r.o⟩|exact⟨_,y,0,m,l,f,g,by rw[<-L.o];simp[Iv,H2.o,H3.o],a.o,r.o⟩
def IOq (w B s i b)(O F:Int)(ra t rc na u nc)(h:Yk w B s i b)(y:b≠B)(c0:w.cell? ⟨b,0,I⟩=Z (H ra t rc))(c1:w.cell? ⟨b,1,I⟩=Z (H na u nc))(f0:t<=6)(g0:u<=8)(D0:F<=255):
  z5 D 178 #[Y (Z ⟨B,0,I⟩),U E O,U E F,.func (.func 179) #[Y (Z ⟨B,0,I⟩)] #[]] w (Ou w B s b (YV s.data.toList O F (V1 s.data.toList t u) i) fun w' v c=>Z4 w.heap.size w' w.heap.size v c):=by
 have HH:=o (Z2 w B s i b 1 1 O F h aB rfl);have E0:B<w.heap.size:=(iA.1 h.bx).1
 have HO:G (∀W i,Fr (fun k=>k=B) w W->Yk W B s i b->z5 D 179 #[Y (Z ⟨B,0,I⟩)] W (Ou W B s b (V1 s.data.toList t u i) fun w' v x=>∃(J:Option Addr)(K:Nat),v=AN x.sort x.rule x.skip J x.nums.length K/\w'.ownsRow W.heap.size 3 1 (H J x.nums.length K) x.nums.length (Zg x.nums))):=fun W i L hR=>AO W B s i b ra t rc na u nc hR y ((L.cell (p:=⟨b,0,I⟩) (bL w _ c0) y).trans c0) ((L.cell (p:=⟨b,1,I⟩) (bL w _ c1) y).trans c1) f0 g0
 obtain⟨N,hN⟩:=ad (YV s.data.toList O F (V1 s.data.toList t u) i);rw[hN];have HN:=o hN;generalize V1 s.data.toList t u=d at*;go_enter func178,ntmps178;go_wp2_with fail;refine HH.o.mono ?_;intro e w1 q
 cases h1:Xa s.data.toList 1 O F i with
 |none=>
  rw[h1]at q;obtain⟨P,L⟩:=q
  have Q:N=I:=by rw[<-HN.o];exact Sf h1
  subst Q;unfold Tp at P;subst P;exact⟨rfl,rfl,L⟩
 |some nj=>
  obtain⟨n,j⟩:=nj;rw[h1]at q;obtain⟨⟨v,rfl,rfl⟩,l0,m0⟩:=q;have n0:=o l0;have o0:=o m0;have hn:n<=255:=aj (Yu h1).2
  have p0:G (YO d [] n j=N):=by show _=_;rw[<-HN.o];exact(Se h1).symm
  go_wp2
  go_loopg [9,14] n (fun m ov kv wr=>∃(k:Nat)(c:List Zl)(z:Nat),k<=n/\m=n-k/\kv=U E (k:Nat)/\c.length=k/\G (Yk wr B s z b)/\G (Z4 w.heap.size wr w.heap.size ov c)/\G (YO d c (n-k) z=N)/\G (Fr (fun k=>k=B) w wr))
  case atStart=>exact⟨0,[],j,az,rfl,rfl,rfl,n0,⟨[],oZ _ _ _ _,rfl⟩,p0,o0⟩
  obtain⟨k,c,z,M,rfl,rfl,g,HR,S,T,l⟩:=hrel;obtain⟨ys,A,q0⟩:=S.o;rw[g]at A;obtain⟨oa,oc,ho⟩:=oL A;subst ho;have r0:=o A;have s0:=o q0;by_cases F0:k<n
  ·have t0:=af k n
   have V:G (YO d c (n-(k+1)+1) z=N):=by show _=_;rw[show n-(k+1)+1=n-k from az];exact T.o
   go_wp2_with fail;refine(HO.o wr z l.o HR.o).mono ?_;intro e X q
   cases h2:d z with
   |none=>
    rw[h2]at q;obtain⟨P,L⟩:=q
    have Q:N=I:=by rw[<-V.o];exact UY h2
    subst Q;unfold Tp at P;subst P;exact⟨rfl,rfl,l.o.trans L⟩
   |some xj=>
    obtain⟨x,j3⟩:=xj;rw[h2]at q;obtain⟨⟨v,rfl,J,K,rfl,v0⟩,w0,C⟩:=q;have x0:=o (oS v0 l.o.size);have y0:=o w0;have a0:=o (l.o.trans C);have r:=o (oF r0.o C (fun k M=>az));have b0:=o (s0.o.keep (fun v n ys hv=>oF hv C (fun k M=>az)))
    have z0:G (YO d (c++[x]) (n-(k+1)) j3=N):=by show _=_;rw[<-V.o];exact(UZ h2).symm
    unfold AN
    go_wp2_with (at_builtin;refine ao w.heap.size TR underlying129 (H oa k oc) k ys ?h1 ⟨X.heap.size,0,I⟩ [U x6 (x.sort:Nat),H J x.nums.length K,U E (x.rule:Nat),U E (x.skip:Nat)] ?h2 ?_ (k4:=?h6))
    case h1=>exact r.o.alloc _
    try case h2=>exact y9 (aN X (R #[U x6 (x.sort:Nat),H J x.nums.length K,U E (x.rule:Nat),U E (x.skip:Nat)] 208))
    case h6=>have:=a0.o.size;simp;omega
    intro g2 d0 w8 e0 a G0 _;have A0:G (Fr (fun k=>k=B) w w8):=(a0.o.alloc _).grown a (fun k M=>x8 (r.o.lt k M).1)
    have B0:G (Yk w8 B s j3 b):=by
     have f:Fr (fun k'=>(q7 oa k oc).ownBlock=Z k') X w8:=(Zo.alloc _).grown a (fun k M=>.inl M);exact y0.o.fr f (fun hb=>aj (r.o.lt B hb).1)
    have C0:G (Z4 w.heap.size w8 w.heap.size (H (Z ⟨g2,0,I⟩) (k+1) d0) (c++[x])):=by
     have ha:∀v n zs,X.ownsRow w.heap.size 3 1 v n zs->(X.alloc (R #[U x6 (x.sort:Nat),H J x.nums.length K,U E (x.rule:Nat),U E (x.skip:Nat)] 208)).ownsRow w.heap.size 3 1 v n zs:=fun v n zs hv=>hv.alloc _
     have e:=Z4.grown (l':=[x]) (by rw[g];exact r.o.alloc _) (b0.o.keep ha) ((Xw.one ⟨_,rfl,x0.o⟩).keep ha) a (by rw[g];exact e0);rw[g]at e;exact e
    go_wp2;go_roundg (n-(k+1))
    case measure=>omega
    exact⟨k+1,c++[x],j3,az,rfl,aE,by simp[g],B0,C0,z0,A0⟩
  have t0:=ai k n
  have Q:N=Z (c,z):=by
   have e:=T.o;rw[show n-k=0 from az,Sd]at e;exact e.symm
  subst Q;go_wp2;go_ret;exact⟨⟨_,rfl,S.o⟩,HR.o,l.o⟩
def Du {l}(h:∀k s,l[k]?=Z s->k+s.skip<l.length):Ne l=true:=by
 unfold Ne;rw[j7];intro k b
 cases a:l[k]? with
 |none=>rfl
 |some s=>simpa using h k s a
def G1 {l k s}(a:l[k]?=Z s)(h:¬k+s.skip<l.length):Ne l=false:=by
 cases e:Ne l with
 |false=>rfl
 |true=>
  have:=j7.1 e k (j9.2 (iG.1 a).1);rw[a]at this;exact absurd (by simpa using this) h
def IP (w B s i C ra u rc na y nc)(h:Yk w B s i C)(T:C≠B)(c0:w.cell? ⟨C,0,I⟩=Z (H ra u rc))(c1:w.cell? ⟨C,1,I⟩=Z (H na y nc))(V:u<=6)(a0:y<=8):
  z5 D 126 #[Y (Z ⟨B,0,I⟩)] w (Ou w B s C (Tc s.data.toList u y i) fun w' v l=>Z4 w.heap.size w' w.heap.size v l):=by
 have n0:∀(fn:Fn)(first F:Array x5)(w:z9),(Instr.makeFunc fn first F).run D w=.ok (.func fn first F) w:=fun _ _ _ _=>rfl
 have HM:=o (IOq w B s i C 1 255 ra u rc na y nc h T c0 c1 V a0 az);obtain⟨N,Q⟩:=ad (Tc s.data.toList u y i);rw[Q];unfold Tc at Q;obtain⟨r,hr⟩:=ad (YV s.data.toList 1 255 (V1 s.data.toList u y) i)
 have HL:G (∀l j,r=Z (l,j)->l.length<=255/\∀q,q∈l->q.skip<=255):=fun l j e=>by
  rw[e]at hr;obtain⟨_,e2,e3⟩:=Wm (P:=ET u y) (fun i x j hx=>M9 hx) hr;exact⟨az,fun q S=>(e3 q S).sk⟩
 rw[hr]at HM Q;have HN:=o Q;go_enter func126,ntmps126;go_wp2_with fail;refine HM.o.mono ?_;intro e w1 hp
 cases r with
 |none=>
  obtain⟨J,hf⟩:=hp;have K:=HN.o.symm;subst K;unfold Tp at J;subst J;exact⟨rfl,rfl,hf⟩
 |some lj=>
  obtain⟨l,j⟩:=lj;obtain⟨⟨v,rfl,hv⟩,hR,hf⟩:=hp;have HR:=o hR;have HF:=o hf;have HV:=o hv;obtain⟨hl,b0⟩:=HL.o l j rfl;have f0:=o b0;have g0:=hv;obtain⟨xs,hx,_⟩:=g0;obtain⟨pa,pc,e1⟩:=oL hx;subst e1;have h0:=o (Le.of hv (z7 w1.heap.size));have L:=o HN;obtain⟨n,hn⟩:=ad l.length;have z:=o hn;rw[hn]at hl ⊢;rw[hn]at HV;go_wp2
  go_loopg [12] n (fun m kv wr=>∃k:Nat,k<=n/\m=n-k/\kv=U E (k:Nat)/\G (∀q a,q<k->l[q]?=Z a->q+a.skip<n)/\G (F0 w1 wr))
  case atStart=>exact⟨0,az,rfl,rfl,fun q _ h=>az,Zo⟩
  obtain⟨k,hk,rfl,rfl,HA,b⟩:=hrel;by_cases o0:k<n
  ·have i0:=af k n;obtain⟨a,c⟩:∃a,l[k]?=Z a:=⟨_,gE (aj z.o)⟩;obtain⟨g,qa,qc,rfl,_,d0,d1,d2,d3,_,_⟩:=h0.o k a c;have d:=bL w1 _ d0;have e0:=(b.o.cell (p:=⟨g,k*4,I⟩) d).trans d0;have e1:=(b.o.cell (p:=⟨g,k*4+1,I⟩) d).trans d1;have e2:=(b.o.cell (p:=⟨g,k*4+2,I⟩) d).trans d2;have e3:=(b.o.cell (p:=⟨g,k*4+3,I⟩) d).trans d3;have j0:=f0.o a (mG c);have M:=o (b.o.alloc (R #[U x6 (a.sort:Nat),H qa a.nums.length qc,U E (a.rule:Nat),U E (a.skip:Nat)] 208));have k0:=(WM wr (R #[U x6 (a.sort:Nat),H qa a.nums.length qc,U E (a.rule:Nat),U E (a.skip:Nat)] 208)).2;go_upto_region 5 with fail;generalize wr.alloc _=W at*;generalize wr.heap.size=X at*;have x3:=Zc k0.o 3;by_cases O:k+a.skip<n
   ·have l0:(k:Int)+(a.skip:Int)<(n:Int):=az
    have m0:G (∀q a,q<k+1->l[q]?=Z a->q+a.skip<n):=fun q t S f=>by
     by_cases e:q=k
     ·subst e;rw[c]at f;injection f with f;subst f;exact O
     exact HA.o q t az f
    go_wp2_with fail;refine(WV _).mono ?_;rintro e w2 ⟨rfl,A⟩;replace A:=A.symm;subst A;go_wp2;go_roundg (n-(k+1))
    case measure=>omega
    exact⟨k+1,az,rfl,aE,m0,M⟩
   have l0:¬(k:Int)+(a.skip:Int)<(n:Int):=az
   have K:N=I:=by rw[<-L.o,G1 c (by rw[z.o];exact O)];rfl
   subst K;go_wp2_with fail;refine(Wx _).mono ?_;rintro e w2 ⟨J,A⟩;replace A:=A.symm;subst A;unfold Tp at J;subst J;exact⟨rfl,rfl,HF.o.trans (M.o.mono)⟩
  have i0:=ai k n
  have K:N=Z (l,j):=by
   rw[<-L.o,Du (fun q t f=>by
    have S:=(iG.1 f).1;have hl:=z.o;rw[hl]at S ⊢
    exact HA.o q t az f)]
   rfl
  subst K;go_wp2;go_ret;exact⟨⟨_,rfl,PI HV.o b.o⟩,HR.o.fr b.o,HF.o.trans (b.o.mono)⟩
def IQ:(D.info? 129).map (fun i=>(i.zero,i.size,i.bytes))=Z (Z (H I 0 0),1,24):=n
def Xw.base {b a:Nat}{w:z9}(d:a<=b):∀{l:List Zl}{f:List x5},Xw b w l f->Xw a w l f
 |[],_,h=>h
 |_::_,_,⟨c,rest,e,⟨vn,e1,h1⟩,h2⟩=>⟨c,rest,e,⟨vn,e1,oS h1 d⟩,Xw.base d h2⟩
def Z4.base {b a w v l}(h:Z4 b w b v l)(c:a<=b):Z4 a w a v l:=by
 obtain⟨d,e,f⟩:=h;exact⟨d,oS e c,f.base c⟩
def PX (a:Nat)(w:z9)(v:x5)(b:List (List Zl)):Prop:=∃c,w.ownsRow a 129 1 v b.length c/\∀(j:Nat)(l:List Zl),b[j]?=Z l->∃d,c[j]?=Z d/\Z4 a w a d l
def IR (w B s i b)(Q L:Int)(ra z rc na A nc)(h:Yk w B s i b)(C:b≠B)(c0:w.cell? ⟨b,0,I⟩=Z (H ra z rc))(c1:w.cell? ⟨b,1,I⟩=Z (H na A nc))(i0:z<=6)(j0:A<=8)(H0:L<=255):
  z5 D 125 #[Y (Z ⟨B,0,I⟩),U E Q,U E L,.func (.func 126) #[Y (Z ⟨B,0,I⟩)] #[]] w (Ou w B s b (YV s.data.toList Q L (Tc s.data.toList z A) i) fun w' v c=>PX w.heap.size w' v c):=by
 have HH:=o (Z2 w B s i b 1 1 Q L h aB rfl);have I0:B<w.heap.size:=(iA.1 h.bx).1
 have HO:G (∀W i,Fr (fun k=>k=B) w W->Yk W B s i b->z5 D 126 #[Y (Z ⟨B,0,I⟩)] W (Ou W B s b (Tc s.data.toList z A i) fun w' v x=>Z4 W.heap.size w' W.heap.size v x)):=fun W i M hR=>IP W B s i b ra z rc na A nc hR C ((M.cell (p:=⟨b,0,I⟩) (bL w _ c0) C).trans c0) ((M.cell (p:=⟨b,1,I⟩) (bL w _ c1) C).trans c1) i0 j0
 obtain⟨N,hN⟩:=ad (YV s.data.toList Q L (Tc s.data.toList z A) i);rw[hN];have HN:=o hN;generalize Tc s.data.toList z A=d at*;go_enter func125,ntmps125;go_wp2_with fail;refine HH.o.mono ?_;intro e w1 r
 cases h1:Xa s.data.toList 1 Q L i with
 |none=>
  rw[h1]at r;obtain⟨S,M⟩:=r
  have T:N=I:=by rw[<-HN.o];exact Sf h1
  subst T;unfold Tp at S;subst S;exact⟨rfl,rfl,M⟩
 |some nj=>
  obtain⟨n,j⟩:=nj;rw[h1]at r;obtain⟨⟨v,rfl,rfl⟩,o0,p0⟩:=r;have q0:=o o0;have r0:=o p0;have hn:n<=255:=aj (Yu h1).2
  have s0:G (YO d [] n j=N):=by show _=_;rw[<-HN.o];exact(Se h1).symm
  go_wp2
  go_loopg [9,14] n (fun m ov kv wr=>∃(k:Nat)(c:List (List Zl))(F:Nat),k<=n/\m=n-k/\kv=U E (k:Nat)/\c.length=k/\G (Yk wr B s F b)/\G (PX w.heap.size wr ov c)/\G (YO d c (n-k) F=N)/\G (Fr (fun k=>k=B) w wr))
  case atStart=>exact⟨0,[],j,az,rfl,rfl,rfl,q0,⟨[],oZ _ _ _ _,fun j l h=>by simp at h⟩,s0,r0⟩
  obtain⟨k,c,F,t,rfl,rfl,u,HR,V,X,g⟩:=hrel;obtain⟨ys,J,t0⟩:=V.o;rw[u]at J;obtain⟨oa,oc,ho⟩:=oL J;subst ho;have v0:=o J;have w0:=o t0;by_cases J0:k<n
  ·have x0:=af k n
   have a0:G (YO d c (n-(k+1)+1) F=N):=by show _=_;rw[show n-(k+1)+1=n-k from az];exact X.o
   go_wp2_with fail;refine(HO.o wr F g.o HR.o).mono ?_;intro e O r
   cases h2:d F with
   |none=>
    rw[h2]at r;obtain⟨S,M⟩:=r
    have T:N=I:=by rw[<-a0.o];exact UY h2
    subst T;unfold Tp at S;subst S;exact⟨rfl,rfl,g.o.trans M⟩
   |some xj=>
    obtain⟨x,j3⟩:=xj;rw[h2]at r;obtain⟨⟨v,rfl,b0⟩,y0,K⟩:=r;obtain⟨zs,z0,_⟩:=id b0;obtain⟨qa,qc,e1⟩:=oL z0;subst e1;have A0:=o (b0.base g.o.size);have B0:=o y0;have d0:=o (g.o.trans K);have q:=o (oF v0.o K (fun k t=>az))
    have e0:G (∀(j:Nat)(l:List Zl),c[j]?=Z l->∃P,ys[j]?=Z P/\Z4 w.heap.size O w.heap.size P l):=fun j l y=>by
     obtain⟨P,e1,e2⟩:=w0.o j l y;exact⟨P,e1,RQ e2 (z7 _) K (fun k t=>az)⟩
    have C0:G (YO d (c++[x]) (n-(k+1)) j3=N):=by show _=_;rw[<-a0.o];exact(UZ h2).symm
    go_wp2_with (at_builtin;refine ao w.heap.size IQ underlying130 (H oa k oc) k ys ?h1 ⟨O.heap.size,0,I⟩ [H qa x.length qc] ?h2 ?_ (k4:=?h6))
    case h1=>exact q.o.alloc _
    try case h2=>exact y9 (aN O (R #[H qa x.length qc] 129))
    case h6=>have:=d0.o.size;simp;omega
    intro g2 f0 w8 g0 a K0 _;have D0:G (Fr (fun k=>k=B) w w8):=(d0.o.alloc _).grown a (fun k t=>x8 (q.o.lt k t).1)
    have E0:G (Yk w8 B s j3 b):=by
     have f:Fr (fun k'=>(q7 oa k oc).ownBlock=Z k') O w8:=(Zo.alloc _).grown a (fun k t=>.inl t);exact B0.o.fr f (fun hb=>aj (q.o.lt B hb).1)
    have F0:G (PX w.heap.size w8 (H (Z ⟨g2,0,I⟩) (k+1) f0) (c++[x])):=by
     have t:∀v l,Z4 w.heap.size O w.heap.size v l->Z4 w.heap.size w8 w.heap.size v l:=fun v l hs=>by
      obtain⟨us,u1,u2⟩:=hs;have o1:(O.alloc (R #[H qa x.length qc] 129)).ownsRow w.heap.size 129 1 (H oa k oc) k ys:=q.o.alloc _;exact⟨us,(u1.alloc _).kept a (WP (u1.alloc _) o1 aB),u2.keep (fun v n zs hv=>(hv.alloc _).kept a (WP (hv.alloc _) o1 aB))⟩
     refine⟨ys++[H qa x.length qc],by rw[lA,u];exact g0,fun j l y=>?_⟩
     have G0:ys.length=k:=by have e:=q.o.1;simpa using e
     by_cases L0:j<k
     ·rw[j2 az]at y;obtain⟨P,e1,e2⟩:=e0.o j l y;exact⟨P,by rw[j2 az];exact e1,t _ _ e2⟩
     rw[aR az,u]at y
     have h0:j-k=0:=by
      have:=(iG.1 y).1;simp at this;omega
     rw[h0]at y;simp at y;subst y;exact⟨_,by rw[aR az,G0,h0];rfl,t _ _ A0.o⟩
    go_wp2;go_roundg (n-(k+1))
    case measure=>omega
    exact⟨k+1,c++[x],j3,az,rfl,aE,by simp[u],E0,F0,C0,D0⟩
  have x0:=ai k n
  have T:N=Z (c,F):=by
   have e:=X.o;rw[show n-k=0 from az,Sd]at e;exact e.symm
  subst T;go_wp2;go_ret;exact⟨⟨_,rfl,V.o⟩,HR.o,g.o⟩
def RB (w:z9)(K:Nat)(e:List Tr):Prop:=∃c:Array x5,w.heap[K]?=Z (R c 248)/\c.size=20/\∀d t,e[d]?=Z t->∃a b,c[d*2]?=Z a/\c[d*2+1]?=Z b/\Xm w (K+1) t (q6 #[a,b])
def RB.fr {w w' K ts S}(h:RB w K ts)(c:Fr S w w')(e:∀k,K<=k->¬S k:=by simp):RB w' K ts:=by
 obtain⟨cs,f,g,i⟩:=h;refine⟨cs,c.whole f (e K (z7 _)),g,fun d t j=>?_⟩;obtain⟨a,b,l,m,n⟩:=i d t j;exact⟨a,b,l,m,n.keep' c (fun k o=>e k z)⟩
def RB.more {w K c t a b}(h:RB w K c)(A:c.length<10)(j:Xm w (K+1) t (q6 #[a,b])):RB ((w.setCell ⟨K,c.length*2,I⟩ a).setCell ⟨K,c.length*2+1,I⟩ b) K (c++[t]):=by
 obtain⟨B,l,m,n⟩:=h;have o:=heap_setCell_same w K (c.length*2) _ _ a l;have q:=heap_setCell_same _ K (c.length*2+1) _ _ b o;have i:=((Fr.refl (fun k=>k=K) w).setCell (p:=⟨K,c.length*2,I⟩) (y6 rfl) a).setCell (p:=⟨K,c.length*2+1,I⟩) (y6 rfl) b;refine⟨_,q,by simp[m],fun d u e=>?_⟩;by_cases f:d<c.length
 ·rw[j2 f]at e;obtain⟨x,y,r,s,v⟩:=n d u e;refine⟨x,y,?_,?_,v.keep' i (fun k z=>az)⟩
  ·rw[Array.getElem?_setIfInBounds_ne az,Array.getElem?_setIfInBounds_ne az];exact r
  rw[Array.getElem?_setIfInBounds_ne az,Array.getElem?_setIfInBounds_ne az];exact s
 have g:d=c.length:=by
  have:=(iG.1 e).1;simp at this;omega
 subst g;rw[aR (z7 _),Nat.sub_self]at e;simp at e;subst e;refine⟨a,b,?_,?_,j.keep' i (fun k z=>az)⟩
 ·rw[Array.getElem?_setIfInBounds_ne az,Array.getElem?_setIfInBounds_self_of_lt az]
 rw[Array.getElem?_setIfInBounds_self_of_lt aF]
def sQ (w:z9)(B:Nat)(s:ByteArray)(c:Nat)(r:Option (Tr×Nat)):Ending->z9->Prop:=Ou w B s c r fun d v t=>∃a b,v=q6 #[a,b]/\Xm d w.heap.size t (q6 #[a,b])
def AP {b}{a f i j:Nat}(h:Xa b 1 0 a i=Z (0,j)):XG b a (f+1) i=if f=0 then I else(YO (XG b a f) [] 10 j).map fun p=>(Tr.node (fun d=>p.1.getD d (.leaf 0)),p.2):=by
 conv=>lhs;unfold XG
 rw[h]
 dsimp only
 split
 ·rfl
 unfold YO
 cases WU (XG b a f) 10 j<;>simp
def AQ {b}{a f i x j:Nat}(h:Xa b 1 0 a i=Z (x+1,j)):XG b a (f+1) i=Z (.leaf x,j):=by
 conv=>lhs;unfold XG
 rw[h]
def AR {b}{a f i:Nat}(h:Xa b 1 0 a i=I):XG b a (f+1) i=I:=by
 conv=>lhs;unfold XG
 rw[h]
def G2 {w W B m d s t a b g h}(i:Yk W B s m d)(j:W.heap[w.heap.size]?=Z (R #[g,h] 133))(l:Fr (fun k=>k=B) w W)(x:B<w.heap.size)(n:Xm W (w.heap.size+1) t (q6 #[a,b])){tm}(c:tm[4]?=Z (Y (Z ⟨w.heap.size,0,I⟩))):
  bodyPost D f127 (Ou w B s d (Z (t,m)) fun o v t=>∃a b,v=q6 #[a,b]/\Xm o w.heap.size t (q6 #[a,b])) .ret ⟨tm,[]⟩ ((W.setCell ⟨w.heap.size,0,I⟩ a).setCell ⟨w.heap.size,1,I⟩ b):=by
 have q:=heap_setCell_same W w.heap.size 0 _ _ a j;have e:=heap_setCell_same _ w.heap.size 1 _ _ b q;have f:=((Fr.refl (fun k=>k=w.heap.size) W).setCell (p:=⟨w.heap.size,0,I⟩) (y6 rfl) a).setCell (p:=⟨w.heap.size,1,I⟩) (y6 rfl) b;have g1:=i.fr f (by show¬B=w.heap.size;omega);have g2:=n.keep' f (fun k y=>az);have g3:=(l.setCell (p:=⟨w.heap.size,0,I⟩) (x8 (z7 _)) a).setCell (p:=⟨w.heap.size,1,I⟩) (x8 (z7 _)) b;obtain⟨r,u⟩:=ap e;generalize(W.setCell ⟨w.heap.size,0,I⟩ a).setCell ⟨w.heap.size,1,I⟩ b=z at*;exact bodyPost_ret (v:=q6 #[a,b]) (by simp[results,results127,go_sem,c,r,u]) rfl ⟨⟨_,rfl,a,b,rfl,Xm.low az _ _ g2⟩,g1,g3⟩
def LG (B s g c pa)(pc f:Nat)(w0:g≠B)(a1:c<=255)(b1:f<=6)(IH:f≠0->G (∀w i,Yk w B s i g->w.cell? ⟨g,2,I⟩=Z (H pa c pc)->z5 D 127 #[Y (Z ⟨B,0,I⟩),U E (7-(f:Int))] w (sQ w B s g (XG s.data.toList c f i))))(w i)(h:Yk w B s i g)(V:w.cell? ⟨g,2,I⟩=Z (H pa c pc)):
  z5 D 127 #[Y (Z ⟨B,0,I⟩),U E (6-(f:Int))] w (sQ w B s g (XG s.data.toList c (f+1) i)):=by
 obtain⟨X,a0⟩:=ad (w.alloc (R #[Y I,U E 0] 133));have h0:B<w.heap.size:=(iA.1 h.bx).1
 have F:G (F0 w X):=by show Fr _ _ _;rw[<-a0];exact Zo.alloc _
 have x0:G (X.heap[w.heap.size]?=Z (R #[Y I,U E 0] 133)):=by show _=_;rw[<-a0];exact aN w _
 have i0:=o (h.fr F.o)
 have HT:G (∀W,Fr (fun k=>k=B) w W->W.cell? ⟨g,2,I⟩=Z (H pa c pc)):=fun W hf=>(hf.cell (p:=⟨g,2,I⟩) (bL w _ V) w0).trans V
 obtain⟨N,hN⟩:=ad (XG s.data.toList c (f+1) i);rw[hN];have HN:=o hN
 have c1:w.heap.size<X.heap.size:=by rw[<-a0];simp
 have b2:=Zc i0.o.bx 2;have t2:=HT.o X (F.o.mono)
 have A0:G (f≠0->∀(w:z9)(i:Nat),Yk w B s i g->w.cell? ⟨g,2,I⟩=Z (H pa c pc)->z5 D 127 #[Y (Z ⟨B,0,I⟩),U E (7-(f:Int))] w (sQ w B s g (XG s.data.toList c f i))):=fun hf=>(IH hf).out
 unfold sQ;go_enter func127,ntmps127;go_upto_region 1 with fail;go_wp2_with fail;refine(Z2 X B s i g 1 1 0 c i0.o aB rfl).mono ?_;intro e u C
 cases h1:Xa s.data.toList 1 0 c i with
 |none=>
  rw[h1]at C;obtain⟨Q,hf⟩:=C
  have J:N=I:=by rw[<-HN.o];exact AR h1
  subst J;unfold Tp at Q;subst Q;exact⟨rfl,rfl,(F.o.mono).trans hf⟩
 |some xj=>
  obtain⟨x,j⟩:=xj;rw[h1]at C;obtain⟨⟨v,rfl,rfl⟩,B0,b0⟩:=C;have hx:x<=c:=aj (Yu h1).2;have j0:=o B0;have d0:=o ((F.o.mono).trans b0);have n:G (u.heap[w.heap.size]?=Z (R #[Y I,U E 0] 133)):=b0.whole x0.o (by show¬w.heap.size=B;omega);have hK:w.heap.size<u.heap.size:=aj b0.size
  cases x with
  |succ y=>
   have J:N=Z (.leaf y,j):=by rw[<-HN.o];exact AQ h1
   subst J;have hz:(((y+1:Nat):Int) !=0)=true:=aF
   have d1:j6.wrap (((y+1:Nat):Int)-1)=(y:Int):=by rw[IntWalk.i64_in _ aI];omega
   obtain⟨p0,p1⟩:=ap n.o;have g0:=bF n.o;go_wp2_with fail;exact G2 (t:=.leaf y) (a:=Y I) (b:=U E (y:Nat)) j0.o n.o d0.o h0 rfl rfl
  |zero=>
   have k0:G ((if f=0 then I else(YO (XG s.data.toList c f) [] 10 j).map fun p=>(Tr.node (fun d=>p.1.getD d (.leaf 0)),p.2))=N):=by show _=_;rw[<-HN.o];exact(AP h1).symm
   by_cases e0:f=0
   ·have C0:decide ((6-(f:Int))<6)=false:=aF
    have J:N=I:=by rw[<-k0.o,if_pos e0]
    subst J;go_wp2_with fail;refine(Wx _).mono ?_;rintro e w2 ⟨Q,hw⟩;replace hw:=hw.symm;subst hw;unfold Tp at Q;subst Q;exact⟨rfl,rfl,d0.o⟩
   have C0:(6-(f:Int))<6:=az
   have D0:G (((YO (XG s.data.toList c f) [] 10 j).map fun p=>(Tr.node (fun d=>p.1.getD d (.leaf 0)),p.2))=N):=by show _=_;rw[<-k0.o,if_neg e0]
   have E0:=o (A0.o e0)
   have f1:j6.wrap (6-(f:Int)+1)=7-(f:Int):=by rw[IntWalk.i64_in _ aI];omega
   generalize XG s.data.toList c f=L at*;go_wp2_with fail;refine(WV _).mono ?_;rintro e w2 ⟨rfl,hw⟩;replace hw:=hw.symm;subst hw;have f0:=(TL u (R #[Y I,U E 0,Y I,U E 0,Y I,U E 0,Y I,U E 0,Y I,U E 0,Y I,U E 0,Y I,U E 0,Y I,U E 0,Y I,U E 0,Y I,U E 0] 248) (R #[Y (Z ⟨u.heap.size,0,I⟩),U E 0] 133)).1;have G0:G (RB ((u.alloc (R #[Y I,U E 0,Y I,U E 0,Y I,U E 0,Y I,U E 0,Y I,U E 0,Y I,U E 0,Y I,U E 0,Y I,U E 0,Y I,U E 0,Y I,U E 0] 248)).alloc (R #[Y (Z ⟨u.heap.size,0,I⟩),U E 0] 133)) u.heap.size []):=⟨#[Y I,U E 0,Y I,U E 0,Y I,U E 0,Y I,U E 0,Y I,U E 0,Y I,U E 0,Y I,U E 0,Y I,U E 0,Y I,U E 0,Y I,U E 0],((Fr.refl (fun _=>False) _).alloc _).whole (aN u _),aA,fun d t hd=>by simp at hd⟩;have HX:=(TL u (R #[Y I,U E 0,Y I,U E 0,Y I,U E 0,Y I,U E 0,Y I,U E 0,Y I,U E 0,Y I,U E 0,Y I,U E 0,Y I,U E 0,Y I,U E 0] 248) (R #[Y (Z ⟨u.heap.size,0,I⟩),U E 0] 133)).2.2;go_upto_region 6 with fail;generalize((u.alloc _).alloc _)=W2 at*;have H0:=o (j0.o.fr f0.o);have I0:=o (f0.o.whole n.o);have J0:=o (d0.o.trans (f0.o.mono));generalize u.heap.size=K at*;go_wp2
   go_loopg [28] 10 (fun m kv wr=>∃(k:Nat)(l:List Tr)(jj:Nat),k<=10/\m=10-k/\kv=U E (k:Nat)/\l.length=k/\G (Yk wr B s jj g)/\G (RB wr K l)/\G (wr.heap[K+1]?=Z (R #[Y (Z ⟨K,0,I⟩),U E 0] 133))/\G (wr.heap[w.heap.size]?=Z (R #[Y I,U E 0] 133))/\G (((YO L l (10-k) jj).map fun p=>(Tr.node (fun d=>p.1.getD d (.leaf 0)),p.2))=N)/\G (Fr (fun k=>k=B) w wr))
   case atStart=>exact⟨0,[],j,az,rfl,rfl,rfl,H0,G0,HX,I0,D0,J0⟩
   obtain⟨k,l,jj,hk,rfl,rfl,l0,HR,HK,z,r,m0,M⟩:=hrel;by_cases i1:k<10
   ·have K0:(k:Int)<10:=az
    have n0:G (((YO L l (10-(k+1)+1) jj).map fun p=>(Tr.node (fun d=>p.1.getD d (.leaf 0)),p.2))=N):=by show _=_;rw[show 10-(k+1)+1=10-k from az];exact m0.o
    have c0:=Zc z.o 0;go_wp2_with fail;have O:G (F0 wr wr.drew):=Zo.drew;refine wp_region_held_drew (S:=fun W=>W.cell? ⟨K+1,0,I⟩=Z (Y (Z ⟨K,0,I⟩))) aC (by simpa using c0) (fun hH=>?_)
    iterate 6 (refine Yy 0 hH ?_;try go_frame)
    refine ZJ 7 hH ?_
    try go_frame
    refine WI 6 (fun K2 hK=>?_);go_simp;refine(E0.o wr.drew jj (HR.o.fr O.o) (HT.o _ (M.o.trans (O.o.mono)))).mono ?_;intro e T C;unfold sQ at C
    cases V:L jj with
    |none=>
     rw[V]at C;obtain⟨Q,hf⟩:=C
     have J:N=I:=by rw[<-n0.o,UY V];rfl
     subst J;unfold Tp at Q;subst Q;exact⟨rfl,rfl,(M.o.trans (O.o.mono)).trans hf⟩
    |some tj=>
     obtain⟨t,j3⟩:=tj;rw[V]at C;obtain⟨⟨v,rfl,a,b,rfl,o0⟩,L0,M0⟩:=C
     have N0:G (((YO L (l++[t]) (10-(k+1)) j3).map fun p=>(Tr.node (fun d=>p.1.getD d (.leaf 0)),p.2))=N):=by show _=_;rw[<-n0.o,UZ V]
     have f3:=(O.o.mono).trans M0;obtain⟨A,kb,rfl,rfl⟩:=Xm.form o0;have r0:G (T.heap[K+1]?=Z (R #[Y (Z ⟨K,0,I⟩),U E 0] 133)):=f3.whole z.o (by show¬K+1=B;omega);have O0:G (T.heap[w.heap.size]?=Z (R #[Y I,U E 0] 133)):=f3.whole r.o (by show¬w.heap.size=B;omega);have s0:=o (HK.o.fr f3 (fun k hk=>az));have P0:=o (M.o.trans f3);have j1:K+1<wr.heap.size:=(iA.1 z.o).1;have Q0:G (Xm T (K+1) t (q6 #[Y A,U E (kb:Nat)])):=Xm.low (by show K+1<=wr.drew.heap.size;have:wr.drew.heap.size=wr.heap.size:=rfl;omega) _ _ o0;have R0:=o L0;have c3:=Zc r0.o 0;refine hK.out _ _ c3 (fun hH=>?_)
     try go_frame
     refine ZJ 8 hH ?_
     try go_frame
     obtain⟨cs,P,l1,_⟩:=id s0.o;have y0:=bC P (k*2) _ (Array.getElem?_eq_getElem az);have y1:=bC P (k*2+1) _ (Array.getElem?_eq_getElem az);have z0:=bF P (k*2);have z1:=bF P (k*2+1);refine WI 9 (fun K2 hK=>?_);go_simp;have hm:=s0.o.more (a:=Y A) (b:=U E (kb:Nat)) az Q0.o;rw[l0]at hm;have S0:=o hm;have hS:Fr (fun q=>q=K) T ((T.setCell ⟨K,k*2,I⟩ (Y A)).setCell ⟨K,k*2+1,I⟩ (U E (kb:Nat))):=((Fr.refl (fun q=>q=K) T).setCell (p:=⟨K,k*2,I⟩) (y6 rfl) _).setCell (p:=⟨K,k*2+1,I⟩) (y6 rfl) _;have T0:=o (R0.o.fr hS (by show¬B=K;omega));have t0:=o (hS.whole r0.o (by show¬K+1=K;omega));have V0:=o (hS.whole O0.o (by show¬w.heap.size=K;omega));have X0:G (Fr (fun k=>k=B) w ((T.setCell ⟨K,k*2,I⟩ (Y A)).setCell ⟨K,k*2+1,I⟩ (U E (kb:Nat)))):=(P0.o.setCell (p:=⟨K,k*2,I⟩) (x8 (by show w.heap.size<=K;omega)) _).setCell (p:=⟨K,k*2+1,I⟩) (x8 (by show w.heap.size<=K;omega)) _;have c4:=Zc t0.o 0;refine hK.out _ _ c4 (fun _=>?_)
     try go_frame
     generalize(T.setCell ⟨K,k*2,I⟩ (Y A)).setCell ⟨K,k*2+1,I⟩ (U E (kb:Nat))=W4 at*;refine wpAnyH_done aC ?_ _;go_wp2;go_roundg (10-(k+1))
     case measure=>omega
     exact⟨k+1,l++[t],j3,az,rfl,aE,by simp[l0],T0,S0,t0,V0,N0,X0⟩
   have K0:¬(k:Int)<10:=az;have Z0:k=10:=az
   have J:N=Z (Tr.node (fun d=>l.getD d (.leaf 0)),jj):=by
    rw[<-m0.o,show 10-k=0 from az,Sd];rfl
   subst J
   have Y0:G (Xm wr (w.heap.size+1) (Tr.node (fun d=>l.getD d (.leaf 0))) (q6 #[Y (Z ⟨K,0,I⟩),U E 0])):=by
    obtain⟨cs,k1,k2,k3⟩:=HK.o;refine⟨K,cs,rfl,az,k1,k2,fun d hd=>?_⟩;have v0:d<l.length:=az;obtain⟨a,b,e1,e2,e3⟩:=k3 d l[d] (gE v0);refine⟨a,b,e1,e2,?_⟩
    show Xm _ _ (l.getD d (.leaf 0)) _
    rw[show l.getD d (.leaf 0)=l[d]from by simp[v8,v0]];exact Xm.low az _ _ e3
   obtain⟨q0,q1⟩:=ap z.o;obtain⟨p0,p1⟩:=ap r.o;have g0:=bF r.o;go_wp2_with fail;exact G2 HR.o r.o M.o h0 Y0.o rfl
def JA (B:Nat)(s:ByteArray)(a d:Nat)(j:Option Addr)(k:Nat)(b:a≠B)(c:d<=255):∀(f:Nat),f<=6->∀(w:z9)(i:Nat),Yk w B s i a->w.cell? ⟨a,2,I⟩=Z (H j d k)->z5 D 127 #[Y (Z ⟨B,0,I⟩),U E (6-(f:Int))] w (sQ w B s a (XG s.data.toList d (f+1) i))
 |0,hf,w,i,h,g=>LG B s a d j k 0 b c hf (fun h=>absurd rfl h) w i h g
 | f+1,hf,w,i,h,g=>LG B s a d j k (f+1) b c hf (fun _=>o fun w i h g=>by
   have e:=JA B s a d j k b c f z w i h g;rw[show(7-((f+1:Nat):Int))=6-(f:Int)from z]
   exact e) w i h g
def G3 {l}(h:∀(k:Nat) s,l[k]?=Z s->UG s 0 l=(k:Int)):YW l=true:=by
 unfold YW;rw[j7];intro k _
 cases a:l[k]? with
 |none=>rfl
 |some s=>simpa using h k s a
def IS {l}{k:Nat}{s}(a:l[k]?=Z s)(h:¬UG s 0 l=(k:Int)):YW l=false:=by
 cases e:YW l with
 |false=>rfl
 |true=>
  have:=j7.1 e k (j9.2 (iG.1 a).1);rw[a]at this;exact absurd (by simpa using this) h
def LH (w a n c l)(h:ZX w a l)(x:l.length=n)(K:n<=1000):
  z5 D 123 #[H a n c] w fun e i=>e=z6 (q4 (YW l))/\i=w:=by
 have F:G (∀s,z5 D 66 #[H a n c,z4 s] w fun e i=>e=z6 (U E (UG s 0 l))/\i=w):=fun s=>by
  have e:=M4 w a c l s h aM;rw[x]at e;exact e
 have I:=Za h;have y:=Za x;obtain⟨b,A⟩:=ad (YW l);rw[A];have B:=Za A;go_enter func123,ntmps123;go_wp2
 go_loop [3,4,7] (fun _ _ j=>∃k:Nat,k<=n/\j=U E (k:Nat)/\G (∀(q:Nat) s,q<k->l[q]?=Z s->UG s 0 l=(q:Int))) (fun _ _ j=>n-(intOf j).toNat)
 case atStart=>exact⟨0,az,rfl,fun q s h=>az⟩
 obtain⟨k,L,rfl,C⟩:=hrel;by_cases J:k<n
 ·have m:=af k n;obtain⟨s,p⟩:∃s,l[k]?=Z s:=⟨_,gE (aj y.o)⟩;obtain⟨g,o,rfl,M⟩:=I.o k s p;go_wp2_with fail;refine(F.o s).mono ?_;rintro e N ⟨rfl,r⟩;replace r:=r.symm;subst r;by_cases f:UG s 0 l=(k:Int)
  ·rw[f]
   have u:G (∀(q:Nat) s,q<k+1->l[q]?=Z s->UG s 0 l=(q:Int)):=fun q t O d=>by
    by_cases e:q=k
    ·subst e;rw[p]at d;injection d with d;subst d;exact f
    exact C.o q t az d
   go_wp2_with fail;exact⟨⟨k+1,az,aE,u⟩,by simp[intOf];omega⟩
  have v:b=false:=by rw[<-B.o];exact IS p f
  subst v
  have P:(UG s 0 l !=(k:Int))=true:=by simpa using f
  generalize UG s 0 l=z at*;go_wp2;go_ret;exact⟨rfl,rfl⟩
 have m:=ai k n
 have v:b=true:=by
  rw[<-B.o];exact G3 (fun q t d=>C.o q t (ak (iG.1 d).1 y.o) d)
 subst v;go_wp2;go_ret;exact⟨rfl,rfl⟩
def tB (w:z9)(a:Option Addr)(l:List Zf):Prop:=∀k t,l[k]?=Z t->∃g,a=Z ⟨g,0,I⟩/\w.cell? ⟨g,k*3,I⟩=Z (z4 t.name)/\w.cell? ⟨g,k*3+1,I⟩=Z (U E (t.base:Nat))/\w.cell? ⟨g,k*3+2,I⟩=Z (U E (t.rate:Nat))
def AS {w c i d a}(h:w.ownsRow c 148 3 (H d a.length i) a.length (Ym a)):tB w d a:=fun k t f=>by
 have l:=(iG.1 f).1;obtain⟨g,j,e,_,m,b⟩:=U5 h z;injection e with e _ _;exact⟨g,e,b k t f⟩
def LI (w a n c l)(h:tB w a l)(hl:l.length=n)(hn:n<=6):
  z5 D 124 #[H a n c] w fun e L=>(∃v,e=z6 v/\L.ownsRow w.heap.size 9 1 v n (WY (l.map Zf.name)))/\F0 w L:=by
 have HS:=o h;have N:=o hl;obtain⟨M,O⟩:=ad (l.map Zf.name);rw[O];have P:=o O;go_enter func124,ntmps124;go_wp2
 go_loopg [3,8] n (fun m ov kv wr=>∃k:Nat,k<=n/\m=n-k/\kv=U E (k:Nat)/\G (wr.ownsRow w.heap.size 9 1 ov k (WY (M.take k)))/\G (F0 w wr))
 case atStart=>exact⟨0,z,rfl,rfl,oZ _ _ _ _,Zo⟩
 obtain⟨k,Q,rfl,rfl,A,b⟩:=hrel;obtain⟨S,T,s⟩:=oL A.o;subst s;by_cases a0:k<n
 ·have B:=af k n;obtain⟨t,V⟩:∃t,l[k]?=Z t:=⟨_,gE (aj N.o)⟩;obtain⟨g,rfl,W,d1,d2⟩:=HS.o k t V;have d:=bL w _ W;have e0:=(b.o.cell (p:=⟨g,k*3,I⟩) d).trans W;have e1:=(b.o.cell (p:=⟨g,k*3+1,I⟩) d).trans d1;have e2:=(b.o.cell (p:=⟨g,k*3+2,I⟩) d).trans d2
  have HT:G (WY (M.take (k+1))=WY (M.take k)++[z4 t.name]):=by show _=_;rw[j5,<-P.o,q8,V];simp[WY]
  have C:=(WM wr (R #[z4 t.name,U E (t.base:Nat),U E (t.rate:Nat)] 148)).2;have i:=o (b.o.alloc (R #[z4 t.name,U E (t.base:Nat),U E (t.rate:Nat)] 148));have j:G ((wr.alloc (R #[z4 t.name,U E (t.base:Nat),U E (t.rate:Nat)] 148)).ownsRow w.heap.size 9 1 (H S k T) k (WY (M.take k))):=A.o.alloc _;go_upto_region 5 with fail;generalize wr.alloc _=Y at*;have x0:=Zc C.o 0;generalize wr.heap.size=X at*
  go_wp2_with (at_builtin;refine ao w.heap.size PW underlying28 (H S k T) k (WY (M.take k)) ?h1 ⟨Y.heap.size,0,I⟩ [z4 t.name] ?h2 ?_ (k4:=?h6))
  case h1=>exact j.o.alloc _
  try case h2=>exact y9 (aN Y (R #[z4 t.name] 9))
  case h6=>have:=i.o.size;simp;omega
  intro g2 q w8 r f b0 _;have F:G (F0 w w8):=(i.o.alloc _).grown f (fun k Q=>x8 (j.o.lt k Q).1)
  have J:G (w8.ownsRow w.heap.size 9 1 (H (Z ⟨g2,0,I⟩) (k+1) q) (k+1) (WY (M.take (k+1)))):=by
   show v4 _ _ _ _ _ _ _
   rw[HT.o];exact r
  go_wp2;go_roundg (n-(k+1))
  case measure=>omega
  exact⟨k+1,z,rfl,aE,J,F⟩
 have B:=ai k n;have ek:k=n:=z;subst ek;have s:=A.o;rw[y8 (by rw[<-P.o,v9];have:=N.o;omega)]at s;have K:=o s;go_wp2;go_ret;exact⟨⟨_,rfl,K.o⟩,b.o⟩
def Qx (b:List UInt8):Option (NQ×Nat):=match YV b 0 6 (VE b) 0 with
 |none=>I
 |some (rts,i)=>match YV b 0 8 (UL b) i with
  |none=>I
  |some (nms,j)=>if YW (rts.map Zf.name)&&YW nms then(match YV b 1 255 (Tc b rts.length nms.length) j with
   |none=>I
   |some (prs,k)=>match XG b prs.length 7 k with
    |none=>I
    |some (t,l)=>Z (⟨rts,nms,prs,t⟩,l))else I
def xK (b):Nf b=match Qx b with|none=>I|some (t,l)=>if l=b.length then Z t else I:=by
 unfold Nf Qx
 cases YV b 0 6 (VE b) 0 with
 |none=>rfl
 |some p=>
  dsimp only
  cases YV b 0 8 (UL b) p.2 with
  |none=>rfl
  |some q=>
   dsimp only
   cases(YW (p.1.map Zf.name)&&YW q.1)with
   |false=>rfl
   |true=>
    simp only[if_true]
    cases YV b 1 255 (Tc b p.1.length q.1.length) q.2 with
    |none=>rfl
    |some r=>
     dsimp only
     cases XG b r.1.length 7 r.2<;>rfl
structure vw (w wx:z9)(B:Nat)(s:ByteArray)(j TT:Nat)(c0 c1 c2 c3 c4:x5):Prop where
 rd:Yk wx B s j TT
 bx:wx.heap[TT]?=Z (R #[c0,c1,c2,c3,c4] 135)
 fr:Fr (fun k=>k=B\/k=TT) w wx
 lB:B<w.heap.size
 lT:TT<w.heap.size
 ne:TT≠B
def vw.call {w c a B j d b s e f g i l}(h:vw w c B s j b e f g i l)(n:Yk a B s d b)(m:Fr (fun k=>k=B) c a):vw w a B s d b e f g i l:=
 ⟨n,m.whole h.bx h.ne,h.fr.trans (m.mono (fun _ o=>.inl o)),h.lB,h.lT,h.ne⟩
def vw.look {w b c B j d s e f g i k}(h:vw w b B s j d e f g i k)(a:F0 b c):vw w c B s j d e f g i k:=
 ⟨h.rd.fr a,a.whole h.bx,h.fr.trans (a.mono),h.lB,h.lT,h.ne⟩
def vw.set {w c B j a s d g i l m n q r t u}(h:vw w c B s j a d g i l m)(o v)(e:(#[d,g,i,l,m]:Array x5).setIfInBounds o v=#[n,q,r,t,u]):vw w (c.setCell ⟨a,o,I⟩ v) B s j a n q r t u:=by
 have f:=(Fr.refl (fun k=>k=a) c).setCell (p:=⟨a,o,I⟩) (y6 rfl) v;have b:=heap_setCell_same c a o _ _ v h.bx;rw[e]at b;exact⟨h.rd.fr f (fun e=>h.ne e.symm),b,h.fr.setCell (p:=⟨a,o,I⟩) (y6 (x8 rfl)) v,h.lB,h.lT,h.ne⟩
def Ub {w:z9}{a b t z v n c}(h:w.ownsRow a t z v n c)(d:b<a)(o u):(w.setCell ⟨b,o,I⟩ u).ownsRow a t z v n c:=
 oF h ((Fr.refl (fun k=>k=b) w).setCell (p:=⟨b,o,I⟩) (y6 rfl) u) (fun _ e=>az)
def PX.fr {base w w' v a S}(h:PX base w v a)(b:Fr S w w')(c:∀k,S k->k<base:=by simp):PX base w' v a:=by
 obtain⟨d,e,f⟩:=h;refine⟨d,oF e b c,fun j l g=>?_⟩;obtain⟨i,m,n⟩:=f j l g;exact⟨i,m,RQ n (z7 _) b c⟩
def PX.base {b a w v c}(h:PX b w v c)(d:a<=b):PX a w v c:=by
 obtain⟨e,f,g⟩:=h;refine⟨e,oS f d,fun j l i=>?_⟩;obtain⟨k,m,n⟩:=g j l i;exact⟨k,m,n.base d⟩
def LJ {w b v n l}(h:w.ownsRow b 9 1 v n (WY l))(p:l.length=n):∃a c,v=H a n c/\ZX w a l:=by
 obtain⟨a,c,e⟩:=oL h;subst e;refine⟨a,c,rfl,fun k s d=>?_⟩;have i:=(iG.1 d).1;obtain⟨g,j,e,_,_⟩:=h.form z;injection e with m q o;subst m o;have f:=h.cells (g:=g) rfl k (z4 s) (by simp[WY,d]);rw[Yf,v5]at f;exact⟨g,0,rfl,by rw[v5];exact f⟩
def G4 (a:Nat)(w:z9)(d:Nat)(t:NQ)(b:Option Addr)(c:Nat):Prop:=NB a w d t.rts b c t.nms t.prs t.root/\w.ownsRow a 148 3 (H b t.rts.length c) t.rts.length (Ym t.rts)
def G4.fr {f w w' g t i l S}(h:G4 f w g t i l)(c:Fr S w w')(d:∀k,S k->k<f)(o:¬S g:=by simp):G4 f w' g t i l:=by
 obtain⟨p,q,a,b,r,s,⟨u,v,x⟩,y⟩:=h.1.bx;have n:=oF h.2 c d;refine⟨⟨⟨p,q,a,b,c.whole r o,oF s c d,⟨u,oF v c d,fun j m z=>?_⟩,y.keep' c (fun k D e=>aj (d k e))⟩,oS n az⟩,n⟩;obtain⟨A,B,C⟩:=x j m z;exact⟨A,B,RQ C (z7 _) c d⟩
def pY (w:z9)(B:Nat)(s:ByteArray)(a:Nat)(r:Option (NQ×Nat))(e:Ending)(b:z9):Prop:=match r with
 |none=>e=Tp/\Fr (fun k=>k=B\/k=a) w b
 |some (t,l)=>e=z6 (.tuple #[])/\Yk b B s l a/\(∃c d,G4 w.heap.size b a t c d)/\Fr (fun k=>k=B\/k=a) w b
def AT (w B s g)(h:Yk w B s 0 g)(hT:w.heap[g]?=Z (R #[H I 0 0,H I 0 0,H I 0 0,Y I,U E 0] 135))(T:g≠B):
  z5 D 77 #[Y (Z ⟨B,0,I⟩)] w (pY w B s g (Qx s.data.toList)):=by
 have a1:∀(fn:Fn)(first k0:Array x5)(w:z9),(Instr.makeFunc fn first k0).run D w=.ok (.func fn first k0) w:=fun _ _ _ _=>rfl
 have V:G (vw w w B s 0 g (H I 0 0) (H I 0 0) (H I 0 0) (Y I) (U E 0)):=⟨h,hT,Zo,(iA.1 h.bx).1,(iA.1 hT).1,T⟩;have r:=V.o.lT;have b2:=Zc h.bx 2;have y0:=o (KG w B s 0 g 0 6 (VE s.data.toList) (fun _=>True) (fun _ _ _ _=>trivial) h trivial az (fun W i hR _=>EZ W B s i g hR));obtain⟨N,hN⟩:=ad (Qx s.data.toList);rw[hN];have HN:=o hN;go_enter func77,ntmps77;go_wp2_with fail;refine y0.o.mono ?_;intro e w1 n
 cases h1:YV s.data.toList 0 6 (VE s.data.toList) 0 with
 |none=>
  rw[h1]at n;obtain⟨x,X⟩:=n
  have y:N=I:=by rw[<-HN.o];unfold Qx;rw[h1]
  subst y;unfold Tp at x;subst x;exact⟨rfl,rfl,V.o.fr.trans (X.mono (fun _ M=>.inl M))⟩
 |some p1=>
  obtain⟨c,i⟩:=p1;rw[h1]at n;obtain⟨⟨v,rfl,z⟩,A0,B0⟩:=n;have H1:=o h1
  have l0:c.length<=6:=by have:=(Wm (P:=fun _:Zf=>True) (fun _ _ _ _=>trivial) h1).2.1;omega
  obtain⟨ra,rc,e1⟩:=oL z;subst e1;have a0:=o (V.o.call A0 B0);have A:=o (a0.o.set 0 (H ra c.length rc) rfl);have C0:=o (Ub z r 0 (H ra c.length rc));have z0:=Zc a0.o.bx 0;have f0:=bF a0.o.bx 0;go_upto_region 2 with fail;generalize w1.setCell ⟨g,0,I⟩ (H ra c.length rc)=W1 at*;have D0:=o (GZ W1 B s i g 0 8 (UL s.data.toList) (fun _=>True) (fun _ _ _ _=>trivial) A.o.rd trivial az (fun W i hR _=>Jk W B s i g hR));have E0:=A.o.fr.size;go_wp2_with fail;refine D0.o.mono ?_;intro e w2 n
  cases h2:YV s.data.toList 0 8 (UL s.data.toList) i with
  |none=>
   rw[h2]at n;obtain⟨x,X⟩:=n
   have y:N=I:=by rw[<-HN.o];unfold Qx;rw[H1.o];simp only[h2]
   subst y;unfold Tp at x;subst x;exact⟨rfl,rfl,A.o.fr.trans (X.mono (fun _ M=>.inl M))⟩
  |some p2=>
   obtain⟨d,j⟩:=p2;rw[h2]at n;obtain⟨⟨v,rfl,z⟩,F0,m0⟩:=n;have H2:=o h2
   have G0:d.length<=8:=by have:=(Wm (P:=fun _:ByteArray=>True) (fun _ _ _ _=>trivial) h2).2.1;omega
   have z:=oS z E0;obtain⟨na,nc,e1⟩:=oL z;subst e1;have b0:=o (A.o.call F0 m0);have n0:=o (b0.o.set 1 (H na d.length nc) rfl);have H0:=o (Ub z r 1 (H na d.length nc));have O:=o (Ub (oF C0.o m0 (fun k M=>aj A.o.lB)) r 1 (H na d.length nc));have z0:=Zc b0.o.bx 1;have f0:=bF b0.o.bx 1;go_upto_region 3 with fail;generalize w2.setCell ⟨g,1,I⟩ (H na d.length nc)=W2 at*;have q0:=Zc n0.o.bx 0;have I0:=o (LI W2 ra c.length rc c (AS O.o) rfl l0);go_wp2_with fail;refine I0.o.mono ?_;rintro e w3 ⟨⟨v,rfl,J0⟩,d0⟩;obtain⟨va,vc,rfl,K0⟩:=LJ J0 (by rw[v9]);have L0:=o (LH w3 va c.length vc (c.map Zf.name) K0 (by rw[v9]) az);have m:=o (n0.o.look d0);have Q:=o (oF H0.o d0);have o0:=o (oF O.o d0);have M0:=m.o.fr.size;go_wp2_with fail;refine L0.o.mono ?_;rintro e w4 ⟨rfl,u⟩;replace u:=u.symm;subst u
   cases e0:YW (c.map Zf.name)with
   |false=>
    have y:N=I:=by rw[<-HN.o];unfold Qx;rw[H1.o];simp only[H2.o,e0];rfl
    subst y;go_wp2_with fail;refine(Wx _).mono ?_;rintro e w4 ⟨x,u⟩;replace u:=u.symm;subst u;unfold Tp at x;subst x;exact⟨rfl,rfl,m.o.fr⟩
   |true=>
    have q1:=Zc m.o.bx 1;obtain⟨xa,xc,ex,N0⟩:=LJ Q.o rfl;injection ex with O0 _ P0;subst O0 P0;have Q0:=o (LH w3 na d.length nc d N0 rfl az);go_wp2_with fail;refine Q0.o.mono ?_;rintro e w4 ⟨rfl,u⟩;replace u:=u.symm;subst u
    cases p0:YW d with
    |false=>
     have y:N=I:=by rw[<-HN.o];unfold Qx;rw[H1.o];simp only[H2.o,e0,p0];rfl
     subst y;go_wp2_with fail;refine(Wx _).mono ?_;rintro e w4 ⟨x,u⟩;replace u:=u.symm;subst u;unfold Tp at x;subst x;exact⟨rfl,rfl,m.o.fr⟩
    |true=>
     obtain⟨c0,c1⟩:=ap m.o.bx;have R0:=o (IR w3 B s j g 1 255 ra c.length rc na d.length nc m.o.rd T c0 c1 l0 G0 az)
     have r0:G ((match YV s.data.toList 1 255 (Tc s.data.toList c.length d.length) j with|none=>I|some (f,k)=>match XG s.data.toList f.length 7 k with|none=>I|some (t,l)=>Z ((⟨c,d,f,t⟩:NQ),l))=N):=by
      show _=_
      rw[<-HN.o];unfold Qx;rw[H1.o];simp only[H2.o,e0,p0,Bool.and_self,if_true]
     go_wp2_with fail;refine(WV _).mono ?_;rintro e w4 ⟨rfl,u⟩;replace u:=u.symm;subst u;go_wp2_with fail;refine R0.o.mono ?_;intro e w5 n
     cases h3:YV s.data.toList 1 255 (Tc s.data.toList c.length d.length) j with
     |none=>
      rw[h3]at n;obtain⟨x,X⟩:=n
      have y:N=I:=by rw[<-r0.o,h3]
      subst y;unfold Tp at x;subst x;exact⟨rfl,rfl,m.o.fr.trans (X.mono (fun _ M=>.inl M))⟩
     |some p3=>
      obtain⟨f,k⟩:=p3;rw[h3]at n;obtain⟨⟨v,rfl,z⟩,S0,g0⟩:=n
      have s0:G ((match XG s.data.toList f.length 7 k with|none=>I|some (t,l)=>Z ((⟨c,d,f,t⟩:NQ),l))=N):=by show _=_;rw[<-r0.o,h3]
      have h0:f.length<=255:=by have:=(Wm (P:=fun _:List Zl=>True) (fun _ _ _ _=>trivial) h3).2.1;omega
      have z:=z.base M0;obtain⟨xs,T0,_⟩:=id z;obtain⟨pa,pc,e1⟩:=oL T0;subst e1;have i0:=o (m.o.call S0 g0);have C:=o (i0.o.set 2 (H pa f.length pc) rfl);have J:Fr (fun q=>q=g) w5 (w5.setCell ⟨g,2,I⟩ (H pa f.length pc)):=(Fr.refl (fun q=>q=g) w5).setCell (p:=⟨g,2,I⟩) (y6 rfl) _;have b1:=m.o.lB;have V0:=o (z.fr J (fun q hq=>az));have t0:=o (Ub (oF Q.o g0 (fun q hq=>az)) r 2 (H pa f.length pc));have v0:=o (Ub (oF o0.o g0 (fun q hq=>az)) r 2 (H pa f.length pc));have z0:=Zc i0.o.bx 2;have f0:=bF i0.o.bx 2;go_upto_region 5 with fail;generalize w5.setCell ⟨g,2,I⟩ (H pa f.length pc)=W5 at*;have W0:=o (JA B s g f.length pa pc T h0 6 az W5 k C.o.rd (Zc C.o.bx 2));go_wp2_with fail;refine W0.o.mono ?_;intro e w6 n;unfold sQ at n
      cases h4:XG s.data.toList f.length 7 k with
      |none=>
       rw[h4]at n;obtain⟨x,X⟩:=n
       have y:N=I:=by rw[<-s0.o,h4]
       subst y;unfold Tp at x;subst x;exact⟨rfl,rfl,C.o.fr.trans (X.mono (fun _ M=>.inl M))⟩
      |some p4=>
       obtain⟨t,l⟩:=p4;rw[h4]at n;obtain⟨⟨v,rfl,a,b,rfl,K⟩,X0,L⟩:=n
       have y:N=Z (⟨c,d,f,t⟩,l):=by rw[<-s0.o,h4]
       subst y;have Y0:=C.o.fr.size;have K:=Xm.low Y0 _ _ K;obtain⟨ka,kb,rfl,rfl⟩:=Xm.form K;have F:=o (C.o.call X0 L);have j0:=o ((F.o.set 3 (Y ka) rfl).set 4 (U E (kb:Nat)) rfl);have J:Fr (fun q=>q=g) w6 ((w6.setCell ⟨g,3,I⟩ (Y ka)).setCell ⟨g,4,I⟩ (U E (kb:Nat))):=((Fr.refl (fun q=>q=g) w6).setCell (p:=⟨g,3,I⟩) (y6 rfl) _).setCell (p:=⟨g,4,I⟩) (y6 rfl) _;have Z0:=o (K.keep' J (fun q hq=>az));have w0:=o ((V0.o.fr L (fun q hq=>az)).fr J (fun q hq=>az));have x0:=o (Ub (Ub (oF t0.o L (fun q hq=>az)) r 3 (Y ka)) r 4 (U E (kb:Nat)));have S:=o (Ub (Ub (oF v0.o L (fun q hq=>az)) r 3 (Y ka)) r 4 (U E (kb:Nat)));have z0:=Zc F.o.bx 3;have z1:=Zc F.o.bx 4;have f0:=bF F.o.bx;go_wp2
       go_end0
       refine⟨rfl,j0.o.rd,⟨ra,rc,⟨⟨_,_,_,_,j0.o.bx,x0.o,w0.o,Z0.o⟩,oS S.o az⟩,S.o⟩,j0.o.fr⟩
def xL:List Int:=M6.map fun(n:Nat)=>(n:Int)
def OG (w:z9):Prop:=Lib.TabIs D w "junction/seal.halves" .u32 xL
def OG.fr {w w'}(h:OG w)(a:F0 w w'):OG w':=Lib.tabBelow_of_tabIs h w' (a.below (z7 _))
def rX:D.globalNamed "junction/seal.halves" =Z 0:=n
def OG.cell {w}(h:OG w)(i)(a:i<16):w.cell? ⟨0,i,I⟩=Z (U .u32 ((M6.getD i 0:Nat):Int)):=by
 have e:=Lib.TabIs.cell h rX i (by simpa[xL,M6]using a);rw[e]
 congr 2
 unfold xL;rw[v8,q8,v8]
 cases M6[i]?<;>rfl
def Uq (a b:Nat)(e:a<4294967296)(f:b<4294967296):bits .xor .u32 (a:Int) (b:Int)=((a^^^b:Nat):Int):=by
 have g:a^^^b<2^32:=j4 z z
 have c:(BitVec.ofInt 32 (a:Int)).toNat=a:=by
  rw[BitVec.ofInt_natCast,BitVec.toNat_ofNat];exact v6 z
 have d:(BitVec.ofInt 32 (b:Int)).toNat=b:=by
  rw[BitVec.ofInt_natCast,BitVec.toNat_ofNat];exact v6 z
 show k4.wrap ((BitVec.ofInt 32 (a:Int)^^^BitVec.ofInt 32 (b:Int)).toNat:Int)=_
 rw[BitVec.toNat_xor,c,d];exact IntWalk.u32_in _ aI
def SW (a:Nat)(c:a<4294967296):bits .and .u32 (a:Int) 15=((a % 16:Nat):Int):=by
 have b:(BitVec.ofInt 32 (a:Int)).toNat=a:=by
  rw[BitVec.ofInt_natCast,BitVec.toNat_ofNat];exact v6 z
 show k4.wrap ((BitVec.ofInt 32 (a:Int)&&& BitVec.ofInt 32 15).toNat:Int)=_
 rw[BitVec.toNat_and,b,show(BitVec.ofInt 32 15).toNat=2^4-1 from aB,Nat.and_two_pow_sub_one_eq_mod];exact IntWalk.u32_in _ aI
def xM:∀(l:List UInt8){r:Nat},r<4294967296->zJ r l<4294967296
 |[],_,h=>h
 |c::l,r,h=>xM l (CB 8 (j4 (n:=32) h (by have:c.toNat<256:=c.toNat_lt;omega)))
def xN (l c):∀r,zJ r (l++[c])=tn 8 (zJ r l^^^c.toNat):=by
 induction l with
 |nil=>intro r;rfl
 |cons d l a=>intro r;exact a _
def ul (i)(a:i<16):M6.getD i 0<4294967296:=by
 have:i=0\/i=1\/i=2\/i=3\/i=4\/i=5\/i=6\/i=7\/i=8\/i=9\/i=10\/i=11\/i=12\/i=13\/i=14\/i=15:=z
 rcases this with h|h|h|h|h|h|h|h|h|h|h|h|h|h|h|h<;>rw[h]<;>decide
def JB {W}(h:OG W)(y)(a:y<4294967296):∃v:Nat,W.cell? ⟨0,y % 16,I⟩=Z (U .u32 (v:Nat))/\bits .xor .u32 ((y:Int)/16) (v:Int)=((tn 4 y:Nat):Int):=by
 refine⟨M6.getD (y % 16) 0,h.cell _ z,?_⟩;rw[show((y:Int)/16)=((y/16:Nat):Int)from aA,Uq _ _ z (ul _ z),vQ]
def Qc (l:List UInt8):Nat:=4294967295^^^zJ 4294967295 l
def G5 (s w)(hs:s.size<=200000)(C:OG w):
  z5 D 118 #[z4 s] w fun e N=>e=z6 (U .u32 (Qc s.data.toList:Nat))/\F0 w N:=by
 have p:=fun w=>Lib.run_convert_string_bytes (P:=D) w 9 50 5 s underlying9 underlying50 underlying5
 have F:=o C;obtain⟨l,h⟩:=ad s.data.toList;have O:=o h
 have Q:l.length=s.size:=by rw[<-h];simp
 rw[h];clear h;clear C;go_enter func118,ntmps118;go_wp2_with fail;have H:G (F0 w (Lib.bytesWorld w 5 s)):=XM _ _ _;have f:=o (F.o.fr H.o)
 have a:∀j,j<s.size->(Lib.bytesWorld w 5 s).cell? ⟨w.heap.size,j,I⟩=Z (U x6 (Zy s j)):=fun j R=>by
  have:=Lib.bytesWorld_cell w 5 s j R
  simpa[Zy]using this
 have S:=o a;clear a p F;generalize Lib.bytesWorld w 5 s=W at*;generalize grownCap _ _ _ _=T at*
 go_loop [3,5,9] (fun V _ i=>∃(k r:Nat),k<=s.size/\i=U E k/\V=U .u32 (r:Nat)/\r<4294967296/\G (r=zJ 4294967295 (l.take k))) (fun _ _ i=>s.size-(intOf i).toNat)
 case atStart=>exact⟨0,4294967295,j1 _,rfl,rfl,az,rfl⟩
 obtain⟨k,r,hk,rfl,rfl,J,m⟩:=hrel;by_cases t:k<s.size
 ·have X:=S.o k t;have u:=af k s.size
  obtain⟨c,b⟩:∃c,l[k]?=Z c:=⟨_,gE az⟩
  have g:Zy s k=(c.toNat:Int):=by unfold Zy;rw[O.o];simp[v8,b]
  rw[g]at X;have Y:=c.toNat_lt
  have K:G (zJ 4294967295 (l.take (k+1))=tn 8 (r^^^c.toNat)):=by
   show _=_
   rw[j5,b,m.o];exact xN _ _ _
  generalize c.toNat=v at*;have x1:=Uq r v J az;have d:r^^^v<4294967296:=j4 (n:=32) az az;generalize r^^^v=y at*;have a1:=SW y d;obtain⟨v1,c1,x2⟩:=JB f.o y d;have x:=CB 4 d;have L:=o (ER 4 4 y);generalize tn 4 y=z at*;have a2:=SW z x;obtain⟨v2,c2,x3⟩:=JB f.o z x;have A:=CB 4 x
  have B:G (tn 4 z=zJ 4294967295 (l.take (k+1))):=by show _=_;rw[K.o,L.o]
  generalize tn 4 z=z2 at*;have m1:((y:Int)% 16)<16:=az;have m2:((z:Int)% 16)<16:=az;have m3:0<=((y:Int)% 16):=az;have m4:0<=((z:Int)% 16):=az;clear b g K L m;go_wp2_with fail;exact⟨⟨k+1,z2,az,aE,rfl,A,B⟩,by simp[intOf];omega⟩
 have u:=ai k s.size
 have M:r=zJ 4294967295 l:=by rw[m.o,y8 az]
 have x1:bits .xor .u32 k4.max (r:Int)=((4294967295^^^r:Nat):Int):=Uq 4294967295 r az J
 have HS:G (4294967295^^^r=Qc l):=by show _=_;rw[M];rfl
 clear M m;generalize 4294967295^^^r=q at*;go_wp2;go_ret;rw[HS.o];exact⟨rfl,H.o⟩
def YT (n:Nat):List UInt8:=[y4 n,y4 (n/256),y4 (n/65536),y4 (n/16777216)]
def JC {n}(h:n<4294967296):Pf (YT n)=n:=by
 simp only[YT,Pf,x4];omega
def RW (n w)(l:n<4294967296):
  z5 D 117 #[U .u32 (n:Nat)] w fun e g=>e=z6 (z4 ⟨(YT n).toArray⟩)/\F0 w g:=by
 have f:∀x:Nat,k5.wrap (x:Int)=(((y4 x).toNat:Nat):Int):=fun x=>by
  rw[x4];simp[g8,g9,g7]
 have m:=f n
 have p:(n:Int)/256 % 256=(((y4 (n/256)).toNat:Nat):Int):=by rw[x4];omega
 have q:(n:Int)/65536 % 256=(((y4 (n/65536)).toNat:Nat):Int):=by rw[x4];omega
 have r:(n:Int)/16777216=(((y4 (n/16777216)).toNat:Nat):Int):=by rw[x4];omega
 have h:G (YT n=[y4 n,y4 (n/256),y4 (n/65536),y4 (n/16777216)]):=rfl;generalize YT n=s at*;generalize y4 n=a at*;generalize y4 (n/256)=b at*;generalize y4 (n/65536)=c at*;generalize y4 (n/16777216)=d at*
 have i:(convert 50 9 (H (Z ⟨w.heap.size,0,I⟩) 4 4)).run D (w.alloc (R #[U x6 (a.toNat:Nat),U x6 (b.toNat:Nat),U x6 (c.toNat:Nat),U x6 (d.toNat:Nat)] 5))=.ok (z4 ⟨#[a,b,c,d]⟩) (w.alloc (R #[U x6 (a.toNat:Nat),U x6 (b.toNat:Nat),U x6 (c.toNat:Nat),U x6 (d.toNat:Nat)] 5)):=by
  have e:=run_convert_bytes_back (P:=D) (w.alloc (R #[U x6 (a.toNat:Nat),U x6 (b.toNat:Nat),U x6 (c.toNat:Nat),U x6 (d.toNat:Nat)] 5)) 50 9 5 ⟨w.heap.size,0,I⟩ 4 [a,b,c,d] underlying50 underlying5 underlying9 (by
   intro j k
   have:j=0\/j=1\/j=2\/j=3:=by simp at k;omega
   rcases this with rfl|rfl|rfl|rfl<;>rw[Yf]<;>exact bC (aN w _) _ _ rfl)
  simpa using e
 clear f;go_enter func117,ntmps117;go_wp2;go_ret;rw[h.o];exact⟨rfl,Zo.alloc _⟩
def Vm (l:List UInt8):Option (List UInt8):=if 8<=l.length/\l.length<=200000 then(if l.take 4=YT l.length/\l.drop (l.length-4)=YT (Qc (l.take (l.length-4)))then Z ((l.take (l.length-4)).drop 4)else I)else I
def xO:Option (List UInt8)->x5
 |none=>.tuple #[z4 ⟨#[]⟩,q4 false]
 |some l=>.tuple #[z4 ⟨l.toArray⟩,q4 true]
def JD (a:ByteArray)(l):(a.toList==(⟨l.toArray⟩:ByteArray).toList)=decide (a.data.toList=l):=by
 rw[ByteArray.toList_eq,ByteArray.toList_eq];by_cases h:a.data.toList=l
 ·simp[h]
 simp[h]
def CS (l):Qc l<4294967296:=j4 (n:=32) z (xM l z)
def PY (s:ByteArray)(i j):(s.extract i j).data.toList=(s.data.toList.take j).drop i:=by
 rw[ByteArray.data_extract,Array.toList_extract];simp[List.extract_eq_take_drop,List.drop_take]
def AU (s w)(hs:s.size<=9223372036854775807)(a:OG w):
  z5 D 75 #[z4 s] w fun e i=>e=z6 (xO (Vm s.data.toList))/\F0 w i:=by
 have P:=o a;have j:s.data.toList.length=s.size:=aA;obtain⟨O,t⟩:=ad (Vm s.data.toList);rw[t];have Q:j6.wrap ((s.size:Int)-4)=(s.size:Int)-4:=IntWalk.i64_in _ aI;by_cases R:8<=s.size
 ·by_cases T:s.size<=200000
  ·have z:(if s.data.toList.take 4=YT s.size/\s.data.toList.drop (s.size-4)=YT (Qc (s.data.toList.take (s.size-4)))then Z ((s.data.toList.take (s.size-4)).drop 4)else I)=O:=by
    rw[<-t];unfold Vm;rw[j,if_pos (show 8<=s.size/\s.size<=200000 from⟨R,T⟩)]
   have u:=o z;have J:¬(s.size:Int)-4<4:=az;have V:=ai 200000 s.size;obtain⟨b,A⟩:=ad (s.size-4);have X:(s.size:Int)-4=(b:Int):=az;have Y:b<=s.size:=az;have l4:(4:Int)<=(s.size:Int):=az;have l5:(b:Int)<=(s.size:Int):=az;have l6:(4:Int)<=(b:Int):=az;have hu:k4.wrap (s.size:Int)=(s.size:Int):=IntWalk.u32_in _ aI;rw[A]at u;have k:G (F0 w w.drew):=Zo.drew
   have B:G ((s.extract 0 4).data.toList=s.data.toList.take 4):=by show _=_;rw[PY];simp
   have C:G ((s.extract b s.size).data.toList=s.data.toList.drop b):=by show _=_;rw[PY,y8 az]
   have E:G ((s.extract 0 b).data.toList=s.data.toList.take b):=by show _=_;rw[PY];simp
   have l:G (∀W,z5 D 117 #[U .u32 (s.size:Nat)] W fun e i=>e=z6 (z4 ⟨(YT s.size).toArray⟩)/\F0 W i):=fun W=>RW s.size W az
   have q:G (∀W,F0 w W->z5 D 118 #[z4 (s.extract 0 b)] W fun e i=>e=z6 (U .u32 (Qc (s.data.toList.take b):Nat))/\F0 W i):=fun W c=>by
    have e:=G5 (s.extract 0 b) W (by rw[ByteArray.size_extract];omega) (P.o.fr c);rw[E.o]at e;exact e
   have r:G (∀W,z5 D 117 #[U .u32 (Qc (s.data.toList.take b):Nat)] W fun e i=>e=z6 (z4 ⟨(YT (Qc (s.data.toList.take b))).toArray⟩)/\F0 W i):=fun W=>RW _ W (CS _)
   have F:=JD (s.extract 0 4) (YT s.size);have H:=JD (s.extract b s.size) (YT (Qc (s.data.toList.take b)));rw[B.o]at F;rw[C.o]at H;generalize Qc (s.data.toList.take b)=K at*;generalize(⟨(YT s.size).toArray⟩:ByteArray)=L at*;generalize(⟨(YT K).toArray⟩:ByteArray)=M at*;by_cases x:s.data.toList.take 4=YT s.size
   ·have e1:((s.extract 0 4).toList==L.toList)=true:=by rw[F];simpa using x
    by_cases y:s.data.toList.drop b=YT K
    ·have e2:((s.extract b s.size).toList==M.toList)=true:=by rw[H];simpa using y
     have g:O=Z ((s.data.toList.take b).drop 4):=by rw[<-u.o,if_pos ⟨x,y⟩]
     subst g;go_enter func75,ntmps75;go_wp2;refine wp_region_held_drew (S:=fun _=>True) aC trivial (fun a=>?_)
     iterate 5 (refine Yy 0 a ?_;try go_frame)
     refine XA [5] ?_;refine Zb rfl (fun p f=>?_) y5
     try rw[if_pos aD]
     go_simp;refine(l.o _).mono ?_;rintro e N ⟨rfl,c⟩;have d:=o (k.o.trans c);refine f.out _ _ trivial (fun a=>?_)
     try go_frame
     iterate 8 (refine Yy 0 a ?_;try go_frame)
     refine XA [14] ?_;refine Zb rfl (fun p f=>?_) y5
     try rw[if_pos aD]
     go_simp;refine(q.o _ d.o).mono ?_;rintro e wb ⟨rfl,c⟩;have m:=o (d.o.trans c);refine f.out _ _ trivial (fun a=>?_)
     try go_frame
     refine XA [15] ?_;refine Zb rfl (fun p f=>?_) y5
     try rw[if_pos aD]
     go_simp;refine(r.o _).mono ?_;rintro e wc ⟨rfl,c⟩;have n:=o (m.o.trans c);refine f.out _ _ trivial (fun a=>?_)
     try go_frame
     iterate 2 (refine Yy 0 a ?_;try go_frame)
     refine wpAnyH_done aC ?_ _;go_wp2;refine bodyPost_ret (v:=.tuple #[z4 (s.extract 4 b),q4 true]) (by simp[results,results75,go_sem]) rfl ⟨?_,n.o⟩
     have ee:s.extract 4 b=⟨((s.data.toList.take b).drop 4).toArray⟩:=by
      apply ByteArray.ext;apply Array.toList_inj.1;rw[PY]
     rw[ee];rfl
    have e2:((s.extract b s.size).toList==M.toList)=false:=by rw[H];simpa using y
    have g:O=I:=by rw[<-u.o,if_neg (fun h=>y h.2)]
    subst g;go_enter func75,ntmps75;go_wp2;refine wp_region_held_drew (S:=fun _=>True) aC trivial (fun a=>?_)
    iterate 5 (refine Yy 0 a ?_;try go_frame)
    refine XA [5] ?_;refine Zb rfl (fun p f=>?_) y5
    try rw[if_pos aD]
    go_simp;refine(l.o _).mono ?_;rintro e N ⟨rfl,c⟩;have d:=o (k.o.trans c);refine f.out _ _ trivial (fun a=>?_)
    try go_frame
    iterate 8 (refine Yy 0 a ?_;try go_frame)
    refine XA [14] ?_;refine Zb rfl (fun p f=>?_) y5
    try rw[if_pos aD]
    go_simp;refine(q.o _ d.o).mono ?_;rintro e wb ⟨rfl,c⟩;have m:=o (d.o.trans c);refine f.out _ _ trivial (fun a=>?_)
    try go_frame
    refine XA [15] ?_;refine Zb rfl (fun p f=>?_) y5
    try rw[if_pos aD]
    go_simp;refine(r.o _).mono ?_;rintro e wc ⟨rfl,c⟩;have n:=o (m.o.trans c);refine f.out _ _ trivial (fun a=>?_)
    try go_frame
    iterate 2 (refine Yy 0 a ?_;try go_frame)
    refine wpAnyH_done aC ?_ _;go_wp2;exact bodyPost_ret (v:=.tuple #[z4 ⟨#[]⟩,q4 false]) (by simp[results,results75,go_sem]) rfl ⟨rfl,n.o⟩
   have e1:((s.extract 0 4).toList==L.toList)=false:=by rw[F];simpa using x
   have g:O=I:=by rw[<-u.o,if_neg (fun h=>x h.1)]
   subst g;go_enter func75,ntmps75;go_wp2;refine wp_region_held_drew (S:=fun _=>True) aC trivial (fun a=>?_)
   iterate 5 (refine Yy 0 a ?_;try go_frame)
   refine XA [5] ?_;refine Zb rfl (fun p f=>?_) y5
   try rw[if_pos aD]
   go_simp;refine(l.o _).mono ?_;rintro e N ⟨rfl,c⟩;have d:=o (k.o.trans c);refine f.out _ _ trivial (fun a=>?_)
   try go_frame
   iterate 2 (refine Yy 0 a ?_;try go_frame)
   refine Vf 8 rfl aC aC aC (fun _ _ _ h=>h) rfl a ?_
   try go_frame
   refine Vf 9 rfl aC aC aC (fun _ _ _ h=>h) rfl a ?_
   try go_frame
   refine Vf 10 rfl aC aC aC (fun _ _ _ h=>h) rfl a ?_
   try go_frame
   refine Vf 11 rfl aC aC aC (fun _ _ _ h=>h) rfl a ?_
   try go_frame
   refine Vf 12 rfl aC aC aC (fun _ _ _ h=>h) rfl a ?_
   try go_frame
   refine Vf 13 rfl aC aC aC (fun _ _ _ h=>h) rfl a ?_
   try go_frame
   refine Vf 14 rfl aC aC aC (fun _ _ _ h=>h) rfl a ?_
   try go_frame
   refine Vf 15 rfl aC aC aC (fun _ _ _ h=>h) rfl a ?_
   try go_frame
   refine Vf 16 rfl aC aC aC (fun _ _ _ h=>h) rfl a ?_
   try go_frame
   refine ZJ 17 a ?_
   try go_frame
   refine wpAnyH_done aC ?_ _;go_wp2;exact bodyPost_ret (v:=.tuple #[z4 ⟨#[]⟩,q4 false]) (by simp[results,results75,go_sem]) rfl ⟨rfl,d.o⟩
  have g:O=I:=by rw[<-t];unfold Vm;rw[j,if_neg az]
  subst g;have V:=af 200000 s.size;have J:¬(s.size:Int)-4<4:=az;go_enter func75,ntmps75;go_wp2;exact bodyPost_ret (v:=.tuple #[z4 ⟨#[]⟩,q4 false]) (by simp[results,results75,go_sem]) rfl ⟨rfl,Zo⟩
 have g:O=I:=by rw[<-t];unfold Vm;rw[j,if_neg az]
 subst g;have J:decide ((s.size:Int)-4<4)=true:=aF;go_enter func75,ntmps75;go_wp2;exact bodyPost_ret (v:=.tuple #[z4 ⟨#[]⟩,q4 false]) (by simp[results,results75,go_sem]) rfl ⟨rfl,Zo⟩
def TE (l:List UInt8):Option NQ:=match Vm l with
 |none=>I
 |some b=>Nf b
def pZ (w:z9)(r:Option NQ)(e:Ending)(b:z9):Prop:=match r with
 |none=>e=Tp/\F0 w b
 |some t=>(∃c a d f,e=z6 (Y (Z ⟨a,0,I⟩))/\w.heap.size<=a/\a<=c/\G4 c b a t d f)/\F0 w b
def AW (s w)(hs:s.size<=9223372036854775807)(z:OG w):
  z5 D 42 #[z4 s] w (pZ w (TE s.data.toList)):=by
 have HO:=o (AU s w hs z);obtain⟨N,A⟩:=ad (TE s.data.toList);rw[A];unfold TE at A
 have HB:G (∀b,Vm s.data.toList=Z b->b.length<=200000):=fun b c=>by
  unfold Vm at c
  split at c
  ·split at c
   ·injection c with c;rw[<-c,List.length_drop,k7];omega
   cases c
  cases c
 have X:=o A;go_enter func42,ntmps42;go_wp2_with fail;refine HO.o.mono ?_;rintro e a ⟨rfl,B⟩;have g:=o B
 cases C:Vm s.data.toList with
 |none=>
  have h:N=I:=by rw[<-X.o,C]
  subst h;rw[show xO I=.tuple #[z4 ⟨#[]⟩,q4 false]from rfl];go_wp2_with fail;refine(Wx _).mono ?_;rintro e w2 ⟨f,i⟩;replace i:=i.symm;subst i;unfold Tp at f;subst f;exact⟨rfl,rfl,g.o⟩
 |some b=>
  have c:=HB.o b C
  have F:G (Nf b=N):=by show _=_;rw[<-X.o,C]
  rw[show xO (Z b)=.tuple #[z4 ⟨b.toArray⟩,q4 true]from rfl];obtain⟨S,J⟩:=ad ((⟨b.toArray⟩:ByteArray):ByteArray)
  have m:S.data.toList=b:=by rw[<-J]
  have K:S.size<=200000:=by rw[<-J];exact c
  rw[J];obtain⟨L,n,_⟩:=TL a (R #[H I 0 0,H I 0 0,H I 0 0,Y I,U E 0] 135) (R #[z4 S,U E 0,Y (Z ⟨a.heap.size,0,I⟩)] 158)
  have M:G (Yk ((a.alloc (R #[H I 0 0,H I 0 0,H I 0 0,Y I,U E 0] 135)).alloc (R #[z4 S,U E 0,Y (Z ⟨a.heap.size,0,I⟩)] 158)) (a.heap.size+1) S 0 a.heap.size):=by
   have e:=aN (a.alloc (R #[H I 0 0,H I 0 0,H I 0 0,Y I,U E 0] 135)) (R #[z4 S,U E 0,Y (Z ⟨a.heap.size,0,I⟩)] 158);rw[show(a.alloc (R #[H I 0 0,H I 0 0,H I 0 0,Y I,U E 0] 135)).heap.size=a.heap.size+1 from aA]at e;exact⟨e,az,K⟩
  go_wp2_with fail;refine(WV _).mono ?_;rintro e w2 ⟨rfl,i⟩;replace i:=i.symm;subst i;go_upto_region 4 with fail;generalize(a.alloc _).alloc _=W2 at*;have O:=g.o.size;generalize a.heap.size=j at*;have p:=o (AT W2 (j+1) S j M.o n.o az);rw[m]at p;have q:=o (g.o.trans L.o);have P:G (j<=W2.heap.size):=Nat.le_of_lt (iA.1 n.o).1;go_wp2_with fail;refine p.o.mono ?_;intro e w3 x;have r:=o ((xK b).symm.trans F.o)
  cases y:Qx b with
  |none=>
   rw[y]at x;obtain⟨f,hf⟩:=x
   have h:N=I:=by rw[<-r.o,y]
   subst h;unfold Tp at f;subst f;exact⟨rfl,rfl,q.o.monoNew hf (fun k hk=>.inr az)⟩
  |some tl=>
   obtain⟨t,l⟩:=tl;rw[y]at x;obtain⟨rfl,d,⟨ra,rc,Q⟩,T⟩:=x;have a0:=o d;have V:=o Q;have u:=o (q.o.monoNew T (fun k hk=>.inr az))
   have v:G ((if l=b.length then Z t else I)=N):=by show _=_;rw[<-r.o,y]
   have b0:b.length=S.size:=by rw[<-m];simp
   obtain⟨c0,c1,c2⟩:=aq d.bx;by_cases hl:l=b.length
   ·have h:N=Z t:=by rw[<-v.o,if_pos hl]
    subst h;have hd:((l:Int)==(S.size:Int))=true:=aF
    have HI:G (∀W,z5 D 76 #[q4 true] W fun e w'=>e=z6 (.tuple #[])/\w'=W):=fun W=>WV W
    go_wp2
    go_quiet ((go_at_call 76;exact Calls.quiet_of_same (HI.o _)))
    go_wp2;go_ret;exact⟨⟨_,j,ra,rc,rfl,O,P.o,V.o.fr (S:=fun _=>False) ⟨rfl,rfl,rfl,z7 _,fun _ _ _=>rfl⟩ aA⟩,u.o.trans ⟨rfl,rfl,rfl,z7 _,fun _ _ _=>rfl⟩⟩
   have h:N=I:=by rw[<-v.o,if_neg hl]
   subst h;have hd:((l:Int)==(S.size:Int))=false:=aF;go_wp2;refine wp_region_held_drew (S:=fun W=>W.cell? ⟨j+1,0,I⟩=Z (z4 S)/\W.cell? ⟨j+1,1,I⟩=Z (U E (l:Nat))) aC ⟨by simpa using c0,by simpa using c1⟩ (fun z=>?_)
   iterate 10 (refine Yy 0 z ?_;try go_frame)
   refine WI 10 (fun K2 hK=>?_);go_simp;refine(Wx _).mono ?_;rintro e w4 ⟨f,rfl⟩;unfold Tp at f;subst f;exact⟨rfl,rfl,u.o.drew⟩
def OH (a b i k w)(m:w.cell? ⟨a,0,I⟩=Z i)(n:w.cell? ⟨b,0,I⟩=Z k)(A:w.frozen? ⟨a,0,I⟩=false)(B:w.frozen? ⟨b,0,I⟩=false)(d:¬a=b)(f:¬b=a):
  CallsD D 41 #[Y (Z ⟨a,0,I⟩),Y (Z ⟨b,0,I⟩)] (.panicking [{v:=.iface 223 (q6 #[]),recovered:=false}]) w fun e q w'=>
   e=z6 (.tuple #[])/\q=.panicking [{v:=.iface 223 (q6 #[]),recovered:=true}]/\w'.cell? ⟨a,0,I⟩=Z (Y I)/\w'.cell? ⟨b,0,I⟩=Z (q4 false)/\Fr (fun j=>j=a\/j=b) w w':=by
 refine callsD_of_wpS func41 rfl fun r s t=>?_
 have z:(#[Y (Z ⟨a,0,I⟩),Y (Z ⟨b,0,I⟩)]++Array.replicate (f41.ntmps-(#[Y (Z ⟨a,0,I⟩),Y (Z ⟨b,0,I⟩)]:Array x5).size) undef:Array x5)=#[Y (Z ⟨a,0,I⟩),Y (Z ⟨b,0,I⟩),undef,undef]:=by
  rw[ntmps41];rfl
 rw[z];refine O1 (v:=.iface 223 (q6 #[])) (cs':={r with mode:=.panicking [{v:=.iface 223 (q6 #[]),recovered:=true}]}::s) (w':=w) (o:=?o) (l:=?l) ?ho ?hw ?hx ?hr ?hno ?main
 case ho=>rfl
 case hw=>kernel_rfl
 case hx=>rfl
 case hr=>simp only[recoverD,t]
 case hno=>intro a w g;obtain⟨u,g,_⟩:=g;cases g
 show wpList D _ _ _ {tmps:=#[Y (Z ⟨a,0,I⟩),Y (Z ⟨b,0,I⟩),.iface 223 (q6 #[]),undef],defers:=[]} w
 go_wp2
 have c:∀(v:z9)(x y:Nat)(u:x5),¬x=y->(v.setCell ⟨x,0,I⟩ u).cell? ⟨y,0,I⟩=v.cell? ⟨y,0,I⟩:=fun v x y u h=>cO _ _ _ _ (fun e=>h (by injection e))
 refine⟨rfl,_,rfl,.tuple #[],results_none rfl _ _ _,rfl,rfl,?_,?_,?_⟩
 ·exact(c _ b a _ f).trans (cS _ _ _ m)
 ·exact cS _ _ _ ((c _ a b _ d).trans n)
 exact(Zo.setCell (p:=⟨a,0,I⟩) (y6 (y6 rfl)) _).setCell (p:=⟨b,0,I⟩) (y6 (x8 rfl)) _
def G6 (a b w):
  CallsD D 41 #[Y (Z ⟨a,0,I⟩),Y (Z ⟨b,0,I⟩)] .returning w fun e f w'=>e=z6 (.tuple #[])/\f=.returning/\F0 w w':=by
 refine callsD_of_wpS func41 rfl fun i j d=>?_
 have g:(#[Y (Z ⟨a,0,I⟩),Y (Z ⟨b,0,I⟩)]++Array.replicate (f41.ntmps-(#[Y (Z ⟨a,0,I⟩),Y (Z ⟨b,0,I⟩)]:Array x5).size) undef:Array x5)=#[Y (Z ⟨a,0,I⟩),Y (Z ⟨b,0,I⟩),undef,undef]:=by
  rw[ntmps41];rfl
 rw[g];refine Pu (w':=w) (o:=?o) (l:=?l) ?ho ?hw ?hx ?hr ?hno ?main
 case ho=>rfl
 case hw=>kernel_rfl
 case hx=>rfl
 case hr=>simp only[recoverD,d]
 case hno=>intro a w c;obtain⟨u,c,_⟩:=c;cases c
 show wpList D _ _ _ {tmps:=#[Y (Z ⟨a,0,I⟩),Y (Z ⟨b,0,I⟩),.nilIface,undef],defers:=[]} w
 have h:=Za d;go_wp2;exact⟨rfl,.returning,by rw[<-h.o],.tuple #[],results_none rfl _ _ _,rfl,rfl,Zo⟩
def p8 (w:z9)(r:Option NQ)(e:Ending)(a:z9):Prop:=match r with
 |none=>e=z6 (.tuple #[Y I,q4 false])/\F0 w a
 |some t=>(∃T c d b f g,e=z6 (.tuple #[Y (Z ⟨T,0,I⟩),q4 true])/\a.cell? ⟨T,0,I⟩=Z (Y (Z ⟨c,0,I⟩))/\a.cell? ⟨T,1,I⟩=Z (Y (Z ⟨b,0,I⟩))/\a.heap[c]?=Z (R #[H I 0 0,H I 0 0] 89)/\G4 d a b t f g/\w.heap.size<=b/\b<=d/\w.heap.size<=T/\w.heap.size<=c)/\F0 w a
def LK (s w)(hs:s.size<=9223372036854775807)(hH:OG w):z5 D 24 #[z4 s] w (p8 w (TE s.data.toList)):=by
 have b0:∀(S:Fn)(first r:Array x5)(w:z9),(Instr.makeFunc S first r).run D w=.ok (.func S first r) w:=fun _ _ _ _=>rfl
 obtain⟨N,hN⟩:=ad (TE s.data.toList)
 have T:=fun W (c:F0 w W)=>AW s W hs (hH.fr c)
 rw[hN]at T ⊢;have B:=Za T;obtain⟨C,q0,q1,q2⟩:=zW w (R #[Y I] 31) (R #[q4 false] 4) (R #[H I 0 0,H I 0 0] 89);have d:=Za C;have g:=Za q0;have i:=Za q1;have n:=Za q2
 go_enter_defers func24,ntmps24
 go_wp2_with fail;refine(B.o _ d.o).mono ?_;intro e b U;generalize((w.alloc _).alloc _).alloc _=w0 at*
 cases N with
 |none=>
  obtain⟨V,c⟩:=U;unfold Tp at V;subst V;refine leaves_cons (f:=41) (args:=#[Y (Z ⟨w.heap.size,0,I⟩),Y (Z ⟨w.heap.size+1,0,I⟩)]) aA aP ?_;refine(OH w.heap.size (w.heap.size+1) _ _ b (bC (c.whole g.o) 0 _ rfl) (bC (c.whole i.o) 0 _ rfl) (bF (c.whole g.o) 0) (bF (c.whole i.o) 0) az az).mono ?_;rintro e u' w2 ⟨rfl,rfl,E,F,a⟩;have hB:=(d.o.trans c).monoNew a (fun k X=>.inr az);simp[Leaves,settle,results,results24,go_sem,E,F];exact⟨rfl,hB⟩
 |some t=>
  obtain⟨⟨zb,m,ra,rc,rfl,G,J,K⟩,c⟩:=U;have e0:w.heap.size+1+1<w0.heap.size:=(iA.1 n.o).1;have L:=Za K;have q:=Za c;have l:=c.alloc (R #[Y (Z ⟨w.heap.size+1+1,0,I⟩),Y (Z ⟨m,0,I⟩)] 80);have c0:=bC (l.whole g.o) 0 _ rfl;have c1:=bC (l.whole i.o) 0 _ rfl;have z0:=bF (l.whole g.o) 0;have z1:=bF (l.whole i.o) 0;have f0:w.heap.size+1+1<b.heap.size:=nL (iA.1 n.o).1 c.size;go_wp2_with fail
  have z:∀(v:z9)(x y o:Nat)(u:x5),¬x=y->(v.setCell ⟨x,0,I⟩ u).cell? ⟨y,o,I⟩=v.cell? ⟨y,o,I⟩:=fun v x y o u h=>cO _ _ _ _ (fun e=>h (by injection e))
  have M:=aN b (R #[Y (Z ⟨w.heap.size+1+1,0,I⟩),Y (Z ⟨m,0,I⟩)] 80);have A:Fr (fun j=>j=w.heap.size\/j=w.heap.size+1) (b.alloc (R #[Y (Z ⟨w.heap.size+1+1,0,I⟩),Y (Z ⟨m,0,I⟩)] 80)) (((b.alloc (R #[Y (Z ⟨w.heap.size+1+1,0,I⟩),Y (Z ⟨m,0,I⟩)] 80)).setCell ⟨w.heap.size,0,I⟩ (Y (Z ⟨b.heap.size,0,I⟩))).setCell ⟨w.heap.size+1,0,I⟩ (q4 true)):=(Zo.setCell (p:=⟨w.heap.size,0,I⟩) (y6 (y6 rfl)) _).setCell (p:=⟨w.heap.size+1,0,I⟩) (y6 (x8 rfl)) _;have d0:=(z _ (w.heap.size+1) w.heap.size 0 (q4 true) az).trans (cS _ _ (Y (Z ⟨b.heap.size,0,I⟩)) c0);have d1:=cS _ _ (q4 true) ((z _ w.heap.size (w.heap.size+1) 0 (Y (Z ⟨b.heap.size,0,I⟩)) az).trans c1);have bT:=A.whole M (by show¬(b.heap.size=w.heap.size\/b.heap.size=w.heap.size+1);omega);have O:=(Kk b (R #[Y (Z ⟨w.heap.size+1+1,0,I⟩),Y (Z ⟨m,0,I⟩)] 80)).1;have bB:=A.whole (O.whole (q.o.whole n.o)) (by show¬(w.heap.size+1+1=w.heap.size\/w.heap.size+1+1=w.heap.size+1);omega);have P:=(L.o.fr O aA).fr A (fun k X=>az) (by show¬(m=w.heap.size\/m=w.heap.size+1);omega);have Q:=((d.o.trans q.o).trans O).monoNew A (fun k X=>.inr az);generalize((b.alloc _).setCell ⟨w.heap.size,0,I⟩ (Y (Z ⟨b.heap.size,0,I⟩))).setCell ⟨w.heap.size+1,0,I⟩ (q4 true)=W at*;refine leaves_cons (f:=41) (args:=#[Y (Z ⟨w.heap.size,0,I⟩),Y (Z ⟨w.heap.size+1,0,I⟩)]) aA aP ?_;refine(G6 w.heap.size (w.heap.size+1) W).mono ?_;rintro e u' w3 ⟨rfl,rfl,a⟩;have E:=(a.cell (p:=⟨w.heap.size,0,I⟩) (bL W _ d0)).trans d0;have F:=(a.cell (p:=⟨w.heap.size+1,0,I⟩) (bL W _ d1)).trans d1;have eT:=a.whole bT;simp[Leaves,settle,results,results24,go_sem,E,F];exact⟨⟨_,_,zb,m,ra,rc,rfl,Zc eT 0,Zc eT 1,a.whole bB,P.fr a aA,v7 d.o.size G,J,(d.o.trans q.o).size,az⟩,Q.trans a⟩
def tC {t:NQ}(h:t.Ok):An t.rts t.nms t.prs t.root:=by
 refine⟨fun r c=>?_,h.r6,fun s a=>?_,fun l d=>?_,h.dp⟩
 ·have:=h.rt r c;exact⟨z,z,z⟩
 ·have:=h.nm s a;omega
 obtain⟨e,f,b,g⟩:=h.pr l d;exact⟨z,fun s a _=>⟨aj (b s a).nl,(b s a).sk,(b s a).am⟩⟩
def Dv (w:z9)(T:Nat):Prop:=∃a,w.cell? ⟨T,0,I⟩=Z (Y (Z ⟨a,0,I⟩))/\w.heap[a]?=Z (R #[H I 0 0,H I 0 0] 89)
def Dv.fr {w w' T}(h:Dv w T)(a:F0 w w'):Dv w' T:=by
 obtain⟨c,b,d⟩:=h;exact⟨c,(a.cell (p:=⟨T,0,I⟩) (bL w _ b)).trans b,a.whole d⟩
def LL (w a)(h:w.cell? ⟨a,1,I⟩=Z (H I 0 0)):z5 D 39 #[Y (Z ⟨a,0,I⟩)] w fun e b=>e=z6 (H I 0 0)/\b=w:=by
 go_enter func39,ntmps39;go_wp2
 go_loopg [3,15] 0 (fun c v d wr=>c=0/\v=H I 0 0/\d=U E 0/\G (wr=w))
 case atStart=>exact⟨rfl,rfl,rfl,rfl⟩
 obtain⟨rfl,rfl,rfl,f⟩:=hrel;go_wp2;go_ret;exact⟨rfl,f.o⟩
def Dw (w a)(h:w.cell? ⟨a,1,I⟩=Z (H I 0 0)):z5 D 140 #[Y (Z ⟨a,0,I⟩)] w fun e b=>e=z6 (H I 0 0)/\b=w:=by
 go_enter func140,ntmps140;go_wp2
 go_loopg [3,11] 0 (fun c v d wr=>c=0/\v=H I 0 0/\d=U E 0/\G (wr=w))
 case atStart=>exact⟨rfl,rfl,rfl,rfl⟩
 obtain⟨rfl,rfl,rfl,f⟩:=hrel;go_wp2;go_ret;exact⟨rfl,f.o⟩
def LM (w:z9)(T:Nat)(h:Dv w T):z5 D 20 #[Y (Z ⟨T,0,I⟩)] w fun e b=>e=z6 (H I 0 0)/\b=w:=by
 obtain⟨c,g,d⟩:=h;have f:=o (LL w c (Zc d 1));go_enter func20,ntmps20;go_wp2_with fail;refine f.o.mono ?_;rintro e i ⟨rfl,a⟩;replace a:=a.symm;subst a;go_wp2;go_ret;exact⟨rfl,rfl⟩
def Dx (w:z9)(T:Nat)(h:Dv w T):z5 D 89 #[Y (Z ⟨T,0,I⟩)] w fun e b=>e=z6 (H I 0 0)/\b=w:=by
 obtain⟨c,g,d⟩:=h;have f:=o (Dw w c (Zc d 1));go_enter func89,ntmps89;go_wp2_with fail;refine f.o.mono ?_;rintro e i ⟨rfl,a⟩;replace a:=a.symm;subst a;go_wp2;go_ret;exact⟨rfl,rfl⟩
def OI (w b c):z5 D 59 #[Y (Z ⟨b,0,I⟩),H I 0 c] w fun e a=>e=z6 (.tuple #[])/\a=w:=by
 go_enter func59,ntmps59;go_wp2
 go_loopg [8] 0 (fun d f wr=>d=0/\f=U E 0/\G (wr=w))
 case atStart=>exact⟨rfl,rfl,rfl⟩
 obtain⟨rfl,rfl,g⟩:=hrel;go_wp2
 go_end0
 exact⟨rfl,g.o⟩
def IT (w b)(h:w.cell? ⟨b,1,I⟩=Z (H I 0 0)):z5 D 61 #[Y (Z ⟨b,0,I⟩)] w fun e a=>e=z6 (z4 ⟨#[]⟩)/\F0 w a:=by
 have c:=fun w=>Lib.run_unsafeSliceData_nil (P:=D) w #[50] 201 0 0
 have d:=fun w=>Lib.run_unsafeString_none (P:=D) w 201 3 9 I
 go_enter func61,ntmps61;go_wp2
 go_region
 all_goals
  go_wp2;go_ret;exact⟨rfl,Zo.drew⟩
def Dy (w d)(h:w.heap[d]?=Z (R #[H I 0 0,H I 0 0] 89)):z5 D 33 #[Y (Z ⟨d,0,I⟩)] w fun e g=>e=z6 (z4 ⟨#[]⟩)/\F0 w g:=by
 have a:G (F0 w (w.alloc (R #[Y I,H I 0 0] 116))):=Zo.alloc _;have i:=o (bC (aN w (R #[Y I,H I 0 0] 116)) 1 _ rfl);have f:=o (a.o.whole h);have j:=o (fun W b=>OI W b 0);go_enter func33,ntmps33;go_upto_region 3 with fail;generalize w.alloc _=k at*;generalize w.heap.size=b at*;obtain⟨r,s⟩:=ap f.o;go_wp2
 go_loopg [4,12] 0 (fun l v m wr=>l=0/\v=U E 0/\m=U E 0/\G (wr=k))
 case atStart=>exact⟨rfl,rfl,rfl,rfl⟩
 obtain⟨rfl,rfl,rfl,n⟩:=hrel;have c:=n.o.symm;subst c;go_wp2_with fail;refine(j.o _ b).mono ?_;rintro e t ⟨rfl,c⟩;replace c:=c.symm;subst c;go_wp2_with fail;refine(IT _ b i.o).mono ?_;rintro e u ⟨rfl,p⟩;have q:=o (a.o.trans p);go_wp2;go_ret;exact⟨rfl,q.o⟩
def Dz (w T)(h:Dv w T):z5 D 17 #[Y (Z ⟨T,0,I⟩)] w fun e a=>e=z6 (z4 ⟨#[]⟩)/\F0 w a:=by
 obtain⟨b,i,c⟩:=h;have d:=o (Dy w b c);go_enter func17,ntmps17;go_wp2_with fail;refine d.o.mono ?_;rintro e j ⟨rfl,f⟩;have g:=o f;go_wp2;go_ret;exact⟨rfl,g.o⟩
def KH (w:z9)(T:Nat)(t:NQ):Prop:=Dv w T/\∃a b c d,w.cell? ⟨T,1,I⟩=Z (Y (Z ⟨a,0,I⟩))/\NB b w a t.rts c d t.nms t.prs t.root
def KH.fr {w w' T t}(h:KH w T t)(a:F0 w w'):KH w' T t:=by
 obtain⟨c,d,e,f,g,b,i⟩:=h;exact⟨c.fr a,d,e,f,g,(a.cell (p:=⟨T,1,I⟩) (bL w _ b)).trans b,i.fr a⟩
def IU {l t}(h:TE l=Z t):t.Ok:=by
 unfold TE at h
 split at h
 ·cases h
 exact yV h
def ZD:Nat->Nat->List UInt8
 |0,_=>[]
 |k+1,n=>y4 n::ZD k (n/256)
def Zi:∀k n,(ZD k n).length=k
 |0,_=>rfl
 |k+1,n=>by simp[ZD,Zi k]
def G7:∀k n,n<256^k->Pf (ZD k n)=n
 |0,n,h=>by simp[ZD,Pf]at*;omega
 |k+1,n,h=>by
  simp only[ZD,Pf,x4];rw[G7 k (n/256) (by rw[Nat.pow_succ]at h;omega)];omega
def G8:∀k n i,i<k->(ZD k n)[i]?=Z (y4 (n/2^(8*i)))
 |k+1,n,0,_=>by simp[ZD]
 |k+1,n,i+1,h=>by
  simp only[ZD,List.getElem?_cons_succ];rw[G8 k (n/256) i z,Nat.div_div_eq_div_mul,show 8*(i+1)=8+8*i from z,Nat.pow_add]
def WF (s:ByteArray):List UInt8:=ZD 1 s.size++s.data.toList
def WZ (r:Zf):List UInt8:=WF r.name++(ZD 4 r.base++ZD 4 r.rate)
def TF (l:List Nat):List UInt8:=ZD 1 l.length++l.flatMap (ZD 2)
def Y6 (s:Zl):List UInt8:=ZD 1 s.sort++(if s.sort=0\/s.sort=2 then ZD 1 s.skip++TF s.nums else if s.sort=1 then ZD 1 s.skip++(ZD 4 (s.nums.getD 0 0)++ZD 4 (s.nums.getD 1 0))else if s.sort=3 then ZD 1 s.rule else if s.sort=4\/s.sort=5 then ZD 1 s.rule++TF s.nums else[])
def Tl (l:List Zl):List UInt8:=ZD 1 l.length++l.flatMap Y6
def Tr.wr:Tr->List UInt8
 | .leaf p=>ZD 1 (1+p)
 | .node k=>ZD 1 0++(q5 10).flatMap fun d=>(k d).wr
def XK (t:NQ):List UInt8:=(ZD 1 t.rts.length++t.rts.flatMap WZ)++((ZD 1 t.nms.length++t.nms.flatMap WF)++((ZD 1 t.prs.length++t.prs.flatMap Tl)++t.root.wr))
def Tr.norm:Tr->Tr
 | .leaf p=>.leaf p
 | .node k=>.node fun d=>((q5 10).map fun d=>(k d).norm).getD d (.leaf 0)
def CT {α}(f)(a:α){d}(h:d<10):((q5 10).map f).getD d a=f d:=by
 rw[v8,q8,List.getElem?_range h];rfl
def OJ {dg:Nat->Nat}(a:∀n,dg n<10):∀(t:Tr)(n:Nat),t.norm.find dg n=t.find dg n
 | .leaf _,_=>rfl
 | .node k,n=>by
  show(((q5 10).map fun d=>(k d).norm).getD (dg n) (.leaf 0)).find dg (n+1)=(k (dg n)).find dg (n+1)
  rw[CT (fun d=>(k d).norm) _ (a n)];exact OJ a (k (dg n)) (n+1)
def CU:∀(t:Tr),t.norm.wr=t.wr
 | .leaf _=>rfl
 | .node k=>by
  show ZD 1 0++(q5 10).flatMap (fun d=>(((q5 10).map fun d=>(k d).norm).getD d (.leaf 0)).wr)=ZD 1 0++(q5 10).flatMap fun d=>(k d).wr
  congr 1
  rw[k8,k8]
  congr 1
  refine List.map_congr_left fun d a=>?_
  rw[CT (fun d=>(k d).norm) _ (j9.1 a)];exact CU (k d)
def JE (b:List UInt8)(i:Nat)(l:List UInt8):Prop:=∃p r,b=p++(l++r)/\p.length=i
def JE.left {b i l m}(h:JE b i (l++m)):JE b i l:=by
 obtain⟨p,r,e,a⟩:=h;exact⟨p,m++r,by rw[e,z8],a⟩
def JE.right {b i l m}(h:JE b i (l++m)):JE b (i+l.length) m:=by
 obtain⟨p,r,e,a⟩:=h;exact⟨p++l,r,by rw[e];simp,by simp[a]⟩
def G9 {b i l n}(h:JE b i l)(a:l.length=n):Qp b n i=Z (l,i+n):=by
 obtain⟨p,r,e,c⟩:=h;subst a c;unfold Qp;rw[if_pos (by rw[e];simp),e];simp
def Xt {b i k n}{lo hi:Int}(h:JE b i (ZD k n))(a:n<256^k)(c:lo<=n)(d:(n:Int)<=hi):Xa b k lo hi i=Z (n,i+k):=by
 unfold Xa;rw[G9 h (Zi k n)]
 dsimp only
 rw[G7 k n a,if_pos ⟨c,d⟩]
def OK {α β:Type}{b:List UInt8}{one:Rd β}{W:α->List UInt8}{f:α->β}:∀(l:List α)(i:Nat),(∀x,x∈l->∀i,JE b i (W x)->one i=Z (f x,i+(W x).length))->JE b i (l.flatMap W)->WU one l.length i=Z (l.map f,i+(l.flatMap W).length)
 |[],i,_,_=>by simp[WU]
 |x::l,i,ho,h=>by
  rw[List.flatMap_cons]at h;simp only[List.length_cons,WU];rw[ho x aA i h.left]
  dsimp only
  rw[OK l _ (fun y a=>ho y (by simp[a])) h.right];simp[x7]
def RD {α:Type}{β b}{one:Rd β}{W f}{lo hi:Int}{l:List α}{i:Nat}(a:∀x,x∈l->∀i,JE b i (W x)->one i=Z (f x,i+(W x).length))(h:JE b i (ZD 1 l.length++l.flatMap W))(g:l.length<=255)(c:lo<=l.length)(d:(l.length:Int)<=hi):
  YV b lo hi one i=Z (l.map f,i+(ZD 1 l.length++l.flatMap W).length):=by
 unfold YV;rw[Xt h.left z c d]
 dsimp only
 have e:=h.right;rw[Zi]at e;rw[OK l _ a e,lA,Zi,x7]
def QW {s}(h:XP s=true):1<=s.size/\s.size<=8:=by
 unfold XP at h;simp only[Bool.and_eq_true,decide_eq_true_eq]at h;exact⟨h.1,h.2.1⟩
def Fb {b i s}(a:XP s=true)(h:JE b i (WF s)):UL b i=Z (s,i+(WF s).length):=by
 have c:=QW a;unfold UL;rw[Xt h.left z z z]
 dsimp only
 have e:=h.right;rw[Zi]at e;rw[G9 e y]
 dsimp only
 rw[show(⟨s.data.toList.toArray⟩:ByteArray)=s from by rw[Array.toArray_toList],if_pos a];simp[WF,Zi,x7]
def AX {b i r}(a:XP r.name=true/\r.base<=1000000/\r.rate<=1000)(h:JE b i (WZ r)):VE b i=Z (r,i+(WZ r).length):=by
 unfold VE;rw[Fb a.1 h.left]
 dsimp only
 rw[Xt h.right.left z z z]
 dsimp only
 have e:=h.right.right;rw[Zi]at e;rw[Xt e z z z];simp[WZ,Zi,x7]
def Fc {b i l hi}(d:1<=l.length)(g:l.length<=4)(a:∀x:Nat,x∈l->(x:Int)<=hi/\x<65536)(h:JE b i (TF l)):Nc b hi i=Z (l,i+(TF l).length):=by
 unfold Nc;have e:=RD (b:=b) (one:=Xa b 2 0 hi) (W:=ZD 2) (f:=fun x=>x) (lo:=1) (hi:=4) (l:=l) (i:=i) (fun x c i hi=>by rw[Zi];exact Xt hi (aj (a x c)) z (a x c).1) h z z z;rw[e,j8];rfl
def sR (d c:Nat)(s:Zl):Prop:=
 (∃(a b:Nat)(l:List Nat)(k:Nat),(a=0/\b=9999\/a=2/\b=999)/\s=⟨a,l,0,k⟩/\1<=k/\k<=255/\1<=l.length/\l.length<=4/\∀x,x∈l->x<=b)\/
 (∃x y k:Nat,s=⟨1,[x,y],0,k⟩/\1<=k/\k<=255/\x<=y/\y<=1000000000)\/
 (∃i:Nat,s=⟨3,[],i,0⟩/\i<c)\/
 (∃(a:Nat)(l:List Nat)(i:Nat),(a=4\/a=5)/\s=⟨a,l,i,0⟩/\i<c/\1<=l.length/\l.length<=4/\∀x,x∈l->x<d)\/s=⟨6,[],0,0⟩
def xP {b m n i s}(B:m<=6)(C:n<=8)(v:sR m n s)(h:JE b i (Y6 s)):V1 b m n i=Z (s,i+(Y6 s).length):=by
 rcases v with⟨d,hi,l,k,f,rfl,w,z,o,p,q⟩|⟨x,y,k,rfl,w,z,A,D⟩|⟨j,rfl,g⟩|⟨d,l,j,f,rfl,g,o,p,q⟩|rfl
 ·have e:Y6 ⟨d,l,0,k⟩=ZD 1 d++(ZD 1 k++TF l):=by unfold Y6;dsimp only;rw[if_pos az]
  rw[e]at h ⊢;have a:=h.right;rw[Zi]at a;have c:=a.right;rw[Zi]at c
  have t:∀g:Int,(hi:Int)=g->Tb b d g (i+1)=Z (⟨d,l,0,k⟩,i+(ZD 1 d++(ZD 1 k++TF l)).length):=fun g E=>by
   unfold Tb;rw[Xt a.left az az az]
   dsimp only
   rw[Fc o p (fun x r=>aj (q x r)) c];simp[Zi,x7];omega
  unfold V1;rw[Xt h.left az az az]
  dsimp only
  rcases f with⟨rfl,rfl⟩|⟨rfl,rfl⟩
  ·rw[if_pos rfl];exact t _ rfl
  rw[if_neg az,if_neg az,if_pos rfl];exact t _ rfl
 ·have e:Y6 ⟨1,[x,y],0,k⟩=ZD 1 1++(ZD 1 k++(ZD 4 x++ZD 4 y)):=rfl;rw[e]at h ⊢;have a:=h.right;rw[Zi]at a;have c:=a.right;rw[Zi]at c;have u:=c.right;rw[Zi]at u;unfold V1;rw[Xt h.left az az az]
  dsimp only
  rw[if_neg az,if_pos rfl];unfold Gy;rw[Xt a.left az az az]
  dsimp only
  rw[Xt c.left az az az]
  dsimp only
  rw[Xt u az az az];simp[Zi,x7]
 ·have e:Y6 ⟨3,[],j,0⟩=ZD 1 3++ZD 1 j:=rfl;rw[e]at h ⊢;have a:=h.right;rw[Zi]at a;unfold V1;rw[Xt h.left az az az]
  dsimp only
  rw[if_neg az,if_neg az,if_neg az,if_neg az];unfold Iv;rw[Xt a az az az];simp[Zi,x7]
 ·have e:Y6 ⟨d,l,j,0⟩=ZD 1 d++(ZD 1 j++TF l):=by unfold Y6;dsimp only;rw[if_neg az,if_neg az,if_neg az,if_pos f]
  rw[e]at h ⊢;have a:=h.right;rw[Zi]at a;have c:=a.right;rw[Zi]at c;unfold V1;rw[Xt h.left az az az]
  dsimp only
  rw[if_neg az,if_neg az,if_neg az,if_neg az];unfold Iv;rw[Xt a.left az az az]
  dsimp only
  rw[if_neg az,Fc o p (fun x r=>aj (q x r)) c];simp[Zi,x7];omega
 have e:Y6 ⟨6,[],0,0⟩=ZD 1 6++[]:=rfl;rw[e]at h ⊢;unfold V1;rw[Xt h.left az az az]
 dsimp only
 rw[if_neg az,if_neg az,if_neg az,if_pos rfl];simp[Zi]
def Fd {b:List UInt8}{np:Nat}(l:np<=255):∀(t:Tr)(n i:Nat),n<=6->t.deep n->t.lows np->JE b i t.wr->XG b np (7-n) i=Z (t.norm,i+t.wr.length)
 | .leaf p,n,i,h6,_,a,h=>by
  have a:p<np:=a;have h:JE b i (ZD 1 (1+p)):=h;rw[show 7-n=(6-n)+1 from z,XG]
  dsimp only
  rw[Xt h z z z,Nat.add_comm 1 p];simp[Tr.norm,Tr.wr,Zi]
 | .node k,n,i,h6,g,a,h=>by
  have h:JE b i (ZD 1 0++(q5 10).flatMap fun d=>(k d).wr):=h;have g:n<6/\∀d,d<10->(k d).deep (n+1):=g;have a:∀d,d<10->(k d).lows np:=a;have j:=h.right;rw[Zi]at j
  have e:=OK (b:=b) (one:=XG b np (6-n)) (W:=fun d=>(k d).wr) (f:=fun d=>(k d).norm) (q5 10) (i+1) (fun d m i hi=>by
   have c:=j9.1 m;have:=Fd l (k d) (n+1) i z (g.2 d c) (a d c) hi;rw[show 7-(n+1)=6-n from z]at this
   exact this) j
  rw[List.length_range]at e;rw[show 7-n=(6-n)+1 from z,XG]
  dsimp only
  rw[Xt h.left z z z]
  dsimp only
  rw[if_neg z,e];simp[Tr.norm,Tr.wr,Zi,x7]
structure NQ.Wr (t:NQ):Prop where
 r6:t.rts.length<=6
 rt:∀r,r∈t.rts->XP r.name=true/\r.base<=1000000/\r.rate<=1000
 n8:t.nms.length<=8
 nm:∀s,s∈t.nms->XP s=true
 df:(YW (t.rts.map Zf.name)&&YW t.nms)=true
 pl:1<=t.prs.length/\t.prs.length<=255
 pr:∀l,l∈t.prs->1<=l.length/\l.length<=255/\(∀s,s∈l->sR t.rts.length t.nms.length s)/\Ne l=true
 dp:t.root.deep 0
 lf:t.root.lows t.prs.length
def xQ {t}(h:t.Wr):Nf (XK t)=Z ⟨t.rts,t.nms,t.prs,t.root.norm⟩:=by
 have a:JE (XK t) 0 ((ZD 1 t.rts.length++t.rts.flatMap WZ)++((ZD 1 t.nms.length++t.nms.flatMap WF)++((ZD 1 t.prs.length++t.prs.flatMap Tl)++t.root.wr))):=⟨[],[],by simp[XK],rfl⟩;have c:=h.r6;have d:=h.n8;have k:=h.pl
 have g:(XK t).length=0+(ZD 1 t.rts.length++t.rts.flatMap WZ).length+(ZD 1 t.nms.length++t.nms.flatMap WF).length+(ZD 1 t.prs.length++t.prs.flatMap Tl).length+t.root.wr.length:=by
  unfold XK;simp only[y7];omega
 generalize XK t=b at*;unfold Nf;rw[RD (W:=WZ) (f:=fun x=>x) (fun r j i hi=>AX (h.rt r j) hi) a.left z z z]
 dsimp only
 rw[j8,RD (W:=WF) (f:=fun x=>x) (fun r j i hi=>Fb (h.nm r j) hi) a.right.left z z z]
 dsimp only
 rw[j8,if_pos h.df,RD (W:=Tl) (f:=fun x=>x) (fun l g i hi=>by
  obtain⟨p,q,m,n⟩:=h.pr l g;unfold Tc;have e:=RD (b:=b) (one:=V1 b t.rts.length t.nms.length) (W:=Y6) (f:=fun x=>x) (lo:=1) (hi:=255) (l:=l) (i:=i) (fun s o i hi=>xP c d (m s o) hi) hi z z z;rw[e,j8]
  dsimp only
  rw[if_pos n]
  rfl) a.right.right.left z z z]
 dsimp only
 rw[j8];have e:=Fd (np:=t.prs.length) z t.root 0 _ z h.dp h.lf a.right.right.right;rw[e]
 dsimp only
 rw[if_pos g.symm]
def Wy (b:List UInt8):List UInt8:=(YT (8+b.length)++b)++YT (Qc (YT (8+b.length)++b))
def Sg (n):(YT n).length=4:=rfl
def OL (b):(Wy b).length=8+b.length:=by
 unfold Wy;simp[Sg];omega
def LO {b}(h:b.length<=199992):Vm (Wy b)=Z b:=by
 have a:=OL b
 have c:(Wy b).take 4=YT (8+b.length):=by
  unfold Wy;rw[z8,k9 (Sg _)]
 have d:(Wy b).take (4+b.length)=YT (8+b.length)++b:=by
  unfold Wy;rw[k9 (by simp[Sg])]
 have e:(Wy b).drop (4+b.length)=YT (Qc (YT (8+b.length)++b)):=by
  unfold Wy;rw[g5 (by simp[Sg])]
 unfold Vm;rw[a,if_pos ⟨z,z⟩,show 8+b.length-4=4+b.length from z,c,d,e,if_pos ⟨rfl,rfl⟩,g5 (Sg _)]
def DA {t}(h:t.Wr)(a:(XK t).length<=199992):TE (Wy (XK t))=Z ⟨t.rts,t.nms,t.prs,t.root.norm⟩:=by
 unfold TE;rw[LO a];exact xQ h
def RX {l b}(h:Vm l=Z b):8<=l.length/\l.length<=200000/\l.take 4=YT l.length/\l.drop (l.length-4)=YT (Qc (l.take (l.length-4))):=by
 unfold Vm at h
 split at h
 ·rename_i a
  split at h
  ·rename_i c;exact⟨a.1,a.2,c.1,c.2⟩
  cases h
 cases h
def Fe {m n}(a:m<4294967296)(b:n<4294967296)(h:YT m=YT n):m=n:=by
 rw[<-JC a,<-JC b,h]
def xR {l b k}(h:Vm l=Z b)(d:k<l.length):Vm (l.take k)=I:=by
 cases a:Vm (l.take k)with
 |none=>rfl
 |some f=>
  obtain⟨g,i,c,j⟩:=RX h;obtain⟨g1,g2,g3,m⟩:=RX a;have e:(l.take k).length=k:=aF;rw[e]at g1 g3;rw[List.take_take,Nat.min_eq_left z,c]at g3;have:=Fe z z g3;omega
def RE (l:List UInt8):List x5:=l.map fun c=>U x6 (c.toNat:Nat)
def strCells_eq (s):Lib.strCells s=RE s.data.toList:=by
 unfold RE;simp[Lib.strCells]
structure Xd (w:z9)(B:Nat)(l:List UInt8):Prop where
 bx:∃v,w.heap[B]?=Z (R #[v] 145)/\w.ownsRow (B+1) 5 1 v l.length (RE l)
 sz:l.length<=1000000
def Qy:(D.info? 5).map (fun i=>(i.zero,i.size,i.bytes))=Z (Z (U x6 0),1,1):=n
def pJ (w:z9)(B k:Nat):Prop:=k=B\/(B<k/\∃a,w.heap[k]?=Z (R a 5))
def Wf (w:z9)(B:Nat)(a:z9):Prop:=Fr (pJ w B) w a
def Wf.of {w a B}(h:F0 w a):Wf w B a:=Fr.mono h
def Wf.trans {w a w2 B}(b:Wf w B a)(d:Wf a B w2):Wf w B w2:=by
 refine Fr.monoNew b d (fun k f=>?_);by_cases g:k<w.heap.size
 ·by_cases c:pJ w B k
  ·exact .inl c
  refine .inl ?_;rcases f with e|⟨h,cs,i⟩
  ·exact .inl e
  exact .inr ⟨h,cs,by
   have e:=Fr.block b k g c;rw[<-e]
   exact i⟩
 exact .inr z
def Wf.up {w w' B}(h:Wf w B w'):Fr (fun k=>B<=k) w w':=Fr.mono h (fun k a=>by rcases a with e|⟨e,_⟩<;>show B<=k<;>omega)
def Wf.box {w a B X t b}(h:Wf w B a)(c:w.heap[X]?=Z (R b t))(d:X≠B)(f:t≠5):a.heap[X]?=Z (R b t):=
 Fr.whole h c (fun e=>by
  rcases e with e|⟨_,g,e⟩
  ·exact d e
  rw[c]at e;injection e with e;injection e with _ e
  exact f e)
def AY (w:z9)(B:Nat)(l:List UInt8)(e:Ending)(a:z9):Prop:=e=z6 (.tuple #[])/\Xd a B l/\Wf w B a
def Xd.fr {w w' B l}(h:Xd w B l)(a:F0 w w'):Xd w' B l:=by
 obtain⟨v,b,c⟩:=h.bx;exact⟨⟨v,a.whole b,oF c a⟩,h.sz⟩
def LP {d f b B n v v' r L}(s:d.heap[B]?=Z (R #[v] 145))(m:d.ownsRow (B+1) 5 1 v n r)(o:F0 d f)(q:f.grownBy b v.ownBlock)(c:b.ownsRow (B+1) 5 1 v' L.length (RE L))(t:L.length<=1000000):
  Xd (b.setCell ⟨B,0,I⟩ v') B L/\Wf d B (b.setCell ⟨B,0,I⟩ v'):=by
 have h:=((Fr.refl (fun k=>v.ownBlock=Z k) f).grown q (fun k a=>y6 a)).whole (o.whole s) (fun e=>aj (m.lt B e).1);refine⟨⟨⟨v',heap_setCell_same b B 0 _ _ v' h,oB c y v'⟩,t⟩,?_⟩;refine Fr.setCell (Fr.grown (Wf.of (B:=B) o) q (fun k a=>y6 (x8 ?_))) (p:=⟨B,0,I⟩) (y6 (y6 rfl)) v';rcases m.2 with⟨rfl,_⟩|⟨g,u,i,rfl,j,l,_⟩
 ·cases a
 injection a with a;subst a;exact⟨nL (Nat.lt_succ_self B) j,i,l⟩
def um (x:Nat):k5.wrap (x:Int)=(((y4 x).toNat:Nat):Int):=by
 rw[x4];simp[g8,g9,g7]
def Wc (w B l)(k n:Nat)(kv nv:Int)(h:Xd w B l)(P:k<=4)(T:kv=k)(V:nv=n)(hs:l.length+k<=1000000):
  z5 D 69 #[Y (Z ⟨B,0,I⟩),U E kv,U E nv] w (AY w B (l++ZD k n)):=by
 subst T V;obtain⟨ij,x,y,z,A⟩:=info_parts Qy;have W:=o h;go_enter func69,ntmps69;go_wp2
 go_loopg [8] k (fun mm iv wr=>∃i:Nat,i<=k/\mm=k-i/\iv=U E (i:Nat)/\G (Xd wr B (l++(ZD k n).take i))/\G (Wf w B wr))
 case atStart=>exact⟨0,j1 _,rfl,rfl,by rw[List.take_zero,List.append_nil];exact W.o,Zo⟩
 obtain⟨i,g0,rfl,rfl,r,s⟩:=hrel;by_cases X:i<k
 ·have a0:=af i k;obtain⟨L,hL⟩:=ad (l++(ZD k n).take i);rw[hL]at r;obtain⟨v,hb,ho⟩:=r.o.bx;obtain⟨m,hm⟩:=ad L.length;rw[hm]at ho
  have h0:m+1<=1000000:=by rw[<-hm,<-hL,lA,k7,Zi];omega
  have Q:=o hm;obtain⟨C,F,e⟩:=oL ho;subst e;have u:=o hb;have J:=o ho;have c0:=Zc hb 0;have fz:=bF hb 0;obtain⟨p,K⟩:=ad (y4 (n/2^(8*i)))
  have HL:G (l++(ZD k n).take (i+1)=L++[p]):=by
   show _=_
   rw[j5,G8 k n i X,K,<-hL,z8];rfl
  have i0:j6.wrap (8*(i:Int))=8*(i:Int):=IntWalk.i64_in _ aI;obtain⟨q,hq⟩:=ad (n/2^(8*i))
  have j0:(n:Int)/2^(8*(i:Int)).toNat=((q:Nat):Int):=by
   rw[<-hq,show(8*(i:Int)).toNat=8*i from az];simp
  have l0:k5.wrap (q:Int)=((p.toNat:Nat):Int):=by rw[um,<-K,hq]
  go_wp2;refine wp_region_held_drew (S:=fun _=>True) aC trivial (fun j=>?_)
  iterate 4 (refine Yy 0 j ?_;try go_frame)
  iterate 5 ((first|refine Yy 0 j ?_|refine Yy 1 j ?_);try go_frame)
  have f:G (F0 wr ((wr.alloc (R #[U x6 (p.toNat:Nat)] 5)).drew)):=(Zo.alloc _).drew;have M:=o (oF J.o f.o);have m0:B+1<=wr.heap.size:=(iA.1 u.o).1;refine XA [4,10] ?_;refine Zb rfl (fun t g=>?_) ?_
  ·try rw[if_pos aD]
   go_simp;refine g.out _ _ trivial (fun j=>?_)
   try go_frame
   refine XA [10] ?_;refine Zb rfl (fun t g=>?_) y5
   try rw[if_pos aD]
   go_simp;refine g.out _ _ trivial (fun j=>?_)
   try go_frame
   refine XA [11] ?_;refine Zb rfl (fun t g=>?_) y5
   try rw[if_pos aD]
   refine wp_append_lies _ (.tmp 15) (.tmp 21) 50 rfl (B+1) 5 ij _ 1 1 underlying50 x y z A rfl aB (H C m F) m (RE L) rfl M.o ⟨wr.heap.size,0,I⟩ 1 1 [U x6 (p.toNat:Nat)] rfl rfl ?h2A ?h3A aB ?h4A ?h5A ?h6A _ rfl ?_
   case h2A=>exact y9 (aN wr (R #[U x6 (p.toNat:Nat)] 5))
   case h3A=>simp[x9]
   case h4A=>unfold maxLen;omega
   case h5A=>omega
   case h6A=>have:=f.o.size;omega
   intro g2 b w8 d a b0 _
   have N:=o (LP (v':=H (Z ⟨g2,0,I⟩) (m+1) b) (L:=L++[p]) u.o J.o f.o a (by
    rw[lA,Q.o];unfold RE at d ⊢;rw[k0]
    exact d) (by rw[lA,Q.o];simp;omega))
   have O:=((Fr.refl (fun k=>(q7 C m F).ownBlock=Z k) _).grown a (fun k P=>y6 P)).whole (f.o.whole u.o) (fun e=>aj (J.o.lt B e).1);have e0:=Zc O 0;have f0:=bF O 0;refine g.out _ _ trivial (fun j=>?_)
   try go_frame
   iterate 2 (refine Yy 0 j ?_;try go_frame)
   refine XA [14] ?_;refine Zb rfl (fun t g=>?_) y5
   try rw[if_pos aD]
   go_simp;refine g.out _ _ trivial (fun j=>?_)
   try go_frame
   refine wpAnyH_done aC ?_ _;generalize w8.setCell ⟨B,0,I⟩ (H (Z ⟨g2,0,I⟩) (m+1) b)=W9 at*;go_wp2;go_roundg (k-(i+1))
   case measure=>omega
   exact⟨i+1,az,rfl,aE,by show Xd _ _ _;rw[HL.o];exact N.o.1,s.o.trans N.o.2⟩
  refine Zb rfl (fun t g=>?_) y5
  try rw[if_pos aD]
  go_simp;refine g.out _ _ trivial (fun j=>?_)
  try go_frame
  refine XA [4] ?_;refine Zb rfl (fun t g=>?_) y5
  try rw[if_pos aD]
  have z0:(wr.alloc (R #[U x6 (p.toNat:Nat)] 5)).cell? ⟨B,0,I⟩=Z (H C m F):=bC (((Fr.refl (fun _=>False) wr).alloc _).whole u.o) 0 _ rfl;go_simp;refine g.out _ _ trivial (fun j=>?_)
  try go_frame
  refine XA [11] ?_;refine Zb rfl (fun t g=>?_) y5
  try rw[if_pos aD]
  refine wp_append_lies _ (.tmp 15) (.tmp 21) 50 rfl (B+1) 5 ij _ 1 1 underlying50 x y z A rfl aB (H C m F) m (RE L) rfl M.o ⟨wr.heap.size,0,I⟩ 1 1 [U x6 (p.toNat:Nat)] rfl rfl ?h2B ?h3B aB ?h4B ?h5B ?h6B _ rfl ?_
  case h2B=>exact y9 (aN wr (R #[U x6 (p.toNat:Nat)] 5))
  case h3B=>simp[x9]
  case h4B=>unfold maxLen;omega
  case h5B=>omega
  case h6B=>have:=f.o.size;omega
  intro g2 b w8 d a b0 _
  have N:=o (LP (v':=H (Z ⟨g2,0,I⟩) (m+1) b) (L:=L++[p]) u.o J.o f.o a (by
   rw[lA,Q.o];unfold RE at d ⊢;rw[k0]
   exact d) (by rw[lA,Q.o];simp;omega))
  have O:=((Fr.refl (fun k=>(q7 C m F).ownBlock=Z k) _).grown a (fun k P=>y6 P)).whole (f.o.whole u.o) (fun e=>aj (J.o.lt B e).1);have e0:=Zc O 0;have f0:=bF O 0;refine g.out _ _ trivial (fun j=>?_)
  try go_frame
  iterate 2 (refine Yy 0 j ?_;try go_frame)
  refine XA [14] ?_;refine Zb rfl (fun t g=>?_) y5
  try rw[if_pos aD]
  go_simp;refine g.out _ _ trivial (fun j=>?_)
  try go_frame
  refine wpAnyH_done aC ?_ _;generalize w8.setCell ⟨B,0,I⟩ (H (Z ⟨g2,0,I⟩) (m+1) b)=W9 at*;go_wp2;go_roundg (k-(i+1))
  case measure=>omega
  exact⟨i+1,az,rfl,aE,by show Xd _ _ _;rw[HL.o];exact N.o.1,s.o.trans N.o.2⟩
 have e:i=k:=az;subst e;have a0:=ai i i;go_wp2
 go_end0
 have e:=r.o;rw[y8 (by rw[Zi];exact z7 _)]at e;exact⟨rfl,e,s.o⟩
def WG {a w B p v}(d:a.heap.size<=B)(c:Fr (fun k=>B<=k) a w)(b:a.cell? p=Z v):w.cell? p=Z v:=
 (c.cell (bL a _ b) (by have:=bL a _ b;show¬B<=p.block;omega)).trans b
def OM {α}(W:α->List UInt8)(l:List α)(i):((l.take i).flatMap W).length<=(l.flatMap W).length:=by
 have e:l.flatMap W=(l.take i).flatMap W++(l.drop i).flatMap W:=by rw[<-k6,List.take_append_drop]
 rw[e,lA];omega
def RF {α}(W:α->List UInt8){l:List α}{i x}(a:l[i]?=Z x):(l.take (i+1)).flatMap W=(l.take i).flatMap W++W x:=by
 rw[j5,a];simp
def JF (w B l s)(h:Xd w B l)(M:(l++WF s).length<=1000000):
  z5 D 71 #[Y (Z ⟨B,0,I⟩),z4 s] w (AY w B (l++WF s)):=by
 obtain⟨N,f,g,i,j⟩:=info_parts Qy;have c:s.data.toList.length=s.size:=aA
 have O:l.length+(1+s.size)<=1000000:=by rw[<-c];simpa[WF,Zi]using M
 have P:=o (Wc w B l 1 s.size _ _ h az rfl rfl az);have n:=o c;go_enter func71,ntmps71;go_wp2_with fail;refine P.o.mono ?_;rintro e C ⟨rfl,Q,p⟩;obtain⟨v,d,q⟩:=Q.bx;obtain⟨m,r⟩:=ad (l++ZD 1 s.size).length;rw[r]at q
 have R:m+s.size<=1000000:=by rw[<-r,lA,Zi];omega
 have S:=o r;obtain⟨E,F,e⟩:=oL q;subst e;have G:=o d;have t:=o q;have u:=o p;have V:=Zc d 0;have W:=bF d 0;have x:B+1<=C.heap.size:=(iA.1 d).1
 go_wp2_with (at_builtin;refine Lib.wpList_append_own_string _ rfl (.tmp 12) (.tmp 13) 50 9 rfl (B+1) 5 N underlying50 underlying9 f g i j (H E m F) m (RE (l++ZD 1 s.size)) rfl t.o s rfl ?h1 ?h2 ?h3 ?_)
 case h1=>unfold maxLen;omega
 case h2=>omega
 case h3=>exact x
 intro v' X a b _
 have y:(l++WF s).length=m+s.size:=by rw[<-S.o];simp only[WF,y7,Zi,n.o];omega
 obtain⟨z,A,e⟩:=oL a;subst e
 have T:=LP (v':=H z (m+s.size) A) (L:=l++WF s) G.o t.o Zo b (by
  rw[strCells_eq]at a;rw[y,WF,<-z8];unfold RE at a ⊢;rw[k0]
  exact a) az
 have J:=o T;have K:=((Fr.refl (fun k=>(q7 E m F).ownBlock=Z k) C).grown b (fun k U=>y6 U)).whole G.o (fun e=>aj (t.o.lt B e).1);have e0:=Zc K 0;have z0:=bF K 0;go_wp2
 go_end0
 exact⟨rfl,J.o.1,u.o.trans J.o.2⟩
def pK (r:Zf):Obj:=R #[z4 r.name,U E (r.base:Nat),U E (r.rate:Nat)] 148
def Ff (w B l r)(h:Xd w B l)(H:(l++WZ r).length<=1000000):
  z5 D 70 #[Y (Z ⟨B,0,I⟩),rF r] w (AY w B (l++WZ r)):=by
 have C:G (∀W (L:List UInt8)(n:Nat),Xd W B L->L.length+4<=1000000->z5 D 69 #[Y (Z ⟨B,0,I⟩),U E 4,U E (n:Nat)] W (AY W B (L++ZD 4 n))):=fun W L n J K=>Wc W B L 4 n 4 n J az rfl rfl K
 have j:l.length+((WF r.name).length+8)<=1000000:=by simpa[WZ,Zi]using H
 have M:B<w.heap.size:=by obtain⟨v,N,_⟩:=h.bx;exact(iA.1 N).1
 obtain⟨a,b⟩:=WM w (pK r);have c:=o (JF _ B l r.name (h.fr a.o) (by rw[lA];omega));have d:=o j
 have F:G (w.heap.size≠B):=by show _≠_;omega
 have O:G (WZ r=WF r.name++(ZD 4 r.base++ZD 4 r.rate)):=rfl;unfold rF;unfold pK at a b c;obtain⟨T,P,Q⟩:=r
 dsimp only at*
 go_enter func70,ntmps70;go_upto_region 1 with fail;generalize w.alloc _=V at*;generalize w.heap.size=X at*;have x0:=Zc b.o 0;go_wp2_with fail;refine c.o.mono ?_;rintro e R ⟨rfl,k,f⟩;have m:=o k;have g:=o (Wf.box f b.o F.o aB);have p:=o ((Wf.of (B:=B) a.o).trans f);have x1:=Zc g.o 1;go_wp2_with fail;refine(C.o R _ P m.o (by rw[lA];have:=d.o;omega)).mono ?_;rintro e S ⟨rfl,q,i⟩;have s:=o q;have t:=o (Wf.box i g.o F.o aB);have u:=o (p.o.trans i);have x2:=Zc t.o 2;go_wp2_with fail;refine(C.o S _ Q s.o (by rw[lA,lA,Zi];have:=d.o;omega)).mono ?_;rintro e w3 ⟨rfl,x,y⟩;have z:=o x;have A:=o (u.o.trans y);go_wp2
 go_end0
 refine⟨rfl,?_,A.o⟩;rw[O.o];have e:=z.o;rw[z8,z8]at e;exact e
def AZ (j w B l a n c b)(Q:j.heap.size<=B)(u:Fr (fun k=>B<=k) j w)(R:Zv j a b)(S:b.length=n)(h4:n<=255)(h:Xd w B l)(s:(l++TF b).length<=1000000):
  z5 D 175 #[Y (Z ⟨B,0,I⟩),H a n c] w (AY w B (l++TF b)):=by
 have P:G (∀W (L:List UInt8)(k m:Nat)(t:Int),Xd W B L->k<=4->t=k->L.length+k<=1000000->z5 D 69 #[Y (Z ⟨B,0,I⟩),U E t,U E (m:Nat)] W (AY W B (L++ZD k m))):=fun W L k m t T V e X=>Wc W B L k m t m T V e rfl X
 have v:G (∀i x,b[i]?=Z x->((l++ZD 1 n)++(b.take i).flatMap (ZD 2)).length+2<=1000000):=fun i x p=>by
  have e:=OM (ZD 2) b (i+1);rw[RF (ZD 2) p,lA,Zi]at e;unfold TF at s;rw[lA,lA,Zi]at s;rw[lA,lA,Zi];omega
 have h1:l.length+1<=1000000:=by
  unfold TF at s;rw[lA,lA,Zi]at s;omega
 have HI:=o R;have d:=o S;have q:G (j.heap.size<=B/\Fr (fun k=>B<=k) j w):=⟨Q,u⟩;have HW:=o h;go_enter func175,ntmps175;go_wp2_with fail;refine(P.o w l 1 n _ HW.o az rfl h1).mono ?_;rintro e w1 ⟨rfl,y,z⟩;have A:=o y;have C:=o z;go_wp2
 go_loopg [12] n (fun mm iv wr=>∃i:Nat,i<=n/\mm=n-i/\iv=U E (i:Nat)/\G (Xd wr B ((l++ZD 1 n)++(b.take i).flatMap (ZD 2)))/\G (Wf w B wr))
 case atStart=>exact⟨0,j1 _,rfl,rfl,by simpa using A,C⟩
 obtain⟨i,a0,rfl,rfl,r,f⟩:=hrel;by_cases F:i<n
 ·have J:=af i n;obtain⟨x,p⟩:∃x,b[i]?=Z x:=⟨_,gE (by rw[d.o];exact F)⟩;obtain⟨g,rfl,hc⟩:=HI.o i x p;have b0:=WG q.o.1 (q.o.2.trans (Wf.up f.o)) hc;have HC:=o (P.o wr _ 2 x 2 r.o az rfl (v.o i x p));have HS:=o (RF (ZD 2) p);go_wp2_with fail;refine HC.o.mono ?_;rintro e w2 ⟨rfl,K,M⟩
  have N:G (Xd w2 B ((l++ZD 1 n)++(b.take (i+1)).flatMap (ZD 2))):=by
   show Xd _ _ _
   rw[HS.o,<-z8];exact K
  have O:=o (f.o.trans M);go_wp2;go_roundg (n-(i+1))
  case measure=>omega
  exact⟨i+1,az,rfl,aE,N,O⟩
 have e:i=n:=az;subst e;have J:=ai i i;go_wp2
 go_end0
 have e:=r.o;rw[y8 (by rw[d.o];exact z7 _),z8]at e;refine⟨rfl,?_,f.o⟩;unfold TF;rw[d.o];exact e
structure qJ (w0 w:z9)(B:Nat)(a:Option Addr)(nums:List Nat):Prop where
 h0:w0.heap.size<=B
 f0:Fr (fun k=>B<=k) w0 w
 hi:Zv w0 a nums
def Sh {w}{B X t k n:Nat}{g L}{b c:Int}(h:Xd w B L)(j:w.heap[X]?=Z (R g t))(l:X≠B)(m:t≠5)(o:k<=4)(d:b=k)(f:c=n)(p:L.length+k<=1000000):
  z5 D 69 #[Y (Z ⟨B,0,I⟩),U E b,U E c] w fun e a=>e=z6 (.tuple #[])/\Xd a B (L++ZD k n)/\a.heap[X]?=Z (R g t)/\Wf w B a:=
 (Wc w B L k n b c h o d f p).mono (by rintro e a ⟨rfl,q,i⟩;exact⟨rfl,q,i.box j l m,i⟩)
def A0 (w0 w B l a n c nr nn s)(A:sR nr nn s)(hn:s.nums.length=n)(h:Xd w B l)(hw:qJ w0 w B a s.nums)(hs:(l++Y6 s).length<=1000000):
  z5 D 116 #[Y (Z ⟨B,0,I⟩),Ki s.sort a n c s.rule s.skip] w (AY w B (l++Y6 s)):=by
 have g0:B<w.heap.size:=by obtain⟨v,hb,_⟩:=h.bx;exact(iA.1 hb).1
 obtain⟨C,F⟩:=WM w (R #[U x6 (s.sort:Nat),H a n c,U E (s.rule:Nat),U E (s.skip:Nat)] 208);have P:=o (h.fr C.o)
 have O:G (w.heap.size≠B):=by show _≠_;omega
 have b:=o hw;have q:=o hn
 have i0:l.length+1<=1000000:=by rw[lA,Y6,lA,Zi]at hs;omega
 have j0:s.sort<=6:=by rcases A with⟨_,_,_,_,⟨rfl,_⟩|⟨rfl,_⟩,rfl,_⟩|⟨_,_,_,rfl,_⟩|⟨_,rfl,_⟩|⟨_,_,_,rfl|rfl,rfl,_⟩|rfl<;>dsimp only<;>omega
 have e0:wrap64 (s.sort:Int)=s.sort:=IntWalk.wrap64_in _ aI;obtain⟨L,J⟩:∃L,G (l++Y6 s=L):=⟨_,rfl⟩;rw[J.o];unfold Ki;go_enter func116,ntmps116;go_upto_region 1 with fail;generalize w.alloc _=w1 at*;generalize w.heap.size=X at*;have x0:=Zc F.o 0;go_wp2_with fail;refine(Sh (k:=1) P.o F.o O.o aB az rfl rfl az).mono ?_;rintro e w2 ⟨rfl,Q,d,S⟩;have K:=o Q;have T:=o d;have M:=o ((Wf.of (B:=B) C.o).trans S);obtain⟨y0,y1,y2,y3⟩:=au d;rcases A with⟨_,_,p,k,⟨rfl,rfl⟩|⟨rfl,rfl⟩,rfl,k1,k2,l1,l2,hl⟩|⟨x,y,k,rfl,k1,k2,k0,hy⟩|⟨j,rfl,hj⟩|⟨_,p,j,rfl|rfl,rfl,hj,l1,l2,hl⟩|rfl
 all_goals
  simp[Y6,Zi]at hs
  dsimp only at*
  go_wp2_with fail
 iterate 6
  refine(Sh (k:=1) K.o T.o O.o aB az rfl rfl (by simp[Zi];omega)).mono ?_;rintro e w3 ⟨rfl,r,z,i⟩;have t:=o r;have V:=o z;have f:=o (M.o.trans i);have y1:=Zc z 1
  rotate_left
 ·go_end0
  exact⟨rfl,by rw[<-J.o];simpa[Y6]using K.o,M.o⟩
 rotate_left 2
 ·obtain⟨g,rfl,c0⟩:=b.o.hi 0 x rfl;obtain⟨g',e,c1⟩:=b.o.hi 1 y rfl;injection e with e;injection e with e;subst e
  have HC:G (∀W,Wf w B W->W.cell? ⟨g,0,I⟩=Z (U E (x:Nat))/\W.cell? ⟨g,1,I⟩=Z (U E (y:Nat))):=fun W i=>⟨WG b.o.h0 (b.o.f0.trans i.up) c0,WG b.o.h0 (b.o.f0.trans i.up) c1⟩
  have N:=q.o;subst N;obtain⟨c0,c1⟩:=HC.o _ f.o;go_wp2_with fail;refine(Sh (k:=4) t.o V.o O.o aB az rfl rfl (by simp[Zi];omega)).mono ?_;rintro e w4 ⟨rfl,r,z,i⟩;have u:=o r;have m:=o (f.o.trans i);obtain⟨c0,c1⟩:=HC.o _ m.o;have a0:=o z;have y1:=Zc z 1;go_wp2_with fail;refine(Sh (k:=4) u.o a0.o O.o aB az rfl rfl (by simp[Zi];omega)).mono ?_;rintro e w5 ⟨rfl,r,z,i⟩;have b0:=o r;have d0:=o (m.o.trans i);go_wp2
  go_end0
  exact⟨rfl,by rw[<-J.o];simpa[Y6]using b0.o,d0.o⟩
 ·go_wp2
  go_end0
  exact⟨rfl,by rw[<-J.o];simpa[Y6]using t.o,f.o⟩
 all_goals
  have N:=q.o;go_wp2_with fail;refine(AZ w0 w3 B _ a n c p b.o.h0 (b.o.f0.trans f.o.up) b.o.hi q.o az t.o (by simp only[y7,Zi];omega)).mono ?_;rintro e w4 ⟨rfl,r,i⟩;have u:=o r;have m:=o (f.o.trans i);go_wp2
  go_end0
  exact⟨rfl,by rw[<-J.o];simpa[Y6]using u.o,m.o⟩
def IV (d w B Q l X n c nr nn p)(h0:d.heap.size<=B)(y:Fr (fun k=>B<=k) d w)(hp:Le d Q X p)(z:∀s,s∈p->sR nr nn s)(hn:p.length=n)(h4:n<=255)(h:Xd w B l)(u:(l++Tl p).length<=1000000):
  z5 D 72 #[Y (Z ⟨B,0,I⟩),H X n c] w (AY w B (l++Tl p)):=by
 have A:G (∀i s,p[i]?=Z s->(((l++ZD 1 n)++(p.take i).flatMap Y6)++Y6 s).length<=1000000):=fun i s f=>by
  have e:=OM Y6 p (i+1);rw[RF Y6 f,lA]at e;unfold Tl at u;simp only[y7,Zi]at u ⊢;omega
 have C:G (∀W i s a m c,p[i]?=Z s->Fr (fun k=>B<=k) d W->Xd W B ((l++ZD 1 n)++(p.take i).flatMap Y6)->Zv d a s.nums->s.nums.length=m->z5 D 116 #[Y (Z ⟨B,0,I⟩),Ki s.sort a m c s.rule s.skip] W (AY W B (((l++ZD 1 n)++(p.take i).flatMap Y6)++Y6 s))):=fun W i s a m c f x hW hi F=>A0 d W B _ a m c nr nn s (z s (mG f)) F hW ⟨h0,x,hi⟩ (A.o i s f)
 have h1:l.length+1<=1000000:=by
  unfold Tl at u;simp only[y7,Zi]at u;omega
 have HI:=o hp;have j:=o hn;have b:G (d.heap.size<=B/\Fr (fun k=>B<=k) d w):=⟨h0,y⟩;have HW:=o (Wc w B l 1 n 1 n h az rfl rfl h1)
 have a0:B<w.heap.size:=by obtain⟨v,hb,_⟩:=h.bx;exact(iA.1 hb).1
 go_enter func72,ntmps72;go_wp2_with fail;refine HW.o.mono ?_;rintro e w1 ⟨rfl,J,K⟩;have L:=o J;have M:=o K;go_wp2
 go_loopg [12] n (fun mm iv wr=>∃i:Nat,i<=n/\mm=n-i/\iv=U E (i:Nat)/\G (Xd wr B ((l++ZD 1 n)++(p.take i).flatMap Y6))/\G (Wf w B wr))
 case atStart=>exact⟨0,j1 _,rfl,rfl,by simpa using L,M⟩
 obtain⟨i,b0,rfl,rfl,r,q⟩:=hrel;by_cases N:i<n
 ·have O:=af i n;obtain⟨s,f⟩:∃s,p[i]?=Z s:=⟨_,gE (by rw[j.o];exact N)⟩;obtain⟨g,na,nc,rfl,_,d0,d1,d2,d3,di,_⟩:=HI.o i s f;have t:=b.o.2.trans (Wf.up q.o);have c0:=WG b.o.1 t d0;have c1:=WG b.o.1 t d1;have c2:=WG b.o.1 t d2;have c3:=WG b.o.1 t d3;have P:=o (fun W (x:F0 wr W)=>C.o W i s na s.nums.length nc f (t.trans (x.mono)) (r.o.fr x) di rfl);have HS:=o (RF Y6 f);unfold Ki at P;obtain⟨m,F⟩:=ad s.nums.length;rw[F]at P c1;have e0:=bL wr _ c0;go_wp2_with fail;refine(P.o _ (Zo.alloc _)).mono ?_;rintro e w2 ⟨rfl,R,S⟩
  have T:G (Xd w2 B ((l++ZD 1 n)++(p.take (i+1)).flatMap Y6)):=by
   show Xd _ _ _
   rw[HS.o,<-z8];exact R
  have V:=o ((q.o.trans (Wf.of (Zo.alloc _))).trans S);go_wp2;go_roundg (n-(i+1))
  case measure=>omega
  exact⟨i+1,az,rfl,aE,T,V⟩
 have e:i=n:=az;subst e;have O:=ai i i;go_wp2
 go_end0
 have e:=r.o;rw[y8 (by rw[j.o];exact z7 _),z8]at e;refine⟨rfl,?_,q.o⟩;unfold Tl;rw[j.o];exact e
def qy (a b:x5):Obj:=R #[a,b] 133
def DB (w B l p)(s:p<=255)(h:Xd w B l)(t:l.length+1<=1000000):
  z5 D 73 #[Y (Z ⟨B,0,I⟩),q6 #[Y I,U E (p:Nat)]] w (AY w B (l++ZD 1 (1+p))):=by
 have j:B<w.heap.size:=by obtain⟨v,m,_⟩:=h.bx;exact(iA.1 m).1
 obtain⟨b,a⟩:=WM w (qy (Y I) (U E (p:Nat)));have c:=o (h.fr b.o)
 have q:G (w.heap.size≠B):=by show _≠_;omega
 unfold qy at b a c;go_enter func73,ntmps73;go_upto_region 1 with fail;generalize w.alloc _=u at*;generalize w.heap.size=X at*;obtain⟨x,y⟩:=ap a.o;go_wp2_with fail;refine(Sh (k:=1) (n:=1+p) c.o a.o q.o aB az rfl az az).mono ?_;rintro e z ⟨rfl,d,r,f⟩;have g:=o d;have i:=o ((Wf.of (B:=B) b.o).trans f);go_wp2;refine bodyPost_ret (results_none rfl _ _ _) rfl ?_;exact⟨rfl,g.o,i.o⟩
def Qz (k:Nat->Tr)(i:Nat):List UInt8:=(q5 i).flatMap fun d=>(k d).wr
def QX (k i):Qz k (i+1)=Qz k i++(k i).wr:=by
 unfold Qz;rw[List.range_succ,k6];simp
def xS (k i j):(Qz k i).length<=(Qz k (i+j)).length:=by
 induction j with
 |zero=>exact z7 _
 |succ j a=>rw[show i+(j+1)=(i+j)+1 from rfl,QX,lA];omega
def LQ {w:z9}{c:Nat}:∀{t:Tr}{a b:x5},Xm w c t (q6 #[a,b])->∃x,∃y:Nat,a=Y x/\b=U E (y:Nat)
 | .leaf p,a,b,h=>by
  have h:=h;injection h with h;simp at h;exact⟨_,p,h.1,h.2⟩
 | .node k,a,b,⟨K,cs,h,_⟩=>by
  injection h with h;simp at h;exact⟨_,0,h.1,h.2⟩
def DC (c w B l k K r s)(h0:c.heap.size<=B)(t:Fr (fun k=>B<=k) c w)(T:c.heap[K]?=Z (R s 248))(u:∀d,d<10->∃a b,s[d*2]?=Z a/\s[d*2+1]?=Z b/\Xm c r (k d) (q6 #[a,b]))(ih:∀d,d<10->∀W L v,Xm c r (k d) v->Fr (fun k=>B<=k) c W->Xd W B L->(L++(k d).wr).length<=1000000->z5 D 73 #[Y (Z ⟨B,0,I⟩),v] W (AY W B (L++(k d).wr)))(h:Xd w B l)(V:(l++(Tr.node k).wr).length<=1000000):
  z5 D 73 #[Y (Z ⟨B,0,I⟩),q6 #[Y (Z ⟨K,0,I⟩),U E 0]] w (AY w B (l++(Tr.node k).wr)):=by
 have HE:G ((Tr.node k).wr=ZD 1 0++Qz k 10):=rfl;rw[HE.o]at V;simp only[y7,Zi]at V
 have x:G (∀d,d<10->((l++ZD 1 0)++Qz k d++(k d).wr).length<=1000000):=fun d hd=>by
  have e:=xS k (d+1) (9-d);rw[show d+1+(9-d)=10 from az,QX,lA]at e;simp only[y7,Zi];omega
 have y:=o ih
 have z:G (∀d,d<10->∃a b,c.cell? ⟨K,d*2,I⟩=Z a/\c.cell? ⟨K,d*2+1,I⟩=Z b/\Xm c r (k d) (q6 #[a,b])):=fun d hd=>by
  obtain⟨a,b,e1,e2,e3⟩:=u d hd;exact⟨a,b,bC T _ _ e1,bC T _ _ e2,e3⟩
 have A:G (c.heap.size<=B/\Fr (fun k=>B<=k) c w):=⟨h0,t⟩
 have a0:B<w.heap.size:=by obtain⟨v,hb,_⟩:=h.bx;exact(iA.1 hb).1
 obtain⟨g,f⟩:=WM w (qy (Y (Z ⟨K,0,I⟩)) (U E 0));have p:=o (h.fr g.o)
 have HX:G (w.heap.size≠B):=by show _≠_;omega
 unfold qy at g f p;go_enter func73,ntmps73;go_upto_region 1 with fail;generalize w.alloc _=w1 at*;generalize w.heap.size=X at*;obtain⟨x0,x1⟩:=ap f.o;go_wp2_with fail;refine(Sh (k:=1) (n:=0) p.o f.o HX.o aB az rfl az az).mono ?_;rintro e w2 ⟨rfl,C,F,H⟩;have J:=o C;have M:=o ((Wf.of (B:=B) g.o).trans H);have y0:=Zc F 0;go_wp2
 go_loopg [19] 10 (fun mm iv wr=>∃i:Nat,i<=10/\mm=10-i/\iv=U E (i:Nat)/\G (Xd wr B ((l++ZD 1 0)++Qz k i))/\G (Wf w B wr))
 case atStart=>exact⟨0,az,rfl,rfl,by simpa[Qz]using J,M⟩
 obtain⟨i,b0,rfl,rfl,q,j⟩:=hrel;by_cases m:i<10
 ·have e0:(i:Int)<10:=az;obtain⟨a,b,d0,d1,dT⟩:=z.o i m;obtain⟨xp,yp,rfl,rfl⟩:=LQ dT;have N:=A.o.2.trans (Wf.up j.o);have c0:=WG A.o.1 N d0;have c1:=WG A.o.1 N d1;have HC:=o (fun W (hf:F0 wr W)=>y.o i m W _ _ dT (N.trans (hf.mono)) (q.o.fr hf) (x.o i m));have f0:=bL wr _ c0;go_wp2_with fail;refine(HC.o _ (Zo.alloc _)).mono ?_;rintro e w3 ⟨rfl,O,P⟩
  have Q:G (Xd w3 B ((l++ZD 1 0)++Qz k (i+1))):=by
   show Xd _ _ _
   rw[QX,<-z8];exact O
  have S:=o ((j.o.trans (Wf.of (Zo.alloc _))).trans P);go_wp2;go_roundg (10-(i+1))
  case measure=>omega
  exact⟨i+1,az,rfl,aE,Q,S⟩
 have e:i=10:=az;subst e;go_wp2
 go_end0
 refine⟨rfl,?_,j.o⟩;rw[HE.o,<-z8];exact q.o
def JG (b:z9)(B i f:Nat)(l:b.heap.size<=B)(j:f<=255):∀(t:Tr)(W:z9)(L:List UInt8)(v:x5),t.lows f->Xm b i t v->Fr (fun k=>B<=k) b W->Xd W B L->(L++t.wr).length<=1000000->z5 D 73 #[Y (Z ⟨B,0,I⟩),v] W (AY W B (L++t.wr))
 | .leaf p,W,L,v,g,a,h,c,e=>by
  have a:=a;have g:p<f:=g;subst a;exact DB W B L p z c (by simpa[Tr.wr,Zi]using e)
 | .node k,W,L,v,g,⟨K,cs,a,_,hK,_,hcs⟩,h,c,e=>by
  subst a;exact DC b W B L k K i cs l h hK hcs (fun d m W L v a h c e=>JG b B i f l j (k d) W L v (g d m) a h c e) c e
def DD (s w)(K:s.size<=199992)(z:OG w):
  z5 D 74 #[z4 s] w fun e g=>e=z6 (z4 ⟨(Wy s.data.toList).toArray⟩)/\F0 w g:=by
 have B:s.data.toList.length=s.size:=aA;have C:=o B;have E:=o z
 have h:G (∀(n:Nat)(i:Int)(W:z9),i=n->n<4294967296->z5 D 117 #[U .u32 i] W fun e g=>e=z6 (z4 ⟨(YT n).toArray⟩)/\F0 W g):=fun n i W e F=>by subst e;exact RW n W F
 go_enter func74,ntmps74;go_wp2_with fail;refine(h.o (8+s.size) _ _ az az).mono ?_;rintro e H ⟨rfl,j⟩;have f:=o j;obtain⟨a,b⟩:=ad ((⟨(YT (8+s.size)).toArray⟩:ByteArray):ByteArray)
 have k:a.size=4:=by rw[<-b];rfl
 have l:G (a.data.toList=YT (8+s.size)):=by show _=_;rw[<-b]
 rw[b]
 have m:(a++s).size=4+s.size:=by rw[ByteArray.size_append,k]
 have p:a.size+s.size<=9223372036854775807:=az;go_wp2_with fail;obtain⟨A,y⟩:=ad (a++s)
 have I:G (A.data.toList=YT (8+s.size)++s.data.toList):=by show _=_;rw[<-y,ByteArray.data_append,Array.toList_append,l.o]
 rw[y]at m ⊢;have q:A.size<=200000:=az;refine(G5 A H q (E.o.fr f.o)).mono ?_;rintro e L ⟨rfl,r⟩;have t:=o (f.o.trans r);go_wp2_with fail;refine(RW (Qc A.data.toList) _ (CS _)).mono ?_;rintro e M ⟨rfl,u⟩;have v:=o (t.o.trans u);obtain⟨d,c⟩:=ad ((⟨(YT (Qc A.data.toList)).toArray⟩:ByteArray):ByteArray)
 have J:d.size=4:=by rw[<-c];rfl
 have x:G (d.data.toList=YT (Qc A.data.toList)):=by show _=_;rw[<-c]
 rw[c];have p:A.size+d.size<=9223372036854775807:=az;go_wp2;go_ret
 have e:A++d=⟨(Wy s.data.toList).toArray⟩:=by
  apply ByteArray.ext;apply Array.toList_inj.1;rw[ByteArray.data_append,Array.toList_append,x.o,I.o];simp only[Wy,C.o]
 rw[<-e];exact⟨rfl,v.o⟩
structure rY (w:z9)(TT:Nat)(t:NQ)(ra:Option Addr)(rc:Nat)(na:Option Addr)(nc:Nat)(pa:Option Addr)(pc:Nat)(xp:Option Addr)(yp lo:Nat):Prop where
 bx:w.heap[TT]?=Z (R #[H ra t.rts.length rc,H na t.nms.length nc,H pa t.prs.length pc,Y xp,U E (yp:Nat)] 135)
 rt:∀i r,t.rts[i]?=Z r->∃g,ra=Z ⟨g,0,I⟩/\w.cell? ⟨g,i*3,I⟩=Z (z4 r.name)/\w.cell? ⟨g,i*3+1,I⟩=Z (U E (r.base:Nat))/\w.cell? ⟨g,i*3+2,I⟩=Z (U E (r.rate:Nat))
 nm:∀i s,t.nms[i]?=Z s->∃g,na=Z ⟨g,0,I⟩/\w.cell? ⟨g,i,I⟩=Z (z4 s)
 pr:∀i l,t.prs[i]?=Z l->∃g qa qc,pa=Z ⟨g,0,I⟩/\w.cell? ⟨g,i,I⟩=Z (H qa l.length qc)/\Le w w.heap.size qa l
 tr:Xm w lo t.root (q6 #[Y xp,U E (yp:Nat)])
def NB.tm {v w x t y z}(h:NB v w x t.rts y z t.nms t.prs t.root):∃j k m n o p,rY w x t y z j k m n o p v:=by
 obtain⟨M,N,a,b,D,q,⟨O,u,E⟩,A⟩:=h.bx;obtain⟨j,k,rfl⟩:=oL q;obtain⟨m,n,rfl⟩:=oL u;obtain⟨o,p,rfl,rfl⟩:=LQ A;refine⟨j,k,m,n,o,p,D,fun i r c=>?_,fun i s c=>?_,fun i l c=>?_,A⟩
 ·have B:=(iG.1 c).1;obtain⟨g,d,e,_,_,F⟩:=U5 h.ro az;injection e with e _ _;exact⟨g,e,F i r c⟩
 ·have B:=(iG.1 c).1;obtain⟨g,d,e,_,_⟩:=q.form az;injection e with e _ _;subst e;have f:=q.cells (g:=g) rfl i (z4 s) (by rw[q8,c];rfl);rw[Yf,v5]at f;exact⟨g,rfl,f⟩
 have B:=(iG.1 c).1;obtain⟨g,d,e,_,_⟩:=u.form az;injection e with e _ _;subst e;obtain⟨P,G,H⟩:=E i l c;obtain⟨I,C,J⟩:=H;obtain⟨K,L,rfl⟩:=oL C;have f:=u.cells (g:=g) rfl i _ G;rw[Yf,v5]at f;exact⟨g,K,L,rfl,f,Le.of ⟨I,C,J⟩ (z7 _)⟩
def Tm {α:Type}(L:List UInt8)(W:α->List UInt8)(a:List α)(i:Nat):List UInt8:=(L++ZD 1 a.length)++(a.take i).flatMap W
def ON {α}(L W)(a:List α):Tm L W a 0=L++ZD 1 a.length:=by simp[Tm]
def RY {α L W a i}{x:α}(h:a[i]?=Z x):Tm L W a (i+1)=Tm L W a i++W x:=by
 unfold Tm;rw[RF W h];simp only[z8]
def LR {α L W}{a:List α}{i}(h:a.length=i):Tm L W a i=L++(ZD 1 a.length++a.flatMap W):=by
 unfold Tm;rw[y8 z,z8]
def LS {α L W a i}{x:α}(h:a[i]?=Z x):(Tm L W a i++W x).length<=(L++(ZD 1 a.length++a.flatMap W)).length:=by
 rw[<-RY h];unfold Tm;have:=OM W a (i+1);simp only[y7];omega
def DE (w M t ra rc na nc pa pc xp yp lo)(h:rY w M t ra rc na nc pa pc xp yp lo)(hw:t.Wr)(hl:(XK t).length<=199992)(hH:OG w):
  z5 D 40 #[Y (Z ⟨M,0,I⟩)] w fun e w'=>e=z6 (z4 ⟨(Wy (XK t)).toArray⟩)/\F0 w w':=by
 have J0:=hw.r6;have K0:=hw.n8;have hp:=hw.pl.2;obtain⟨N,e0⟩:=ad (ZD 1 t.rts.length++t.rts.flatMap WZ);obtain⟨O,P⟩:=ad (N++(ZD 1 t.nms.length++t.nms.flatMap WF));obtain⟨L3,Q⟩:=ad (O++(ZD 1 t.prs.length++t.prs.flatMap Tl))
 have hB:XK t=L3++t.root.wr:=by unfold XK;rw[<-Q,<-P,<-e0];simp only[z8]
 have L0:L3.length<=199992:=by rw[hB,lA]at hl;omega
 have M0:O.length<=199992:=by rw[<-Q,lA]at L0;omega
 have h1:N.length<=199992:=by rw[<-P,lA]at M0;omega
 obtain⟨B,S⟩:=ad w.heap.size
 have N0:G (M<B):=by show _<_;rw[<-S];exact(iA.1 h.bx).1
 have O0:=(WM w (R #[H I 0 0] 145)).1;have P0:G (Xd (w.alloc (R #[H I 0 0] 145)) B []):=⟨⟨_,by rw[<-S];exact aN w _,oZ _ _ _ _⟩,aA⟩;have HH:=o h;have f0:=o hw;have Q0:=o hH;have m0:=o hB;have n0:=o e0;have o0:=o P;have p0:=o Q;have c:=o S
 have HC:G (∀W,Fr (fun k=>B<=k) w W->W.cell? ⟨M,0,I⟩=Z (H ra t.rts.length rc)/\W.cell? ⟨M,1,I⟩=Z (H na t.nms.length nc)/\W.cell? ⟨M,2,I⟩=Z (H pa t.prs.length pc)/\W.cell? ⟨M,3,I⟩=Z (Y xp)/\W.cell? ⟨M,4,I⟩=Z (U E (yp:Nat))):=fun W hf=>by
  have e:=hf.whole h.bx (by have:=N0.o;show¬B<=M;omega);exact⟨Zc e 0,Zc e 1,Zc e 2,Zc e 3,Zc e 4⟩
 obtain⟨n1,T⟩:=ad t.rts.length;obtain⟨n2,V⟩:=ad t.nms.length;obtain⟨n3,X⟩:=ad t.prs.length;rw[T,V,X]at HC;rw[T]at J0;rw[V]at K0;rw[X]at hp;have g0:=o T;have i0:=o V;have k0:=o X;clear h hw hH hB e0 P Q T V X;go_enter func40,ntmps40;go_upto_region 2 with fail;generalize w.alloc _=w1 at*;clear S;have q0:G (Fr (fun k=>B<=k) w w1):=O0.o.mono;obtain⟨z,A,C,F,J⟩:=HC.o _ q0.o;go_wp2_with fail;refine(Wc w1 B [] 1 n1 _ _ P0.o az rfl rfl aA).mono ?_;rintro e w2 ⟨rfl,r0,s0⟩;have R0:=o r0;have t0:=o (q0.o.trans (Wf.up s0));clear r0 s0 z A C F J;obtain⟨z,A,C,F,J⟩:=HC.o _ t0.o;go_wp2
 go_loopg [24] n1 (fun mm iv wr=>∃i:Nat,i<=n1/\mm=n1-i/\iv=U E (i:Nat)/\G (Xd wr B (Tm [] WZ t.rts i))/\G (Fr (fun k=>B<=k) w wr))
 case atStart=>exact⟨0,j1 _,rfl,rfl,by show Xd _ _ _;rw[ON,g0.o];exact R0.o,t0⟩
 obtain⟨i,v0,rfl,rfl,b,a⟩:=hrel;by_cases q:i<n1
 ·have u:=af i n1;obtain⟨r,l⟩:∃r,t.rts[i]?=Z r:=⟨_,gE (by rw[g0.o];exact q)⟩;obtain⟨g,e1,d0,d1,d2⟩:=HH.o.rt i r l;subst e1;have b0:=WG (j0 c.o) a.o d0;have b1:=WG (j0 c.o) a.o d1;have b2:=WG (j0 c.o) a.o d2;have K:=o (fun W (hf:F0 wr W)=>Ff W B _ r (b.o.fr hf) (v7 (LS l) (by rw[g6,n0.o];omega)));have HS:=o (RY (L:=[]) (W:=WZ) l);unfold rF at K;have i1:=bL wr _ b0;clear d0 d1 d2 l;go_wp2_with fail;refine(K.o _ (Zo.alloc _)).mono ?_;rintro e w3 ⟨rfl,d,f⟩;have x:G (Fr (fun k=>B<=k) w w3):=a.o.trans (Fr.trans (Wf.up (Wf.of (Zo.alloc _))) (Wf.up f))
  have y:G (Xd w3 B (Tm [] WZ t.rts (i+1))):=by
   show Xd _ _ _
   rw[HS.o];exact d
  clear d f;go_wp2;go_roundg (n1-(i+1))
  case measure=>omega
  exact⟨i+1,az,rfl,aE,y,x⟩
 have e:i=n1:=az;subst e;have u:=ai i i
 have S0:G (Xd wr B N):=by
  have e:=b.o;rw[LR g0.o,g6,n0.o]at e;exact e
 obtain⟨z,A,C,F,J⟩:=HC.o _ a.o;clear b;generalize wr=w4 at*;have T0:=o a.o;clear a;go_wp2_with fail;refine(Wc w4 B N 1 n2 _ _ S0.o az rfl rfl az).mono ?_;rintro e w5 ⟨rfl,w0,x0⟩;have V0:=o w0;have y0:=o (T0.o.trans (Wf.up x0));clear w0 x0 z A C F J;obtain⟨z,A,C,F,J⟩:=HC.o _ y0.o;go_wp2
 go_loopg [44] n2 (fun mm iv wr=>∃i:Nat,i<=n2/\mm=n2-i/\iv=U E (i:Nat)/\G (Xd wr B (Tm N WF t.nms i))/\G (Fr (fun k=>B<=k) w wr))
 case atStart=>exact⟨0,j1 _,rfl,rfl,by show Xd _ _ _;rw[ON,i0.o];exact V0.o,y0⟩
 obtain⟨i,v0,rfl,rfl,b,a⟩:=hrel;by_cases q:i<n2
 ·have u:=af i n2;obtain⟨s,l⟩:∃r,t.nms[i]?=Z r:=⟨_,gE (by rw[i0.o];exact q)⟩;obtain⟨g,e1,d0⟩:=HH.o.nm i s l;subst e1;have b0:=WG (j0 c.o) a.o d0;have K:=o (JF wr B _ s b.o (v7 (LS l) (by rw[o0.o];omega)));have HS:=o (RY (L:=N) (W:=WF) l);clear d0 l;go_wp2_with fail;refine K.o.mono ?_;rintro e w3 ⟨rfl,d,f⟩;have x:=o (a.o.trans (Wf.up f))
  have y:G (Xd w3 B (Tm N WF t.nms (i+1))):=by
   show Xd _ _ _
   rw[HS.o];exact d
  clear d f;go_wp2;go_roundg (n2-(i+1))
  case measure=>omega
  exact⟨i+1,az,rfl,aE,y,x⟩
 have e:i=n2:=az;subst e;have u:=ai i i
 have W0:G (Xd wr B O):=by
  have e:=b.o;rw[LR i0.o,o0.o]at e;exact e
 obtain⟨z,A,C,F,J⟩:=HC.o _ a.o;clear b;generalize wr=w6 at*;have X0:=o a.o;clear a;go_wp2_with fail;refine(Wc w6 B O 1 n3 _ _ W0.o az rfl rfl az).mono ?_;rintro e w7 ⟨rfl,A0,B0⟩;have Y0:=o A0;have C0:=o (X0.o.trans (Wf.up B0));clear A0 B0 z A C F J;obtain⟨z,A,C,F,J⟩:=HC.o _ C0.o;go_wp2
 go_loopg [64] n3 (fun mm iv wr=>∃i:Nat,i<=n3/\mm=n3-i/\iv=U E (i:Nat)/\G (Xd wr B (Tm O Tl t.prs i))/\G (Fr (fun k=>B<=k) w wr))
 case atStart=>exact⟨0,j1 _,rfl,rfl,by show Xd _ _ _;rw[ON,k0.o];exact Y0.o,C0⟩
 obtain⟨i,v0,rfl,rfl,b,a⟩:=hrel;by_cases q:i<n3
 ·have u:=af i n3;obtain⟨p,l⟩:∃r,t.prs[i]?=Z r:=⟨_,gE (by rw[k0.o];exact q)⟩;obtain⟨g,qa,qc,e1,d0,dp⟩:=HH.o.pr i p l;subst e1;have b0:=WG (j0 c.o) a.o d0;have D0:=f0.o.pr p (mG l);obtain⟨pn,l0⟩:=ad p.length;rw[l0]at b0;have K:=o (IV w wr B _ _ qa pn qc t.rts.length t.nms.length p (j0 c.o) a.o dp D0.2.2.1 l0 az b.o (v7 (LS l) (by rw[p0.o];omega)));have HS:=o (RY (L:=O) (W:=Tl) l);clear d0 l dp D0 l0;go_wp2_with fail;refine K.o.mono ?_;rintro e w3 ⟨rfl,d,f⟩;have x:=o (a.o.trans (Wf.up f))
  have y:G (Xd w3 B (Tm O Tl t.prs (i+1))):=by
   show Xd _ _ _
   rw[HS.o];exact d
  clear d f;go_wp2;go_roundg (n3-(i+1))
  case measure=>omega
  exact⟨i+1,az,rfl,aE,y,x⟩
 have e:i=n3:=az;subst e;have u:=ai i i
 have Z0:G (Xd wr B L3):=by
  have e:=b.o;rw[LR k0.o,p0.o]at e;exact e
 obtain⟨z,A,C,F,J⟩:=HC.o _ a.o;clear b;generalize wr=w8 at*;have E0:=o a.o;clear a;have K:=o (JG w B lo t.prs.length (j0 c.o) f0.o.pl.2 t.root w8 L3 _ f0.o.lf HH.o.tr E0.o Z0.o (by rw[<-m0.o];omega));rw[<-m0.o]at K;go_wp2_with fail;refine K.o.mono ?_;rintro e w9 ⟨rfl,G0,H0⟩;obtain⟨v,hb,ho⟩:=G0.bx;obtain⟨m,hm⟩:=ad (XK t).length;rw[hm]at ho;obtain⟨oa,oc,e⟩:=oL ho;subst e;have z0:=Zc hb 0;have a1:=o (E0.o.trans (Wf.up H0));have HO:=o ho;have HM:=o hm;clear G0 H0 hb ho hm K z A C F J
 have f1:(convert 50 9 (H oa m oc)).run D w9=.ok (z4 ⟨(XK t).toArray⟩) w9:=by
  have hm:=HM.o
  have h0:0<m:=by
   rw[<-hm];unfold XK;simp only[y7,Zi];omega
  obtain⟨g,k1,e,_,_⟩:=HO.o.form h0;injection e with e _ _;subst e;subst hm;refine run_convert_bytes_back w9 50 9 5 ⟨g,0,I⟩ oc (XK t) underlying50 underlying5 underlying9 (fun j hj=>?_);exact HO.o.cells (g:=g) rfl j _ (by unfold RE;rw[q8,gE hj];rfl)
 have I0:G (F0 w w9):=(Fr.refl _ w).monoNew a1.o (fun k hk=>.inr (by rw[c.o];exact hk));go_wp2_with fail;refine(DD ⟨(XK t).toArray⟩ w9 (by show(XK t).length<=_;omega) (Q0.o.fr I0.o)).mono ?_;rintro e l1 ⟨rfl,a0⟩;have g1:=o (I0.o.trans a0);clear a0 f1 z0;go_wp2;go_ret;exact⟨rfl,g1.o⟩
def sS (w:z9)(T:Nat)(t:NQ):Prop:=∃a b c d,w.cell? ⟨T,1,I⟩=Z (Y (Z ⟨a,0,I⟩))/\NB b w a t.rts c d t.nms t.prs t.root
def JH (w T t)(h:sS w T t)(a:t.Wr)(b:(XK t).length<=199992)(c:OG w):
  z5 D 23 #[Y (Z ⟨T,0,I⟩)] w fun e i=>e=z6 (z4 ⟨(Wy (XK t)).toArray⟩)/\F0 w i:=by
 obtain⟨j,k,l,m,y,d⟩:=h;obtain⟨n,p,q,r,s,u,f⟩:=d.tm;have v:=o (DE w j t l m n p q r s u k f a b c);clear d f a b c;go_enter func23,ntmps23;go_wp2_with fail;refine v.o.mono ?_;rintro e z ⟨rfl,g⟩;have x:=o g;clear g;go_wp2;go_ret;exact⟨rfl,x.o⟩
open Go.Shelf
attribute [local go_sem] Oper.semAt_some
def Si:Code->Option Code
 | .rangeFunc g d a b=>Z (.rangeFunc g d a b)
 | .seq a b=>(Si a).or (Si b)
 | .block _ c=>Si c
 | .loop c=>Si c
 |_=>I
def uo (f:Func):Code:=(f.body.bind Si).getD .skip
set_option maxRecDepth 100000 in
def Fg (a n l N M)(hs:a<4)(S J Jx g xs Bs By Bn Cs Co Ca w Q ds t0 t2 t3 t5 t7 t8 t9 j q r t v y z G H L O P T V X a0 b0 c0 d0 f0 g0 i0 v0 w0 j0 k0 l0 m0 n0 o0 q0 r0 s0)(B0:GO D 212 #[Y (Z ⟨Cs,0,I⟩),Y (Z ⟨Co,0,I⟩),Y (Z ⟨Ca,0,I⟩)] Ay (TD S w.heap.size) xs w)(hS:∀k,S k->k<M)(hM:M<=w.heap.size)(hJ:YK M J)(F0:YK M Jx)(hY:∀b x W1,b++[x]<+:xs->J (g++b.map (I8 a n)) W1->YieldAt Fence.wide N D l (Ay (I8 a n x)) W1 fun e W'=>Fr S W1 W'/\((e=z6 (q4 true)/\J (g++(b++[x]).map (I8 a n)) W')\/(e=z6 (q4 false)/\Jx (g++(b++[x]).map (I8 a n)) W')))(hc:∀W,Fr S w W->W.cell? ⟨Bs,0,I⟩=Z (U E (a:Nat))/\W.cell? ⟨By,0,I⟩=Z (.func (.yield l) #[] #[])/\W.cell? ⟨Bn,0,I⟩=Z (U E (n:Nat)))(h0:J g w)(x0:∀W,Fr S w W->J (g++xs.map (I8 a n)) W->W.heap[w.heap.size]?=Z (.deferred (Z []))->Q .normal {tmps:=#[t0,Y (Z ⟨Bs,0,I⟩),t2,t3,Y (Z ⟨By,0,I⟩),t5,Y (Z ⟨Bn,0,I⟩),t7,t8,t9,j,q,r,t,v,y,z,G,H,L,O,P,T,V,X,a0,b0,c0,d0,f0,g0,i0,.func (.func 212) #[] #[Y (Z ⟨Cs,0,I⟩),Y (Z ⟨Co,0,I⟩),Y (Z ⟨Ca,0,I⟩)],v0,w0,j0,k0,l0,m0,n0,o0,q0,r0,s0],defers:={target:=.collected w.heap.size,args:=#[]}::ds} W)(y0:∀b W,b<+:xs->Fr S w W->Jx (g++b.map (I8 a n)) W->W.heap[w.heap.size]?=Z (.deferred (Z []))->Q .ret {tmps:=#[t0,Y (Z ⟨Bs,0,I⟩),t2,t3,Y (Z ⟨By,0,I⟩),t5,Y (Z ⟨Bn,0,I⟩),t7,t8,t9,j,q,r,t,v,y,z,G,H,L,O,P,T,V,X,a0,b0,c0,d0,f0,g0,i0,.func (.func 212) #[] #[Y (Z ⟨Cs,0,I⟩),Y (Z ⟨Co,0,I⟩),Y (Z ⟨Ca,0,I⟩)],v0,w0,j0,k0,l0,m0,n0,o0,q0,r0,s0],defers:={target:=.collected w.heap.size,args:=#[]}::ds} W):
  (uo f212).wpIn Fence.wide 2 D Q {tmps:=#[t0,Y (Z ⟨Bs,0,I⟩),t2,t3,Y (Z ⟨By,0,I⟩),t5,Y (Z ⟨Bn,0,I⟩),t7,t8,t9,j,q,r,t,v,y,z,G,H,L,O,P,T,V,X,a0,b0,c0,d0,f0,g0,i0,.func (.func 212) #[] #[Y (Z ⟨Cs,0,I⟩),Y (Z ⟨Co,0,I⟩),Y (Z ⟨Ca,0,I⟩)],v0,w0,j0,k0,l0,m0,n0,o0,q0,r0,s0],defers:=ds} w:=by
 conv=>arg 4;whnf
 refine OC (n:=0) rfl (enters_of func212 aC rfl) B0 Zo (fun _=>rfl) (fun k hk=>nL (hS k hk) hM)
  (fun b W=>J (g++b.map (I8 a n)) W/\Fr S w W) (fun c b W=>c=.ret/\(Jx (g++b.map (I8 a n)) W/\Fr S w W))
  (YK.and (YK.map (hJ.mono hM) (fun(b:List (Qb×Nat))=>g++b.map (I8 a n))) (YK.fr (z7 _))) (fun c=>YK.and (YK.pure (fun(_:List (Qb×Nat))=>c=.ret)) (YK.and (YK.map (F0.mono hM) (fun(b:List (Qb×Nat))=>g++b.map (I8 a n))) (YK.fr (z7 _)))) ⟨by simpa using h0,Zo⟩
  (fun x m a' W=>∃d,m<=d/\W.heap[d]?=Z (R #[U E (x.1.p0:Nat),U E (x.1.p1:Nat),U E (x.1.p2:Nat),U E (x.1.p3:Nat)] 139)/\a'={tmps:=#[t0,Y (Z ⟨Bs,0,I⟩),t2,t3,Y (Z ⟨By,0,I⟩),t5,Y (Z ⟨Bn,0,I⟩),Y (Z ⟨d,0,I⟩),U E (x.2:Nat),t9,j,q,r,t,v,y,z,G,H,L,O,P,T,V,X,a0,b0,c0,d0,f0,g0,i0,.func (.func 212) #[] #[Y (Z ⟨Cs,0,I⟩),Y (Z ⟨Co,0,I⟩),Y (Z ⟨Ca,0,I⟩)],Jw x.1,U E (x.2:Nat),j0,k0,l0,m0,n0,o0,q0,r0,s0],defers:=[]})
  (fun x m a' s A B G0 hs hg hr=>by obtain⟨d,h1,h2,h3⟩:=hs;exact⟨d,h1,Qv (C:=w.heap.size) () A B G0 h2 hg hr,h3⟩) ?assign ?body ?done ?_
 case assign=>
  rintro b x W K hp ⟨hi,hf⟩ hK;unfold Ay Jw
  gi_wp2
  exact hK _ _ (Zo.alloc _) ⟨(hJ.mono hM).alloc _ hi,hf.alloc _⟩ ⟨W.heap.size,z7 _,aN W _,rfl⟩
 case body=>
  rintro b x m a' W hp hm ⟨hi,hf⟩ ⟨d,H0,hB,rfl⟩;obtain⟨c1,c2,c3⟩:=hc W hf;have J0:d<W.heap.size:=(iA.1 hB).1;have f1:Fr (fun k=>M<=k) W (W.setCell ⟨d,a,I⟩ (U E (n:Nat))):=Zo.setCell (p:=⟨d,a,I⟩) (.inl (by show M<=d;omega)) _;have f2:Fr (fun k=>S k\/m<=k) W (W.setCell ⟨d,a,I⟩ (U E (n:Nat))):=Zo.setCell (p:=⟨d,a,I⟩) (.inl (.inr H0)) _;obtain⟨e0,e1,e2,e3⟩:=sJ x.1 a n hs d W _ hB
  have Bp:By≠d:=by have:=bL w _ (hc w Zo).2.1;show By≠d;simp at this;omega
  have d2:(W.setCell ⟨d,a,I⟩ (U E (n:Nat))).cell? ⟨By,0,I⟩=Z (.func (.yield l) #[] #[]):=(cO _ _ _ _ aA).trans c2;obtain⟨u,hu⟩:∃u,W.cell? ⟨d,a,I⟩=Z u:=vX hs hB;have K0:=bF hB a;obtain⟨fn,tmps,assign,body,I0,hR⟩:=hY b x (W.setCell ⟨d,a,I⟩ (U E (n:Nat))) hp (hJ _ _ _ hi f1);have C0:=o hR;have HF:=o hf;have D0:=o f2;unfold Ay Jw I8 at I0;have L0:(a:Int)<4:=az
  gi_wp2
  refine⟨rfl,?_⟩;refine RoundIn.mono (F:=Fence.wide.inRound (w.heap.size+1)) ⟨C0.o.1,fun c cs _=>C0.o.2 c cs (room_wide _)⟩ ?_;rintro e W3 ⟨E0,(⟨rfl,z0⟩|⟨rfl,z0⟩)⟩
  ·have f:=o (D0.o.trans (E0.mono (fun k h=>.inl h)));have A0:=o z0
   gi_wp2
   exact⟨f.o,A0.o,HF.o.monoNew f.o (fun i h=>h.elim .inl (fun h=>.inr az))⟩
  have f:=o (D0.o.trans (E0.mono (fun k h=>.inl h)));have A0:=o z0
  gi_wp2
  exact⟨f.o,rfl,A0.o,HF.o.monoNew f.o (fun i h=>h.elim .inl (fun h=>.inr az))⟩
 case done=>
  rintro W ⟨hi,hf⟩ hD;exact x0 W hf hi hD
 rintro c b W hp ⟨rfl,hi,hf⟩ hD
 gi_wp2
 exact y0 b W hp hf hi hD
