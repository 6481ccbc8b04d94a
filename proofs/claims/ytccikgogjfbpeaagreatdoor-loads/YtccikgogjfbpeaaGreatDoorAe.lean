import Derived.Test.YtccikgogjfbpeaaGreatDoorAb
import Derived.Deep.DeepCutAuto
import Derived.Lib.ConvBytes
import Derived.Shelf.LaysM
import Derived.Shelf.Strconv.Clone
set_option maxRecDepth 30000
set_option maxHeartbeats 8000000
open Go.Value renaming int->I,string->Y,slice->U,bool->H,oneCell'->z1,pointer->y5,agg->y9,ownBlock->x7
open Go.IntKind renaming i64->J
open Option renaming none->Z,some->O
open Go.Proofs.Tryz renaming prog->E
open Go.RowKit renaming Hid->D
open Go.Obj renaming cells->G
open Go renaming Value->M,World->R,Calls->L
open Go.Ending renaming returned->N
open Or renaming inl->A,inr->y2
open List renaming eq_nil_of_length_eq_zero->C,take_of_length_le->z2,take_succ_eq_append_getElem->z7,getElem?_take->y7,getElem?_drop->x5,mem_append->x6,take->x8
open Nat renaming le_refl->F,zero_le->y6,le_succ->x2
open Go.World renaming news_of_block->Q,cell?_alloc_some->z6,cell?_alloc_lt->z8,ownsRow->x3,freeze->x4
open Go.AllReadyH renaming nil->y8
namespace Go.Proofs.YtccikgogjfbpeaaGreatDoor
open Go.RowKit
def Np:Array M:=#[I J 0,Y ⟨#[]⟩,I J 0,I J 0,Y ⟨#[]⟩,I J 0,I J 0,Y ⟨#[]⟩,I J 0,I J 0,Y ⟨#[]⟩,I J 0,U Z 0 0,U Z 0 0,H false,I J 0,Y ⟨#[]⟩,I J 0,I J 0,Y ⟨#[]⟩,I J 0,H false,H false,U Z 0 0]
def Ud (c:Option (Tk×Tk))(j:Nat):M:=
 match c with
 |some (a,b)=>match j with|0=>I J a.sort|1=>Y a.text|2=>I J a.line|3=>I J b.sort|4=>Y b.text|_=>I J b.line
 |none=>match j with|0=>I J 0|1=>Y ⟨#[]⟩|2=>I J 0|3=>I J 0|4=>Y ⟨#[]⟩|_=>I J 0
def P7 (r:Qz)(a b c:M):M:=y9 #[I J r.name.sort,Y r.name.text,I J r.name.line,I J r.rank.sort,Y r.rank.text,I J r.rank.line,I J r.bin.1.sort,Y r.bin.1.text,I J r.bin.1.line,I J r.bin.2.sort,Y r.bin.2.text,I J r.bin.2.line,a,b,H r.amount.isSome,Ud r.amount 0,Ud r.amount 1,Ud r.amount 2,Ud r.amount 3,Ud r.amount 4,Ud r.amount 5,H r.act.decline,H r.act.cheapest,c]
def wO (w:R)(g j:Nat)(t u:Tk):R:=UE (UE w g j t) g (j+3) u
theorem EU (w g j t u):Fr (fun k=>k=g) w (wO w g j t u):=(Wq _ _ _ _).trans (Wq _ _ _ _)
theorem P8 (b:Nat):∀(a:List M)(o:Nat)(w:R),Fr (fun k=>k=b) w (w.setCells b o a)
 |[],_,w=>Fr.refl _ w
 |v::r,o,w=>((Fr.refl (fun k=>k=b) w).setCell (p:=⟨b,o,Z⟩) (A rfl) v).trans (P8 b r (o+1) _)
def QB:Array M->Nat->List M->Array M
 |cs,_,[]=>cs
 |cs,o,v::r=>QB (cs.setIfInBounds o v) (o+1) r
theorem RG {b:Nat}{t:TypeId}:∀(a:List M)(o:Nat)(w:R)(c:Array M),w.heap[b]?=O (G c t)->(w.setCells b o a).heap[b]?=O (G (QB c o a) t)
 |[],_,_,_,h=>h
 |v::r,o,_,_,h=>RG r (o+1) _ _ (Yl h o v)
theorem SK:∀(c:List M)(o:Nat)(a:Array M),o+c.length=a.size->(QB a o c).toList=a.toList.take o++c
 |[],o,a,h=>by
  simp at h;rw[QB,List.append_nil,z2 (by simp;omega)]
 |v::r,o,a,h=>by
  simp at h;rw[QB,SK r (o+1) _ (by simp;omega)]
  have d:o<a.toList.length:=by simp;omega
  have e:x8 o (a.toList.set o v)=x8 o a.toList:=by
   apply List.ext_getElem?;intro k;rw[y7,y7];by_cases b:k<o
   ·rw[if_pos b,if_pos b,List.getElem?_set_ne (by omega)]
   rw[if_neg b,if_neg b]
  rw[Array.toList_setIfInBounds,List.take_add_one,List.getElem?_set_self d,e];simp
theorem Lq {w:R}{b t c a}(h:w.heap[b]?=O (G c t))(d:a.size=c.size):(w.setCells b 0 a.toList).heap[b]?=O (G a t):=by
 rw[RG a.toList 0 w c h]
 congr 2
 apply Array.ext';rw[SK _ _ _ (by simp[d])];simp
theorem Ih {w:R}{b n t a}(h:w.heap[b]?=O (G a t))(c:a.size=n):w.there b 0 n:=fun j d=>by
 rw[Nat.zero_add];refine⟨?_,bF h j⟩;rw[cell_of_row w b j a t (0,0) h,Array.getElem?_eq_getElem (by omega)];rfl
structure VK (w wc:R)(p g cap:Nat)(ts:List Tk)(i:Nat)(cs:Array M)(vm:M)(lm:List Tk)(vc:M)(lc:List Tk):Prop where
 pa:Pa wc p g cap ts i
 fr:Fr (fun k=>k=p) w wc
 hr:wc.heap[w.heap.size]?=O (G Np 295)
 he:wc.heap[w.heap.size+1]?=O (G cs 295)
 rm:wc.ownsRow (w.heap.size+2) 263 3 vm lm.length (Yr lm)
 rc:wc.ownsRow (w.heap.size+2) 263 3 vc lc.length (Yr lc)
 pl:p<w.heap.size
 gl:g<w.heap.size
section
variable {w wc wd:R} {p g cap:Nat} {ts:List Tk} {i i':Nat} {cs:Array M} {vm:M} {lm:List Tk} {vc:M} {lc:List Tk}
theorem VK.size (h:VK w wc p g cap ts i cs vm lm vc lc):w.heap.size+2<=wc.heap.size:=(iA.1 h.he).1
theorem VK.step (h:VK w wc p g cap ts i cs vm lm vc lc)(b:Pa wd p g cap ts i')(a:Fr (fun k=>k=p) wc wd):VK w wd p g cap ts i' cs vm lm vc lc:=
 have c:=h.pl
 ⟨b,h.fr.trans a,a.whole h.hr (by omega),a.whole h.he (by omega),oF h.rm a (fun k d=>by omega),oF h.rc a (fun k d=>by omega),h.pl,h.gl⟩
theorem VK.write {cs'}(h:VK w wc p g cap ts i cs vm lm vc lc)(a:Fr (fun k=>k=w.heap.size+1) wc wd)(c:wd.heap[w.heap.size+1]?=O (G cs' 295)):VK w wd p g cap ts i cs' vm lm vc lc:=
 have d:=h.pl;have e:=h.gl
 ⟨h.pa.fr a (fun k b=>by omega),h.fr.monoNew a (fun k b=>by omega),a.whole h.hr (by omega),c,oF h.rm a (fun k b=>by omega),oF h.rc a (fun k b=>by omega),h.pl,h.gl⟩
theorem VK.mcc {v l}(h:VK w wc p g cap ts i cs vm lm vc lc)(a:wc.ownsRow (w.heap.size+2) 263 3 v l.length (Yr l)):VK w wc p g cap ts i cs v l vc lc:=⟨h.pa,h.fr,h.hr,h.he,a,h.rc,h.pl,h.gl⟩
theorem VK.cur {v l}(h:VK w wc p g cap ts i cs vm lm vc lc)(a:wc.ownsRow (w.heap.size+2) 263 3 v l.length (Yr l)):VK w wc p g cap ts i cs vm lm v l:=⟨h.pa,h.fr,h.hr,h.he,h.rm,a,h.pl,h.gl⟩
end
theorem Ae {w p g cap ts i}(h:Pa w p g cap ts i):
  VK w ((w.alloc (G Np 295)).alloc (G Np 295)) p g cap ts i Np (U Z 0 0) [] (U Z 0 0) []:=
 ⟨h.fr (S:=fun _=>False) ((Zt.alloc _).alloc _),(Zt.alloc _).alloc _,((Fr.refl (fun _=>False) _).alloc _).whole (aN w _),SJ w _ _,
  oZ _ _ _ _,oZ _ _ _ _,bL w _ h.c0,h.gl⟩
theorem Af (w p g cap ts i)(h:Pa w p g cap ts i):
  L E 193 #[y5 (O ⟨p,0,Z⟩)] w (Zm (Wg ts i) (fun r v w'=>∃S vc vr,v=P7 r S vc vr/\w'.ownsRow w.heap.size 263 3 S r.mcc.length (Yr r.mcc)/\w'.ownsRow w.heap.size 263 3 vc r.cur.length (Yr r.cur)/\w'.ownsRow w.heap.size 263 3 vr r.act.routes.length (Yr r.act.routes)) w p g cap ts):=by
 have l0:=Za (Ae h);have O0:=bL w _ h.c0;go_enter Tryz.func193,Tryz.ntmps193;go_wp2_with fail;refine(VJ _ p g cap ts i 0 _ l0.o.pa (by decide) (by rfl)).mono ?_;intro e w1 x
 cases s:Z8 ts i 0 with
 |error l=>
  obtain⟨y,t⟩:=(Zm.err s).1 x;unfold Zj at y;subst y;exact⟨rfl,(Zm.err (by unfold Wg;rw[Yb s])).2 ⟨rfl,l0.o.fr.trans t⟩⟩
 |ok r=>
  obtain⟨a,i1⟩:=r;obtain⟨⟨v,rfl,rfl⟩,B,t⟩:=(Zm.ok s).1 x;have hA:=Za s;have b0:D (VK w w1 p g cap ts i1 Np (U Z 0 0) [] (U Z 0 0) []):=l0.o.step B t;have e0:=Zc b0.o.he 0;have e1:=Zc b0.o.he 1;have e2:=Zc b0.o.he 2;have ef:=bF b0.o.he;simp only[R8];go_wp2_with fail
  change L _ _ _ (UE w1 (w.heap.size+1) 0 a) _
  have m0:=Za (b0.o.write (Wq _ _ _ _) (Vy b0.o.he 0 a));generalize UE w1 (w.heap.size+1) 0 a=w2 at*;refine(VJ _ p g cap ts i1 1 _ m0.o.pa (by decide) (by rfl)).mono ?_;intro e w3 x
  cases s:Z8 ts i1 1 with
  |error l=>
   obtain⟨y,t⟩:=(Zm.err s).1 x;unfold Zj at y;subst y;exact⟨rfl,(Zm.err (by unfold Wg;rw[Zh hA.o,Yb s])).2 ⟨rfl,m0.o.fr.trans t⟩⟩
  |ok r=>
   obtain⟨b,i2⟩:=r;obtain⟨⟨v,rfl,rfl⟩,B,t⟩:=(Zm.ok s).1 x;have hB:=Za s;have d0:D (VK w w3 p g cap ts i2 #[I J a.sort,Y a.text,I J a.line,I J 0,Y ⟨#[]⟩,I J 0,I J 0,Y ⟨#[]⟩,I J 0,I J 0,Y ⟨#[]⟩,I J 0,U Z 0 0,U Z 0 0,H false,I J 0,Y ⟨#[]⟩,I J 0,I J 0,Y ⟨#[]⟩,I J 0,H false,H false,U Z 0 0] (U Z 0 0) [] (U Z 0 0) []):=m0.o.step B t;have e3:=Zc d0.o.he 3;have e4:=Zc d0.o.he 4;have e5:=Zc d0.o.he 5;have ef:=bF d0.o.he;simp only[R8];go_wp2_with fail
   change L _ _ _ (UE w3 (w.heap.size+1) 3 b) _
   have n0:=Za (d0.o.write (Wq _ _ _ _) (Vy d0.o.he 3 b));generalize UE w3 (w.heap.size+1) 3 b=w4 at*;refine(Uc _ p g cap ts i2 Tv n0.o.pa).mono ?_;intro e w5 x
   cases s:ZE ts i2 Tv with
   |error l=>
    obtain⟨y,t⟩:=(Zm.err s).1 x;unfold Zj at y;subst y;exact⟨rfl,(Zm.err (by unfold Wg;rw[Zh hA.o,Zh hB.o,Yb s])).2 ⟨rfl,n0.o.fr.trans t⟩⟩
   |ok r=>
    obtain⟨u1,i3⟩:=r;obtain⟨⟨v,rfl,rfl⟩,B,t⟩:=(Zm.ok s).1 x;have hC:=Za s;have o0:D (VK w w5 p g cap ts i3 #[I J a.sort,Y a.text,I J a.line,I J b.sort,Y b.text,I J b.line,I J 0,Y ⟨#[]⟩,I J 0,I J 0,Y ⟨#[]⟩,I J 0,U Z 0 0,U Z 0 0,H false,I J 0,Y ⟨#[]⟩,I J 0,I J 0,Y ⟨#[]⟩,I J 0,H false,H false,U Z 0 0] (U Z 0 0) [] (U Z 0 0) []):=n0.o.step B t;go_wp2_with fail;refine(Uc _ p g cap ts i3 RD o0.o.pa).mono ?_;intro e w6 x
    cases s:ZE ts i3 RD with
    |error l=>
     obtain⟨y,t⟩:=(Zm.err s).1 x;unfold Zj at y;subst y;exact⟨rfl,(Zm.err (by unfold Wg;rw[Zh hA.o,Zh hB.o,Zh hC.o,Yb s])).2 ⟨rfl,o0.o.fr.trans t⟩⟩
    |ok r=>
     obtain⟨u2,i4⟩:=r;obtain⟨⟨v,rfl,rfl⟩,B,t⟩:=(Zm.ok s).1 x;have hD:=Za s;have p0:D (VK w w6 p g cap ts i4 #[I J a.sort,Y a.text,I J a.line,I J b.sort,Y b.text,I J b.line,I J 0,Y ⟨#[]⟩,I J 0,I J 0,Y ⟨#[]⟩,I J 0,U Z 0 0,U Z 0 0,H false,I J 0,Y ⟨#[]⟩,I J 0,I J 0,Y ⟨#[]⟩,I J 0,H false,H false,U Z 0 0] (U Z 0 0) [] (U Z 0 0) []):=o0.o.step B t;go_wp2_with fail;refine(Ib _ p g cap ts i4 p0.o.pa).mono ?_;intro e w7 x
     cases s:UR ts i4 with
     |error l=>
      obtain⟨y,t⟩:=(Zm.err s).1 x;unfold Zj at y;subst y;exact⟨rfl,(Zm.err (by unfold Wg;rw[Zh hA.o,Zh hB.o,Zh hC.o,Zh hD.o,Yb s])).2 ⟨rfl,p0.o.fr.trans t⟩⟩
     |ok r=>
      obtain⟨⟨c,d⟩,T⟩:=r;obtain⟨⟨v,rfl,rfl⟩,B,t⟩:=(Zm.ok s).1 x;have hE:=Za s;have N:D (VK w w7 p g cap ts T #[I J a.sort,Y a.text,I J a.line,I J b.sort,Y b.text,I J b.line,I J 0,Y ⟨#[]⟩,I J 0,I J 0,Y ⟨#[]⟩,I J 0,U Z 0 0,U Z 0 0,H false,I J 0,Y ⟨#[]⟩,I J 0,I J 0,Y ⟨#[]⟩,I J 0,H false,H false,U Z 0 0] (U Z 0 0) [] (U Z 0 0) []):=p0.o.step B t;have e6:=Zc N.o.he 6;have e7:=Zc N.o.he 7;have e8:=Zc N.o.he 8;have e9:=Zc N.o.he 9;have P0:=Zc N.o.he 10;have Q0:=Zc N.o.he 11;have ef:=bF N.o.he;simp only[US];go_wp2_with fail
      change L _ _ _ (wO w7 (w.heap.size+1) 6 c d) _
      have w0:=Za (N.o.write (EU _ _ _ _ _) (Vy (Vy N.o.he 6 c) 9 d));generalize wO w7 (w.heap.size+1) 6 c d=w8 at*;refine(QA _ p g cap ts T W7 w0.o.pa).mono ?_;rintro e w9 ⟨rfl,B,t⟩;have f0:D (VK w w9 p g cap ts _ #[I J a.sort,Y a.text,I J a.line,I J b.sort,Y b.text,I J b.line,I J c.sort,Y c.text,I J c.line,I J d.sort,Y d.text,I J d.line,U Z 0 0,U Z 0 0,H false,I J 0,Y ⟨#[]⟩,I J 0,I J 0,Y ⟨#[]⟩,I J 0,H false,H false,U Z 0 0] (U Z 0 0) [] (U Z 0 0) []):=w0.o.step B t
      have hO:D (Xg ts T W7=if Zn (Zo ts T) W7=true then Xk ts (if Zn (Zo ts T) W7=true then T+1 else T) 1 else .ok ([],(if Zn (Zo ts T) W7=true then T+1 else T))):=by
       show _=_
       unfold Xg
       cases Zn (Zo ts T) W7<;>rfl
      generalize Zn (Zo ts T) W7=q at*;generalize(if q=true then T+1 else T)=i6 at*
      go_upto_if 18 with fail
      go_cut [] (fun wc=>∃S lm j,D (Xg ts T W7=.ok (lm,j))/\D (VK w wc p g cap ts j #[I J a.sort,Y a.text,I J a.line,I J b.sort,Y b.text,I J b.line,I J c.sort,Y c.text,I J c.line,I J d.sort,Y d.text,I J d.line,S,U Z 0 0,H false,I J 0,Y ⟨#[]⟩,I J 0,I J 0,Y ⟨#[]⟩,I J 0,H false,H false,U Z 0 0] S lm (U Z 0 0) []))
      case first=>
       cases q with
       |false=>
        go_wp2_with fail;go_meet
        exact⟨U Z 0 0,[],i6,hO.o,f0.o⟩
       |true=>
        go_wp2_with fail;refine(Nh _ p g cap ts i6 1 _ f0.o.pa (by decide) (by rfl)).mono ?_;intro e R0 x
        cases s:Xk ts i6 1 with
        |error l=>
         obtain⟨y,t⟩:=(Zm.err s).1 x;unfold Zj at y;subst y;exact⟨rfl,(Zm.err (by unfold Wg;rw[Zh hA.o,Zh hB.o,Zh hC.o,Zh hD.o,Zh hE.o,Yb (hO.o.trans s)])).2 ⟨rfl,f0.o.fr.trans t⟩⟩
        |ok r=>
         obtain⟨l,i7⟩:=r;obtain⟨⟨v,rfl,F⟩,B,t⟩:=(Zm.ok s).1 x;obtain⟨va,vn,vk,rfl⟩:=ZB F;have V:=Za ((f0.o.step B t).mcc (oS F f0.o.size));have hL:=Za (hO.o.trans s);have S0:=Zc V.o.he 12;have ef:=bF V.o.he;go_wp2_with fail;go_meet
         exact⟨U va vn vk,l,i7,hL.o,V.o.write ((Fr.refl (fun k=>k=w.heap.size+1) _).setCell (p:=⟨w.heap.size+1,12,Z⟩) (A rfl) _) (Yl V.o.he 12 _)⟩
      obtain⟨S,lm,W,hF,j0⟩:=hcut
      rename R=>wA
      go_wp2_with fail;refine(QA _ p g cap ts W Z6 j0.o.pa).mono ?_;rintro e q0 ⟨rfl,B,t⟩;have P:D (VK w q0 p g cap ts _ _ S lm _ []):=j0.o.step B t
      have hO:D (Wp ts W Z6=if Zn (Zo ts W) Z6=true then YT (UR ts (if Zn (Zo ts W) Z6=true then W+1 else W)) (fun ab i=>.ok (O ab,i))else .ok (Z,(if Zn (Zo ts W) Z6=true then W+1 else W))):=by
       show _=_
       unfold Wp
       cases Zn (Zo ts W) Z6<;>rfl
      generalize Zn (Zo ts W) Z6=q2 at*;generalize(if q2=true then W+1 else W)=i8 at*
      go_upto_if 23 with fail
      go_cut [] (fun wc=>∃f j,D (Wp ts W Z6=.ok (f,j))/\D (VK w wc p g cap ts j #[I J a.sort,Y a.text,I J a.line,I J b.sort,Y b.text,I J b.line,I J c.sort,Y c.text,I J c.line,I J d.sort,Y d.text,I J d.line,S,U Z 0 0,H f.isSome,Ud f 0,Ud f 1,Ud f 2,Ud f 3,Ud f 4,Ud f 5,H false,H false,U Z 0 0] S lm (U Z 0 0) []))
      case first=>
       cases q2 with
       |false=>
        go_wp2_with fail;go_meet
        exact⟨Z,i8,hO.o,P.o⟩
       |true=>
        have T0:=Zc P.o.he 14;have ef:=bF P.o.he;go_wp2_with fail;have g0:D (VK w (q0.setCell ⟨w.heap.size+1,14,Z⟩ (H true)) p g cap ts i8 #[I J a.sort,Y a.text,I J a.line,I J b.sort,Y b.text,I J b.line,I J c.sort,Y c.text,I J c.line,I J d.sort,Y d.text,I J d.line,S,U Z 0 0,H true,I J 0,Y ⟨#[]⟩,I J 0,I J 0,Y ⟨#[]⟩,I J 0,H false,H false,U Z 0 0] S lm (U Z 0 0) []):=P.o.write ((Fr.refl (fun k=>k=w.heap.size+1) _).setCell (p:=⟨w.heap.size+1,14,Z⟩) (A rfl) _) (Yl P.o.he 14 _);generalize q0.setCell ⟨w.heap.size+1,14,Z⟩ (H true)=V0 at*;refine(Ib _ p g cap ts i8 g0.o.pa).mono ?_;intro e x0 x
        cases s:UR ts i8 with
        |error l=>
         obtain⟨y,t⟩:=(Zm.err s).1 x;unfold Zj at y;subst y;exact⟨rfl,(Zm.err (by unfold Wg;rw[Zh hA.o,Zh hB.o,Zh hC.o,Zh hD.o,Zh hE.o,Zh hF.o,Yb (hO.o.trans (Yb s))])).2 ⟨rfl,g0.o.fr.trans t⟩⟩
        |ok r=>
         obtain⟨⟨m,n⟩,i9⟩:=r;obtain⟨⟨v,rfl,rfl⟩,B,t⟩:=(Zm.ok s).1 x;have z:D (VK w x0 p g cap ts i9 _ S lm _ []):=g0.o.step B t;have hL:=Za (hO.o.trans (Zh s));have W0:=Zc z.o.he 15;have X0:=Zc z.o.he 16;have Y0:=Zc z.o.he 17;have Z0:=Zc z.o.he 18;have a1:=Zc z.o.he 19;have b1:=Zc z.o.he 20;have ef:=bF z.o.he;simp only[US];go_wp2_with fail;go_meet
         exact⟨O (m,n),i9,hL.o,z.o.write (EU x0 (w.heap.size+1) 15 m n) (Vy (Vy z.o.he 15 m) 18 n)⟩
      obtain⟨f,X,hG,k0⟩:=hcut
      rename R=>wB
      go_wp2_with fail;refine(QA _ p g cap ts X Vw k0.o.pa).mono ?_;rintro e B0 ⟨rfl,B,t⟩;have Q:D (VK w B0 p g cap ts _ _ S lm _ []):=k0.o.step B t
      have hO:D (Xg ts X Vw=if Zn (Zo ts X) Vw=true then Xk ts (if Zn (Zo ts X) Vw=true then X+1 else X) 1 else .ok ([],(if Zn (Zo ts X) Vw=true then X+1 else X))):=by
       show _=_
       unfold Xg
       cases Zn (Zo ts X) Vw<;>rfl
      generalize Zn (Zo ts X) Vw=q3 at*;generalize(if q3=true then X+1 else X)=r0 at*
      go_upto_if 29 with fail
      go_cut [] (fun wc=>∃vc lc j,D (Xg ts X Vw=.ok (lc,j))/\D (VK w wc p g cap ts j #[I J a.sort,Y a.text,I J a.line,I J b.sort,Y b.text,I J b.line,I J c.sort,Y c.text,I J c.line,I J d.sort,Y d.text,I J d.line,S,vc,H f.isSome,Ud f 0,Ud f 1,Ud f 2,Ud f 3,Ud f 4,Ud f 5,H false,H false,U Z 0 0] S lm vc lc))
      case first=>
       cases q3 with
       |false=>
        go_wp2_with fail;go_meet
        exact⟨U Z 0 0,[],r0,hO.o,Q.o⟩
       |true=>
        go_wp2_with fail;refine(Nh _ p g cap ts r0 1 _ Q.o.pa (by decide) (by rfl)).mono ?_;intro e c1 x
        cases s:Xk ts r0 1 with
        |error l=>
         obtain⟨y,t⟩:=(Zm.err s).1 x;unfold Zj at y;subst y;exact⟨rfl,(Zm.err (by unfold Wg;rw[Zh hA.o,Zh hB.o,Zh hC.o,Zh hD.o,Zh hE.o,Zh hF.o,Zh hG.o,Yb (hO.o.trans s)])).2 ⟨rfl,Q.o.fr.trans t⟩⟩
        |ok r=>
         obtain⟨l,C0⟩:=r;obtain⟨⟨v,rfl,F⟩,B,t⟩:=(Zm.ok s).1 x;obtain⟨va,vn,vk,rfl⟩:=ZB F;have a0:=Za ((Q.o.step B t).cur (oS F Q.o.size));have hL:=Za (hO.o.trans s);have d1:=Zc a0.o.he 13;have ef:=bF a0.o.he;go_wp2_with fail;go_meet
         exact⟨U va vn vk,l,C0,hL.o,a0.o.write ((Fr.refl (fun k=>k=w.heap.size+1) _).setCell (p:=⟨w.heap.size+1,13,Z⟩) (A rfl) _) (Yl a0.o.he 13 _)⟩
      obtain⟨vc,lc,y0,hH,h0⟩:=hcut
      rename R=>wD
      go_wp2_with fail;refine(Uc _ p g cap ts y0 T5 h0.o.pa).mono ?_;intro e D0 x
      cases s:ZE ts y0 T5 with
      |error l=>
       obtain⟨y,t⟩:=(Zm.err s).1 x;unfold Zj at y;subst y;exact⟨rfl,(Zm.err (by unfold Wg;rw[Zh hA.o,Zh hB.o,Zh hC.o,Zh hD.o,Zh hE.o,Zh hF.o,Zh hG.o,Zh hH.o,Yb s])).2 ⟨rfl,h0.o.fr.trans t⟩⟩
      |ok r=>
       obtain⟨u3,s0⟩:=r;obtain⟨⟨v,rfl,rfl⟩,B,t⟩:=(Zm.ok s).1 x;have hI:=Za s;have u:D (VK w D0 p g cap ts s0 _ S lm vc lc):=h0.o.step B t;have M0:=u.o.pl;have N0:=u.o.gl;go_wp2_with fail;refine(G3 _ p g cap ts s0 (w.heap.size+1) _ u.o.pa u.o.he (by omega) (by omega) rfl rfl rfl).mono ?_;intro e i0 x
       cases s:Xh ts s0 with
       |error l=>
        obtain⟨y,t⟩:=(RE.err s).1 x;unfold Zj at y;subst y;exact⟨rfl,(Zm.err (by unfold Wg;rw[Zh hA.o,Zh hB.o,Zh hC.o,Zh hD.o,Zh hE.o,Zh hF.o,Zh hG.o,Zh hH.o,Zh hI.o,Yb s])).2 ⟨rfl,u.o.fr.monoNew t (fun k hk=>by omega)⟩⟩
       |ok r=>
        obtain⟨C,f1⟩:=r;obtain⟨rfl,⟨vr,E0,F⟩,B,t⟩:=(RE.ok s).1 x;have hJ:=Za s;have F0:=Za B;have G0:=Za (u.o.fr.monoNew t (fun k hk=>by omega));have HM:=Za (oF u.o.rm t (fun k hk=>by omega));have HC:=Za (oF u.o.rc t (fun k hk=>by omega));have HT:=Za (oS F u.o.size);have z0:=t.whole u.o.hr (by omega);obtain⟨ma,mn,mk,rfl⟩:=ZB HM.o;obtain⟨ca,cn,ck,rfl⟩:=ZB HC.o;obtain⟨ra,rn,rk,rfl⟩:=ZB HT.o;have H0:=Ih z0 rfl;have I0:i0.heap[w.heap.size+1]?=O (G #[I J a.sort,Y a.text,I J a.line,I J b.sort,Y b.text,I J b.line,I J c.sort,Y c.text,I J c.line,I J d.sort,Y d.text,I J d.line,U ma mn mk,U ca cn ck,H f.isSome,Ud f 0,Ud f 1,Ud f 2,Ud f 3,Ud f 4,Ud f 5,H C.decline,H C.cheapest,U ra rn rk] 295):=E0
        have A0:(#[I J a.sort,Y a.text,I J a.line,I J b.sort,Y b.text,I J b.line,I J c.sort,Y c.text,I J c.line,I J d.sort,Y d.text,I J d.line,U ma mn mk,U ca cn ck,H f.isSome,Ud f 0,Ud f 1,Ud f 2,Ud f 3,Ud f 4,Ud f 5,H C.decline,H C.cheapest,U ra rn rk]:Array M).all (·.oneCell')=true:=by
         cases f<;>simp[z1,Ud]
        have HW:D (Fr _ i0 (i0.setCells w.heap.size 0 (#[I J a.sort,Y a.text,I J a.line,I J b.sort,Y b.text,I J b.line,I J c.sort,Y c.text,I J c.line,I J d.sort,Y d.text,I J d.line,U ma mn mk,U ca cn ck,H f.isSome,Ud f 0,Ud f 1,Ud f 2,Ud f 3,Ud f 4,Ud f 5,H C.decline,H C.cheapest,U ra rn rk]:Array M).toList)):=P8 _ _ _ _;have HV:D ((i0.setCells w.heap.size 0 (#[I J a.sort,Y a.text,I J a.line,I J b.sort,Y b.text,I J b.line,I J c.sort,Y c.text,I J c.line,I J d.sort,Y d.text,I J d.line,U ma mn mk,U ca cn ck,H f.isSome,Ud f 0,Ud f 1,Ud f 2,Ud f 3,Ud f 4,Ud f 5,H C.decline,H C.cheapest,U ra rn rk]:Array M).toList).heap[w.heap.size]?=O (G #[I J a.sort,Y a.text,I J a.line,I J b.sort,Y b.text,I J b.line,I J c.sort,Y c.text,I J c.line,I J d.sort,Y d.text,I J d.line,U ma mn mk,U ca cn ck,H f.isSome,Ud f 0,Ud f 1,Ud f 2,Ud f 3,Ud f 4,Ud f 5,H C.decline,H C.cheapest,U ra rn rk] 295)):=Lq z0 rfl;generalize t0:(#[I J a.sort,Y a.text,I J a.line,I J b.sort,Y b.text,I J b.line,I J c.sort,Y c.text,I J c.line,I J d.sort,Y d.text,I J d.line,U ma mn mk,U ca cn ck,H f.isSome,Ud f 0,Ud f 1,Ud f 2,Ud f 3,Ud f 4,Ud f 5,H C.decline,H C.cheapest,U ra rn rk]:Array M)=cs at*;have HK:=Za t0
        have v0:(E.info? 295).map (·.size)=O cs.size:=by rw[<-t0];kernel_rfl
        have J0:=Za H0;have K0:=Za I0;have HN:=Za A0;have HZ:=Za v0
        have L0:D (cs.size=24):=by show _=_;rw[<-t0];rfl
        go_wp2_with (first|(refine wpList_load_row rfl 295 _ rfl (w.heap.size+1) rfl 295 cs (0,0) _ K0.o Tryz.underlying295 rfl HZ.o ?_)|(refine wpList_store_mid rfl 295 _ _ rfl w.heap.size 0 cs rfl rfl (by rw[L0.o];exact J0.o) HZ.o HN.o ?_))
        have K:=HW.o
        exact bodyPost_ret (v:=y9 cs) (results_cell_row rfl _ _ w.heap.size 295 cs (0,0) _ rfl HV.o Tryz.underlying295 rfl HZ.o) rfl ((Zm.ok (by unfold Wg;rw[Zh hA.o,Zh hB.o,Zh hC.o,Zh hD.o,Zh hE.o,Zh hF.o,Zh hG.o,Zh hH.o,Zh hI.o,Zh hJ.o])).2 ⟨⟨_,rfl,U ma mn mk,U ca cn ck,U ra rn rk,congrArg Value.agg HK.o.symm,
         oS (oF HM.o K (fun k hk=>by omega)) (by omega),oS (oF HC.o K (fun k hk=>by omega)) (by omega),oS (oF HT.o K (fun k hk=>by omega)) (by omega)⟩,
         F0.o.fr K (fun k hk=>by omega),G0.o.monoNew K (fun k hk=>by omega)⟩)
end Go.Proofs.YtccikgogjfbpeaaGreatDoor
namespace Go.Proofs.YtccikgogjfbpeaaGreatDoor
open Go.RowKit
def QC (base:Nat)(w:R)(x:Vr)(v:M):Prop:=
 match x with
 | .route r=>v=.iface 290 (UT r)
 | .rule r=>∃a b c,v=.iface 295 (P7 r a b c)/\w.ownsRow base 263 3 a r.mcc.length (Yr r.mcc)/\w.ownsRow base 263 3 b r.cur.length (Yr r.cur)/\w.ownsRow base 263 3 c r.act.routes.length (Yr r.act.routes)
theorem QC.fr {base a w w' x v S}(h:QC base w x v)(b:Fr S w w')(c:∀k,S k->k<base)(d:a<=base):QC a w' x v:=by
 cases x with
 |route r=>exact h
 |rule r=>
  obtain⟨e,f,g,i,j,l,m⟩:=h;exact⟨e,f,g,i,oS (oF j b c) d,oS (oF l b c) d,oS (oF m b c) d⟩
theorem D5 (w p g cap ts i)(h:Pa w p g cap ts i):
  L E 157 #[y5 (O ⟨p,0,Z⟩)] w (Zm (ZU ts i) (fun x v w'=>QC w.heap.size w' x v) w p g cap ts):=by
 have t:=Za h;have P:p<w.heap.size:=bL w _ h.c0;clear h
 cases n:Zn (Zo ts i) WU with
 |true=>
  go_enter Tryz.func157,Tryz.ntmps157;go_wp2_with fail;refine(SI w p g cap ts i _ WU t.o t.o.at n).mono ?_;rintro e I ⟨rfl,y,a⟩;have d:=Za a;have q:=Za y;clear y a;go_wp2_with fail;refine(D2 _ p g cap ts (i+1) q.o).mono ?_;intro e w2 f
  cases b:WG ts (i+1)with
  |error l=>
   obtain⟨m,a⟩:=(Zm.err b).1 f;unfold Zj at m;subst m;exact⟨rfl,(Zm.err (by unfold ZU;rw[if_pos n,Yb b])).2 ⟨rfl,d.o.trans a⟩⟩
  |ok r=>
   obtain⟨r,B⟩:=r;obtain⟨⟨v,rfl,rfl⟩,j,a⟩:=(Zm.ok b).1 f;have c:=Za (d.o.trans a);have s:=Za j
   have C:D (ZU ts i=.ok (.route r,B)):=by show _=_;unfold ZU;rw[if_pos n,Zh b]
   clear b f j a;generalize z:UT r=v;have F:=Za z;clear z;go_wp2;go_ret;refine(Zm.ok C.o).2 ⟨⟨_,rfl,?_⟩,s.o,c.o⟩
   show _=_
   rw[F.o];rfl
 |false=>
  go_enter Tryz.func157,Tryz.ntmps157;go_wp2_with fail;refine(Qy w p g cap ts i _ WU t.o t.o.at n).mono ?_;rintro e I ⟨rfl,a⟩;have d:D (Fr (fun k=>k=p) w I):=a.mono;have q:=Za (t.o.fr a);clear a;go_wp2_with fail;refine(Uc _ p g cap ts i Ub q.o).mono ?_;intro e w2 f
  cases b:ZE ts i Ub with
  |error l=>
   obtain⟨m,a⟩:=(Zm.err b).1 f;unfold Zj at m;subst m;exact⟨rfl,(Zm.err (by unfold ZU;rw[if_neg (by simp[n]),Yb b])).2 ⟨rfl,d.o.trans a⟩⟩
  |ok r=>
   obtain⟨u,B⟩:=r;obtain⟨⟨v,rfl,rfl⟩,j,a⟩:=(Zm.ok b).1 f;have c:=Za (d.o.trans a);have s:=Za j;have J:=Za b;clear b f j a;go_wp2_with fail;refine(Af _ p g cap ts B s.o).mono ?_;intro e Q f
   cases b:Wg ts B with
   |error l=>
    obtain⟨m,a⟩:=(Zm.err b).1 f;unfold Zj at m;subst m;exact⟨rfl,(Zm.err (by unfold ZU;rw[if_neg (by simp[n]),Zh J.o,Yb b])).2 ⟨rfl,c.o.trans a⟩⟩
   |ok r=>
    obtain⟨r,R⟩:=r;obtain⟨⟨v,rfl,S,T,U,z,K,M,N⟩,A,a⟩:=(Zm.ok b).1 f;have G:=Za (c.o.trans a);have H:=Za A
    have C:D (ZU ts i=.ok (.rule r,R)):=by show _=_;unfold ZU;rw[if_neg (by simp[n]),Zh J.o,Zh b]
    have F:D (QC w.heap.size Q (.rule r) (.iface 295 v)):=⟨S,T,U,by rw[z],oS K c.o.size,oS M c.o.size,oS N c.o.size⟩;clear b f A a z K M N;go_wp2;go_ret;exact(Zm.ok C.o).2 ⟨⟨_,rfl,F.o⟩,H.o,G.o⟩
def YU (base:Nat)(w:R):List Vr->List M->Prop
 |[],[]=>True
 |x::xs,v::vs=>QC base w x v/\YU base w xs vs
 |_,_=>False
theorem YU.fr {base:Nat}{w w':R}{S:Nat->Prop}(a:Fr S w w')(b:∀k,S k->k<base):∀{c:List Vr}{d:List M},YU base w c d->YU base w' c d
 |[],[],_=>trivial
 |_::_,_::_,h=>⟨h.1.fr a b (F _),YU.fr a b h.2⟩
 |[],_::_,h=>h
 |_::_,[],h=>h
theorem YU.base {base a:Nat}{w:R}(b:a<=base):∀{c:List Vr}{d:List M},YU base w c d->YU a w c d
 |[],[],_=>trivial
 |_::_,_::_,h=>⟨h.1.fr (Fr.refl (fun _=>False) w) (by simp) b,YU.base b h.2⟩
 |[],_::_,h=>h
 |_::_,[],h=>h
theorem QC.iface {base w x v}(h:QC base w x v):∃T u,v=.iface T u:=by
 cases x with
 |route r=>exact⟨_,_,h⟩
 |rule r=>obtain⟨_,_,_,a,_⟩:=h;exact⟨_,_,a⟩
theorem YU.length {base:Nat}{w:R}:∀{a:List Vr}{b:List M},YU base w a b->a.length=b.length
 |[],[],_=>rfl
 |_::_,_::_,h=>by simp[YU.length h.2]
theorem YU.snoc {base:Nat}{w:R}{x:Vr}{v:M}(a:QC base w x v):∀{b:List Vr}{c:List M},YU base w b c->YU base w (b++[x]) (c++[v])
 |[],[],_=>⟨a,trivial⟩
 |_::_,_::_,h=>⟨h.1,YU.snoc a h.2⟩
theorem WI {w:R}{j l c d o p v u n m q r}(h:w.ownsRow j c o v n q)(k:w.ownsRow l d p u m r)(b:c≠d):v.ownBlock=Z\/v.ownBlock≠u.ownBlock:=by
 rcases h.2 with⟨rfl,_⟩|⟨g,cap,s,rfl,_,t,_⟩
 ·exact .inl rfl
 refine .inr fun e=>?_
 rcases k.2 with⟨rfl,_⟩|⟨x,f,i,rfl,_,a,_⟩
 ·simp[x7]at e
 simp[x7]at e
 subst e;rw[t]at a;injection a with a;injection a with _ a;exact b a
theorem QC.grown {base e m w w' x v u f}(h:QC base w x v)(k:w.ownsRow e 256 1 u m f)(a:w.grownBy w' u.ownBlock):QC base w' x v:=by
 cases x with
 |route r=>exact h
 |rule r=>
  obtain⟨g,i,j,l,b,c,d⟩:=h;exact⟨g,i,j,l,b.kept a (WI b k (by decide)),c.kept a (WI c k (by decide)),d.kept a (WI d k (by decide))⟩
theorem YU.grown {base d m:Nat}{w w':R}{u:M}{e:List M}(k:w.ownsRow d 256 1 u m e)(a:w.grownBy w' u.ownBlock):∀{b:List Vr}{c:List M},YU base w b c->YU base w' b c
 |[],[],_=>trivial
 |_::_,_::_,h=>⟨h.1.grown k a,YU.grown k a h.2⟩
 |[],_::_,h=>h
 |_::_,[],h=>h
theorem Nq:(E.info? 256).map (fun i=>(i.zero,i.size,i.bytes))=O (O .nilIface,1,16):=by kernel_rfl
theorem Fb (a b c w):(Instr.field 263 (y9 #[a,b,c]) 0).run E w=.ok a w:=by kernel_rfl
def WJ (w:R)(ts:List Tk)(e:Ending)(w':R):Prop:=
 match Zr ts 0 []with
 | .ok (xs,_)=>(∃v a,e=N v/\w'.ownsRow w.heap.size 256 1 v xs.length a/\YU w.heap.size w' xs a/\xs.length<=4000)/\Below w.heap.size w w'
 | .error l=>e=Zj 3 l/\Below w.heap.size w w'
theorem D6 (w g cap ts)(i:∀j t,ts[j]?=O t->w.cell? ⟨g,j*3,Z⟩=O (I J t.sort)/\w.cell? ⟨g,j*3+1,Z⟩=O (Y t.text)/\w.cell? ⟨g,j*3+2,Z⟩=O (I J t.line))(p:g<w.heap.size)(h0:0<ts.length)(z:ts.length<=4000)(q:(ts.getLastD ⟨3,ByteArray.empty,0⟩).sort=3):
  L E 103 #[U (O ⟨g,0,Z⟩) ts.length cap] w (WJ w ts):=by
 have HP:D (Pa (w.alloc (G #[U (O ⟨g,0,Z⟩) ts.length cap,I J 0] 260)) w.heap.size g cap ts 0):=by
  refine⟨by simp[go_sem],by simp[go_sem],by simp[go_sem],fun j t hj=>?_,by omega,by simp;omega,h0,z,q⟩;rw[z8 _ _ _ (by exact p),z8 _ _ _ (by exact p),z8 _ _ _ (by exact p)];exact i j t hj
 obtain⟨ii,hi,a0,b0,d0⟩:=info_parts Nq;have A0:=Fb;go_enter Tryz.func103,Tryz.ntmps103;go_wp2_with fail
 go_loopg [4] ts.length (fun m l wr=>∃j c y,m=ts.length-j/\D (Pa wr w.heap.size g cap ts j)/\D (Below w.heap.size w wr)/\D (wr.ownsRow (w.heap.size+1) 256 1 l c.length y)/\D (YU (w.heap.size+1) wr c y)/\D (c.length<=j)/\D (Zr ts 0 []=Zr ts j c))
 case atStart=>exact⟨0,[],[],rfl,HP.o,(Below.refl _ _).alloc (F _) _,oZ _ _ _ _,trivial,y6 _,rfl⟩
 obtain⟨j,c,y,rfl,d,HB,HO,HV,HL,W⟩:=hrel;have e0:w.heap.size<wr.heap.size:=bL wr _ d.o.c0;by_cases h3:(Zo ts j).sort=3
 ·go_wp2_with fail
  refine(VI wr w.heap.size g cap ts j _ d.o d.o.at).mono ?_;rintro e X ⟨rfl,a⟩;have HF:=Za a
  have b:D (WJ w ts (N u4) X):=by
   show WJ w ts (N u4) X
   unfold WJ;rw[W.o.trans (XA h3)];refine⟨⟨u4,y,rfl,oS (oF HO.o a) (by omega),?_,?_⟩,HB.o.trans (a.below (by omega))⟩
   ·exact YU.base (by omega) (YU.fr a (by simp) HV.o)
   have:=HL.o;have:=d.o.lt;omega
  simp only[R8,h3];go_wp2;go_ret;exact b.o
 have B0:(((Zo ts j).sort:Int) !=3)=true:=by simp;omega
 have H3:=Za h3;go_wp2_with fail;refine(VI wr w.heap.size g cap ts j _ d.o d.o.at).mono ?_;rintro e X ⟨rfl,a⟩;have B:=Za (d.o.fr a);have C:=Za (HB.o.trans (a.below (by omega)));have f0:=Za (oF HO.o a);have g0:=Za (YU.fr a (by simp) HV.o);have i0:w.heap.size<X.heap.size:=nL e0 a.size;simp only[R8];go_wp2_with fail;refine(D5 _ w.heap.size g cap ts j B.o).mono ?_;intro e w2 H
 cases K:ZU ts j with
 |error l=>
  obtain⟨M,a⟩:=(Zm.err K).1 H;unfold Zj at M;subst M
  have b:WJ w ts (Zj 3 l) w2:=by
   unfold WJ;rw[W.o.trans (YJ H3.o K)];exact⟨rfl,C.o.trans (a.below (by omega) (fun k h=>by omega))⟩
  exact⟨rfl,b⟩
 |ok r=>
  obtain⟨x,j2⟩:=r;obtain⟨⟨v,rfl,hx⟩,j0,a⟩:=(Zm.ok K).1 H;obtain⟨T,u,rfl⟩:=hx.iface;have HX:D (QC (w.heap.size+1) w2 x (.iface T u)):=hx.fr (Fr.refl (fun _=>False) w2) (by simp) (by omega);have k0:=Za j0;have l0:=Za (C.o.trans (a.below (by omega) (fun k h=>by omega)));have n:=Za (oF f0.o a (fun k h=>by omega));have m0:=Za (YU.fr a (fun k h=>by omega) g0.o);have n0:w.heap.size<w2.heap.size:=nL i0 a.size;have HM:=Za K;have C0:=WV K;have y0:=HL.o;have hj:=B.o.lt
  go_wp2_with (at_builtin;refine wpList_append_lies _ rfl (.tmp 12) (.tmp 15) 191 rfl (w.heap.size+1) 256 ii _ 1 16 Tryz.underlying191 hi a0 b0 d0 rfl (by decide) u4 c.length y rfl ?h1 ⟨w2.heap.size,0,Z⟩ 1 1 [.iface T u] rfl rfl ?h2 ?h3 (by decide) ?h4 ?h5 ?h6 _ rfl ?_)
  case h1=>exact n.o.alloc _
  case h2=>exact Q (aN w2 _)
  case h3=>simp[z1]
  case h4=>unfold maxLen;omega
  case h5=>omega
  case h6=>simp;omega
  intro g2 z0 w3 P f _ _;have R:=(Lp w2 (G #[.iface T u] 256)).1
  have i:∀k,u4.ownBlock=O k->w.heap.size+1<=k:=fun k h=>(n.o.lt k h).1
  have o0:=Za P;have p0:=Za (YU.snoc ((HX.o.fr R (by simp) (F _)).grown (n.o.alloc _) f) (YU.grown (n.o.alloc _) f (YU.fr R (by simp) m0.o)));have s:Fr (fun k=>w.heap.size+1<=k) w2 w3:=((Zt.alloc _).grown f (fun k h=>A (i k h)));have q0:=Za (k0.o.fr s (fun k h=>by omega));have S:=Za (l0.o.trans (s.below (by omega) (fun k h=>by omega)));have D0:w.heap.size<w3.heap.size:=nL n0 s.size;go_wp2_with fail;refine(Uc _ w.heap.size g cap ts j2 Va q0.o).mono ?_;intro e w4 H
  cases V:ZE ts j2 Va with
  |error l=>
   obtain⟨M,a⟩:=(Zm.err V).1 H;unfold Zj at M;subst M
   have b:WJ w ts (Zj 3 l) w4:=by
    unfold WJ;rw[W.o.trans (Y8 H3.o HM.o V)];exact⟨rfl,S.o.trans (a.below (by omega) (fun k h=>by omega))⟩
   exact⟨rfl,b⟩
  |ok r=>
   obtain⟨u0,j4⟩:=r;obtain⟨⟨v,rfl,rfl⟩,r0,a⟩:=(Zm.ok V).1 H;have s0:=Za r0;have t0:=Za (S.o.trans (a.below (by omega) (fun k h=>by omega)));have v0:=Za (oF o0.o a (fun k h=>by omega));have w0:=Za (YU.fr a (fun k h=>by omega) p0.o);have x0:=Za (W.o.trans (X3 H3.o HM.o V));have E0:=Yt V;go_wp2;go_roundg (ts.length-j4)
   case measure=>omega
   refine⟨j4,c++[x],y++[.iface T u],rfl,s0,t0,?_,w0,?_,x0⟩
   ·show x3 _ _ _ _ _ _ _
    rw[lA];exact v0.o
   show _<=_
   simp;omega
end Go.Proofs.YtccikgogjfbpeaaGreatDoor
namespace Go.Proofs.YtccikgogjfbpeaaGreatDoor
open Go.RowKit
def Yu (l:List UInt8):Nat:=l.foldl (fun n c=>n*10+(c.toNat-48)) 0
theorem UU (l c):Yu (l++[c])=Yu l*10+(c.toNat-48):=by simp[Yu]
def Dg (t:ByteArray):Prop:=t.size<=9/\∀k,k<t.size->48<=ZC t k/\ZC t k<=57
theorem Ag (s)(a:Dg s):∀k,k<=s.size->Yu (s.data.toList.take k)+1<=10^k:=by
 intro k
 induction k with
 |zero=>intro _;simp[Yu]
 |succ k b=>
  intro f;have g:=b (by omega);have c:=(a.2 k (by omega)).2;have d:=(a.2 k (by omega)).1;rw[z7 (by simp;omega),UU];have e:ZC s k=((s.data.toList[k]'(by simp;omega)).toNat:Int):=Nc s k (by omega);rw[e]at c d;rw[Nat.pow_succ];omega
theorem SL (s)(a:Dg s)(k)(b:k<=s.size):Yu (s.data.toList.take k)+1<=1000000000:=by
 have c:=Ag s a k b;have d:10^k<=10^9:=Nat.pow_le_pow_right (by decide) (by have:=a.1;omega);exact Nat.le_trans c d
theorem Nr (s)(a:Dg s)(k)(b:k<s.size):(Yu (s.data.toList.take (k+1)):Int)=(Yu (s.data.toList.take k):Int)*10+(ZC s k-48):=by
 rw[z7 (by simp;omega),UU];have c:ZC s k=((s.data.toList[k]'(by simp;omega)).toNat:Int):=Nc s k (by omega);have d:=(a.2 k b).1;rw[c]at d ⊢;omega
theorem Wk (w e s):F0 w (Lib.bytesWorld w e s):=
 ⟨by unfold Lib.bytesWorld x4;split<;>rfl,by unfold Lib.bytesWorld x4;split<;>rfl,by unfold Lib.bytesWorld x4;split<;>rfl,by rw[Lib.bytesWorld_size];omega,fun k a _=>Lib.bytesWorld_at_old w e s k a⟩
theorem Ri (t w)(h:Dg t.text):
  L E 313 #[R8 t] w fun e w'=>e=N (I J (Yu t.text.data.toList))/\F0 w w':=by
 have d:=Za h
 have f:=fun w=>Lib.run_convert_string_bytes (P:=E) w 9 50 5 t.text Tryz.underlying9 Tryz.underlying50 Tryz.underlying5
 clear h;unfold R8;go_enter Tryz.func313,Tryz.ntmps313;go_wp2_with fail;have l:D (Fr _ w (Lib.bytesWorld (w.alloc (G #[I J t.sort,Y t.text,I J t.line] 263)) 5 t.text)):=(Zt.alloc _).trans (Wk _ _ _)
 have a:∀j,j<t.text.size->(Lib.bytesWorld (w.alloc (G #[I J t.sort,Y t.text,I J t.line] 263)) 5 t.text).cell? ⟨w.heap.size+1,j,Z⟩=O (I .u8 (ZC t.text j)):=fun j m=>by
  have:=Lib.bytesWorld_cell (w.alloc (G #[I J t.sort,Y t.text,I J t.line] 263)) 5 t.text j m
  simpa[ZC]using this
 have p:=Za a;clear a f;have q:=d.o.1;generalize Lib.bytesWorld (w.alloc _) 5 t.text=W at*;generalize grownCap _ _ _ _=cap at*
 go_loop [3,5,10] (fun n _ i=>∃k:Nat,k<=t.text.size/\i=I J k/\n=I J (Yu (t.text.data.toList.take k))) (fun _ _ i=>t.text.size-(intOf i).toNat)
 case atStart=>exact⟨0,y6 _,rfl,rfl⟩
 obtain⟨k,r,rfl,rfl⟩:=hrel;have v:=SL t.text d.o k r;by_cases b:k<t.text.size
 ·have x:=p.o k b
  have g:=Za (Nr t.text d.o k b);have s:=d.o.2 k b
  have u:(k:Int)<(t.text.size:Int):=by omega
  generalize Yu (t.text.data.toList.take k)=n at*;generalize ZC t.text k=c at*;go_wp2;refine⟨⟨k+1,by omega,by go_num,?_⟩,by simp[intOf];omega⟩;rw[g.o]
 go_wp2
 go_ret;exact⟨ZO (by rw[z2 (by simp;omega)]),l.o⟩
def Zd (t:Tk):Nat:=Yu t.text.data.toList
theorem P9 (t)(a:Dg t.text):Zd t<=999999999:=by
 have:=SL t.text a t.text.size (F _);rw[z2 (by simp)]at this;unfold Zd;omega
theorem Rj (t w a)(b:Int)(c:Dg t.text)(k:Zd t<=a)(d:b=a):
  L E 316 #[R8 t,I J b] w fun e w'=>e=N (I J (Zd t))/\F0 w w':=by
 subst d
 have f:D (∀W,L E 313 #[y9 #[I J t.sort,Y t.text,I J t.line]] W fun e w'=>e=N (I J (Zd t))/\F0 W w'):=fun W=>Ri t W c
 have g:¬(a:Int)<(Zd t:Int):=by omega
 generalize Zd t=n at*;unfold R8;go_enter Tryz.func316,Tryz.ntmps316
 go_wp2_with (go_at_call 313;refine DU (f.o _) fun h i=>?_;have j:D (F0 w h):=(Zt.alloc _).trans i)
 go_ret;exact⟨rfl,j.o⟩
theorem QD (t w a)(d:Int)(h:Dg t.text)(l:a<Zd t)(f:d=a):
  L E 316 #[R8 t,I J d] w fun e w'=>e=Zj 5 t.line/\F0 w w':=by
 subst f
 have i:D (∀W,L E 313 #[y9 #[I J t.sort,Y t.text,I J t.line]] W fun e w'=>e=N (I J (Zd t))/\F0 W w'):=fun W=>Ri t W h
 have j:(a:Int)<(Zd t:Int):=by omega
 generalize Zd t=n at*;unfold R8;go_enter Tryz.func316,Tryz.ntmps316;go_wp2_with fail;refine(i.o _).mono ?_;rintro e m ⟨rfl,b⟩;have k:=Za ((Zt.alloc _).trans b);have c:=b.whole (aN w _);have p:=Zc c 0;have f:=Zc c 1;have q:=Zc c 2;go_wp2_with fail;refine(YD t 5 _ _ (by rfl)).mono ?_;rintro e r ⟨g,b⟩;unfold Zj at g;subst g;exact⟨rfl,rfl,k.o.trans b⟩
end Go.Proofs.YtccikgogjfbpeaaGreatDoor
namespace Go.Proofs.YtccikgogjfbpeaaGreatDoor
def TH (n:Nat)(t:Tk):Prop:=(t.sort=1->Dg t.text)/\t.text.size<=n/\t.sort<=3
theorem R9 (p:Int->Bool):∀(l:List UInt8)(j:Nat),j<X0 p l->∃c,l[j]?=O c/\p (c.toNat:Int)=true
 |[],j,h=>by simp[X0]at h
 |c::r,j,h=>by
  simp only[X0]at h
  split at h
  ·rename_i a
   cases j with
   |zero=>exact⟨c,rfl,a⟩
   |succ j=>
    obtain⟨d,b,e⟩:=R9 p r j (by omega);exact⟨d,by simpa using b,e⟩
  omega
theorem SM (s a b j)(h:a+j<b):ZC (s.extract a b) j=ZC s (a+j):=by
 unfold ZC;rw[Lib.extract_data,gD,gD,y7,if_pos (by omega),x5]
theorem wP (s k)(d:k<=s.size)(i:ZM iD s k<=9):Dg (s.extract k (k+ZM iD s k)):=by
 have f:=We iD s k d;refine⟨by simp;omega,fun j g=>?_⟩
 have a:j<ZM iD s k:=by simp at g;omega
 rw[SM s k _ j (by omega)];obtain⟨c,b,h⟩:=R9 iD (s.data.toList.drop k) j a;rw[x5]at b
 have e:ZC s (k+j)=(c.toNat:Int):=by unfold ZC;rw[gD,b];rfl
 rw[e]
 simpa[iD]using h
theorem Fc {s k f k' t}(h:k<s.size)(c:Zs s k f=.tok t k'):TH s.size t:=by
 have g:∀a b,(s.extract a b).size<=s.size:=fun a b=>by simp;omega
 unfold Zs at c
 split at c
 ·contradiction
 split at c
 ·contradiction
 split at c
 ·contradiction
 split at c
 ·split at c
  ·injection c with d i;subst d;exact⟨fun e=>by simp at e,g _ _,by simp⟩
  split at c
  ·contradiction
  injection c with d i;subst d;exact⟨fun e=>by simp at e,g _ _,by simp⟩
 split at c
 ·split at c
  ·contradiction
  rename_i j
  injection c with d i;subst d;exact⟨fun _=>wP s k (by omega) (by omega),g _ _,by simp⟩
 split at c
 ·injection c with d i;subst d;exact⟨fun e=>by simp at e,g _ _,by simp⟩
 split at c
 ·injection c with d i;subst d;exact⟨fun e=>by simp at e,g _ _,by simp⟩
 contradiction
theorem SN {s}:∀n k a c ts,s.size-k=n->(∀t,t∈c->TH s.size t)->ZK s k a c=.ok ts->(∀t,t∈ts->TH s.size t)/\(ts.getLastD ⟨3,ByteArray.empty,0⟩).sort=3/\0<ts.length:=by
 intro n
 induction n using Nat.strongRecOn with
 |ind n i=>
  intro k a c ts j d h;by_cases f:k<s.size
  ·cases g:Zs s k a with
   |skip k' l'=>
    rw[YH f g]at h;have:=X1 f g;exact i (s.size-k') (by omega) k' l' c ts rfl d h
   |tok t k'=>
    rw[WE f g]at h;have:=WD f g;refine i (s.size-k') (by omega) k' a (c++[t]) ts rfl (fun u b=>?_) h;rcases x6.1 b with b|b
    ·exact d u b
    simp at b;subst b;exact Fc f g
   |bad=>rw[Xp f g]at h;cases h
  rw[WF f]at h
  injection h with h;subst h;refine⟨fun u b=>?_,by simp,by simp⟩;rcases x6.1 b with b|b
  ·exact d u b
  simp at b;subst b;exact⟨fun e=>by simp at e,by simp,by simp⟩
end Go.Proofs.YtccikgogjfbpeaaGreatDoor
namespace Go.Proofs.YtccikgogjfbpeaaGreatDoor
open Go.RowKit
theorem D7 (a b w)(c:a.text.size<=6)(d:b.text.size=a.text.size):
  L E 317 #[US (a,b)] w fun e w'=>e=N (I J a.text.size)/\F0 w w':=by
 have f:¬(6:Int)<(a.text.size:Int):=by omega
 have g:((b.text.size:Int) !=(a.text.size:Int))=false:=by simp;omega
 unfold US;go_enter Tryz.func317,Tryz.ntmps317;go_wp2;go_ret;exact⟨rfl,Zt.alloc _⟩
theorem Ii (a b w)(f:6<a.text.size):
  L E 317 #[US (a,b)] w fun e w'=>e=Zj 5 a.line/\F0 w w':=by
 have g:(6:Int)<(a.text.size:Int):=by omega
 unfold US;go_enter Tryz.func317,Tryz.ntmps317;go_wp2_with fail;refine(YD a 5 _ _ (by rfl)).mono ?_;rintro e h ⟨c,d⟩;unfold Zj at c;subst c;exact⟨rfl,rfl,(Zt.alloc _).trans d⟩
theorem Jc (a b w)(f:a.text.size<=6)(g:b.text.size≠a.text.size):
  L E 317 #[US (a,b)] w fun e w'=>e=Zj 5 b.line/\F0 w w':=by
 have h:¬(6:Int)<(a.text.size:Int):=by omega
 have i:((b.text.size:Int) !=(a.text.size:Int))=true:=by simp;omega
 unfold US;go_enter Tryz.func317,Tryz.ntmps317;go_wp2_with fail;refine(YD b 5 _ _ (by rfl)).mono ?_;rintro e j ⟨c,d⟩;unfold Zj at c;subst c;exact⟨rfl,rfl,(Zt.alloc _).trans d⟩
def QE (x y:Nat):M:=y9 #[I J x,I J y]
def VL (x y a:Nat)(e:Ending):Prop:=if x<=y then e=N (QE x y)else e=Zj 5 a
theorem VL.ok {x y a e}(h:x<=y):VL x y a e↔e=N (QE x y):=by unfold VL;rw[if_pos h]
theorem VL.bad {x y a e}(h:¬x<=y):VL x y a e↔e=Zj 5 a:=by unfold VL;rw[if_neg h]
theorem Ij (a b w)(ha:Dg a.text)(hb:Dg b.text):
  L E 320 #[US (a,b)] w fun e w'=>VL (Zd a) (Zd b) b.line e/\F0 w w':=by
 have HA:D (∀W,L E 313 #[y9 #[I J a.sort,Y a.text,I J a.line]] W fun e w'=>e=N (I J (Zd a))/\F0 W w'):=fun W=>Ri a W ha
 have P:D (∀W,L E 313 #[y9 #[I J b.sort,Y b.text,I J b.line]] W fun e w'=>e=N (I J (Zd b))/\F0 W w'):=fun W=>Ri b W hb
 clear ha hb;generalize Zd a=x at*;generalize Zd b=y at*;unfold US;go_enter Tryz.func320,Tryz.ntmps320;go_wp2_with fail;obtain⟨Q,c,R⟩:=SA w (G #[I J a.sort,Y a.text,I J a.line,I J b.sort,Y b.text,I J b.line] 293) (G #[I J 0,I J 0] 118);generalize(w.alloc _).alloc _=t at*
 go_cut [3] (fun s wc=>∃X,s=y5 (O ⟨X,0,Z⟩)/\D (wc.heap[X]?=O (G #[I J x,I J y] 118))/\D (F0 t wc))
 case first=>
  have b0:=Zc c.o 0;have b1:=Zc c.o 1;have b2:=Zc c.o 2;have b3:=Zc c.o 3;have b4:=Zc c.o 4;have b5:=Zc c.o 5;refine wp_region_held_drew (S:=fun w'=>F0 t w') (by kernel_rfl) Zt.drew (fun f=>?_);generalize t.drew=T at*;clear b0 b1 b2 b3 b4 b5;refine UP 0 (v:=?v0) ?y0 f ?r0
  case y0=>intro w' h;have g0:=Zc (h.whole c.o) 0;have g1:=Zc (h.whole c.o) 1;have g2:=Zc (h.whole c.o) 2;have g3:=Zc (h.whole c.o) 3;have U:=Zc (h.whole c.o) 4;have V:=Zc (h.whole c.o) 5;clear h;go_simp;with_reducible rfl
  go_frame;refine UP 1 (v:=?v1) ?y1 f ?r1
  case y1=>intro w' h;have g0:=Zc (h.whole c.o) 0;have g1:=Zc (h.whole c.o) 1;have g2:=Zc (h.whole c.o) 2;have g3:=Zc (h.whole c.o) 3;have U:=Zc (h.whole c.o) 4;have V:=Zc (h.whole c.o) 5;clear h;go_simp;with_reducible rfl
  go_frame;refine UP 3 (v:=?v3) ?y3 f ?r3
  case y3=>intro w' h;have g0:=Zc (h.whole c.o) 0;have g1:=Zc (h.whole c.o) 1;have g2:=Zc (h.whole c.o) 2;have g3:=Zc (h.whole c.o) 3;have U:=Zc (h.whole c.o) 4;have V:=Zc (h.whole c.o) 5;clear h;go_simp;with_reducible rfl
  go_frame;refine UP 4 (v:=?v4) ?y4 f ?r4
  case y4=>intro w' h;have g0:=Zc (h.whole c.o) 0;have g1:=Zc (h.whole c.o) 1;have g2:=Zc (h.whole c.o) 2;have g3:=Zc (h.whole c.o) 3;have U:=Zc (h.whole c.o) 4;have V:=Zc (h.whole c.o) 5;clear h;go_simp;with_reducible rfl
  go_frame;refine Xz [2,7] ?_;refine Zb rfl (fun K g=>?_) ?_
  ·rw[if_pos (by rfl)]
   go_simp;refine(HA.o _).mono ?_;rintro e w1 ⟨rfl,l⟩;have d:=f.trans l;refine g.out _ _ d (fun f=>?_);clear g K d l
   try go_frame
   refine Xz [5,7] ?_;refine Zb rfl (fun K g=>?_) ?_
   ·rw[if_pos (by rfl)]
    go_simp;refine(P.o _).mono ?_;rintro e w2 ⟨rfl,l⟩;have d:=f.trans l;refine g.out _ _ d (fun f=>?_);clear g K d l
    try go_frame
    refine ZX 6 f ?_;go_frame;refine Vv 7 (fun K g=>?_);go_simp;obtain⟨X,n⟩:∃X,X=w2.heap.size:=⟨_,rfl⟩
    have u:t.heap.size<=X:=by rw[n];exact f.size
    have j:D ((w2.alloc (G #[I J 0,I J 0] 118)).heap[X]?=O (G #[I J 0,I J 0] 118)):=by rw[n];exact aN _ _
    have d:=f.alloc (G #[I J 0,I J 0] 118);rw[<-n];refine g.out _ _ d (fun f=>?_);clear g K d
    try go_frame
    clear n;generalize z:w2.alloc _=q3 at*;clear z;have s0:=Zc j.o 0;have s1:=Zc j.o 1;have sf:=bF j.o;refine Vv 8 (fun K g=>?_);go_simp;have B:Fr (fun k=>k=X) q3 ((q3.setCell ⟨X,0,Z⟩ (I J x)).setCell ⟨X,1,Z⟩ (I J y)):=((Fr.refl (fun k=>k=X) _).setCell (p:=⟨X,0,Z⟩) (A rfl) _).setCell (p:=⟨X,1,Z⟩) (A rfl) _;have m:=f.monoNew B (fun k H=>y2 (by omega));have i:D (((q3.setCell ⟨X,0,Z⟩ (I J x)).setCell ⟨X,1,Z⟩ (I J y)).heap[X]?=O (G #[I J x,I J y] 118)):=Yl (Yl j.o 0 _) 1 _;refine g.out _ _ m (fun f=>?_);clear g K
    try go_frame
    refine wpAnyH_done (by kernel_rfl) ?_ _;go_wp2_with fail;go_meet
    exact⟨X,rfl,i.o,m⟩
   refine Zb rfl (fun K g=>?_) y8;rw[if_pos (by rfl)];go_simp;obtain⟨X,n⟩:∃X,X=w1.heap.size:=⟨_,rfl⟩
   have u:t.heap.size<=X:=by rw[n];exact f.size
   have j:D ((w1.alloc (G #[I J 0,I J 0] 118)).heap[X]?=O (G #[I J 0,I J 0] 118)):=by rw[n];exact aN _ _
   have d:=f.alloc (G #[I J 0,I J 0] 118);rw[<-n];refine g.out _ _ d (fun f=>?_);clear g K d
   try go_frame
   clear n;generalize z:w1.alloc _=q5 at*;clear z;refine Vv 5 (fun K g=>?_);go_simp;refine(P.o _).mono ?_;rintro e w6 ⟨rfl,l⟩;have d:=f.trans l;have i:=Za (l.whole j.o);clear j;have j:=i;clear i;refine g.out _ _ d (fun f=>?_);clear g K d l
   try go_frame
   refine ZX 6 f ?_;go_frame;have s0:=Zc j.o 0;have s1:=Zc j.o 1;have sf:=bF j.o;refine Vv 8 (fun K g=>?_);go_simp;have B:Fr (fun k=>k=X) w6 ((w6.setCell ⟨X,0,Z⟩ (I J x)).setCell ⟨X,1,Z⟩ (I J y)):=((Fr.refl (fun k=>k=X) _).setCell (p:=⟨X,0,Z⟩) (A rfl) _).setCell (p:=⟨X,1,Z⟩) (A rfl) _;have m:=f.monoNew B (fun k H=>y2 (by omega));have i:D (((w6.setCell ⟨X,0,Z⟩ (I J x)).setCell ⟨X,1,Z⟩ (I J y)).heap[X]?=O (G #[I J x,I J y] 118)):=Yl (Yl j.o 0 _) 1 _;refine g.out _ _ m (fun f=>?_);clear g K
   try go_frame
   refine wpAnyH_done (by kernel_rfl) ?_ _;go_wp2_with fail;go_meet
   exact⟨X,rfl,i.o,m⟩
  refine Zb rfl (fun K g=>?_) y8;rw[if_pos (by rfl)];go_simp;obtain⟨X,n⟩:∃X,X=T.heap.size:=⟨_,rfl⟩
  have u:t.heap.size<=X:=by rw[n];exact f.size
  have j:D ((T.alloc (G #[I J 0,I J 0] 118)).heap[X]?=O (G #[I J 0,I J 0] 118)):=by rw[n];exact aN _ _
  have d:=f.alloc (G #[I J 0,I J 0] 118);rw[<-n];refine g.out _ _ d (fun f=>?_);clear g K d
  try go_frame
  clear n;generalize z:T.alloc _=q8 at*;clear z;refine Vv 2 (fun K g=>?_);go_simp;refine(HA.o _).mono ?_;rintro e w9 ⟨rfl,l⟩;have d:=f.trans l;have i:=Za (l.whole j.o);clear j;have j:=i;clear i;refine g.out _ _ d (fun f=>?_);clear g K d l
  try go_frame
  refine Vv 5 (fun K g=>?_);go_simp;refine(P.o _).mono ?_;rintro e r ⟨rfl,l⟩;have d:=f.trans l;have i:=Za (l.whole j.o);clear j;have j:=i;clear i;refine g.out _ _ d (fun f=>?_);clear g K d l
  try go_frame
  refine ZX 6 f ?_;go_frame;have s0:=Zc j.o 0;have s1:=Zc j.o 1;have sf:=bF j.o;refine Vv 8 (fun K g=>?_);go_simp;have B:Fr (fun k=>k=X) r ((r.setCell ⟨X,0,Z⟩ (I J x)).setCell ⟨X,1,Z⟩ (I J y)):=((Fr.refl (fun k=>k=X) _).setCell (p:=⟨X,0,Z⟩) (A rfl) _).setCell (p:=⟨X,1,Z⟩) (A rfl) _;have m:=f.monoNew B (fun k H=>y2 (by omega));have i:D (((r.setCell ⟨X,0,Z⟩ (I J x)).setCell ⟨X,1,Z⟩ (I J y)).heap[X]?=O (G #[I J x,I J y] 118)):=Yl (Yl j.o 0 _) 1 _;refine g.out _ _ m (fun f=>?_);clear g K
  try go_frame
  refine wpAnyH_done (by kernel_rfl) ?_ _;go_wp2_with fail;go_meet
  exact⟨X,rfl,i.o,m⟩
 obtain⟨X,rfl,j,HF⟩:=hcut;have x0:=Zc j.o 0;have x1:=Zc j.o 1;have q:=HF.o.whole c.o;have M:=HF.o.whole R.o;have b3:=Zc q 3;have b4:=Zc q 4;have b5:=Zc q 5;have r0:=Zc M 0;have r1:=Zc M 1;have rf:=bF M;have C:=Za (Q.o.trans HF.o);clear q M;by_cases F:x<=y
 ·have hn:¬(y:Int)<(x:Int):=by omega
  go_wp2;have hW:Fr (fun k=>w.heap.size<=k) wc ((wc.setCell ⟨w.heap.size+1,0,Z⟩ (I J x)).setCell ⟨w.heap.size+1,1,Z⟩ (I J y)):=((Fr.refl (fun k=>w.heap.size<=k) wc).setCell (p:=⟨w.heap.size+1,0,Z⟩) (A (x2 _)) _).setCell (p:=⟨w.heap.size+1,1,Z⟩) (A (x2 _)) _;exact bodyPost_ret (v:=QE x y) (by simp[results,Tryz.results320,go_sem,QE, *]) rfl ⟨(VL.ok F).2 rfl,C.o.monoNew hW (fun k H=>y2 H)⟩
 have hn:(y:Int)<(x:Int):=by omega
 go_wp2_with fail;refine(YD b 5 _ _ (by rfl)).mono ?_;rintro e w3 ⟨he,l⟩;unfold Zj at he;subst he;exact⟨rfl,(VL.bad F).2 rfl,C.o.trans l⟩
end Go.Proofs.YtccikgogjfbpeaaGreatDoor
namespace Go.Proofs.YtccikgogjfbpeaaGreatDoor
open Go.RowKit
theorem Jd (a b w)(l:Int)(t:Dg a.text)(u:Dg b.text)(z:l=(1000000000:Nat)):
  L E 322 #[US (a,b),I J l] w fun e w'=>VL (Zd a) (Zd b) b.line e/\F0 w w':=by
 have U:=P9 a t;have V:=P9 b u
 have X:D (∀W,L E 316 #[y9 #[I J a.sort,Y a.text,I J a.line],I J l] W fun e w'=>e=N (I J (Zd a))/\F0 W w'):=fun W=>Rj a W 1000000000 l t (by omega) z
 have HB:D (∀W,L E 316 #[y9 #[I J b.sort,Y b.text,I J b.line],I J l] W fun e w'=>e=N (I J (Zd b))/\F0 W w'):=fun W=>Rj b W 1000000000 l u (by omega) z
 have HC:D (∀W,L E 320 #[y9 #[I J a.sort,Y a.text,I J a.line,I J b.sort,Y b.text,I J b.line]] W fun e w'=>VL (Zd a) (Zd b) b.line e/\F0 W w'):=fun W=>Ij a b W t u
 clear t u z U V;generalize Zd a=x at*;generalize Zd b=y at*;unfold US;go_enter Tryz.func322,Tryz.ntmps322;go_wp2_with fail;obtain⟨m,n,q⟩:=SA w (G #[I J a.sort,Y a.text,I J a.line,I J b.sort,Y b.text,I J b.line] 293) (G #[I J 0,I J 0] 118);refine(X.o _).mono ?_;rintro e w1 ⟨rfl,f⟩;have c:=f.whole n.o;have r:=f.whole q.o;have B:=Za (m.o.trans f);clear n q m f;have C:=bC c 0 _ rfl;have F:=bC c 1 _ rfl;have H:=bC c 2 _ rfl;have K:=bC c 3 _ rfl;have M:=bC c 4 _ rfl;have O:=bC c 5 _ rfl;have i:=Za c;have j:=Za r;clear c r;go_wp2_with fail;refine(HB.o _).mono ?_;rintro e w2 ⟨rfl,f⟩;have d:=f.whole i.o;have P:=Za (f.whole j.o);have s:=Za (B.o.trans f);clear f C F H K M O i j;have C:=bC d 0 _ rfl;have F:=bC d 1 _ rfl;have H:=bC d 2 _ rfl;have K:=bC d 3 _ rfl;have M:=bC d 4 _ rfl;have O:=bC d 5 _ rfl;clear d;go_wp2_with fail;refine(HC.o _).mono ?_;rintro e Q ⟨R,f⟩;by_cases g:x<=y
 ·obtain rfl:=(VL.ok g).1 R
  have h:=f.whole P.o;have S:=Za (s.o.trans f);have r0:=Zc h 0;have r1:=Zc h 1;have rf:=bF h;clear R f h C F H K M O;simp only[QE];go_wp2;have hW:Fr (fun k=>w.heap.size<=k) Q ((Q.setCell ⟨w.heap.size+1,0,Z⟩ (I J x)).setCell ⟨w.heap.size+1,1,Z⟩ (I J y)):=((Fr.refl (fun k=>w.heap.size<=k) Q).setCell (p:=⟨w.heap.size+1,0,Z⟩) (A (x2 _)) _).setCell (p:=⟨w.heap.size+1,1,Z⟩) (A (x2 _)) _;exact bodyPost_ret (v:=QE x y) (by simp[results,Tryz.results322,go_sem,QE, *]) rfl ⟨(VL.ok g).2 rfl,S.o.monoNew hW (fun k hk=>y2 hk)⟩
 have T:=(VL.bad g).1 R
 unfold Zj at T;subst T;exact⟨rfl,(VL.bad g).2 rfl,s.o.trans f⟩
def Zp (a:Nat):Nat->List Tk->Except (Nat×Nat) (List Nat)
 |_,[]=>.ok []
 |i,t::r=>if i=4 then .error (6,t.line)else if a<Zd t then .error (5,t.line)else
  match Zp a (i+1) r with
  | .error f=>.error f
  | .ok ns=>.ok (Zd t::ns)
def Zg (ns:List Nat):List M:=ns.map fun n:Nat=>Value.int J (n:Int)
theorem Y2:(E.info? 3).map (fun i=>(i.zero,i.size,i.bytes))=O (O (I J 0),1,8):=by kernel_rfl
def Wu (r:Except (Nat×Nat) (List Nat))(w:R)(e:Ending)(w':R):Prop:=
 match r with
 | .ok ns=>(∃v,e=N v/\w'.ownsRow w.heap.size 3 1 v ns.length (Zg ns))/\F0 w w'
 | .error f=>e=Zj f.1 f.2/\F0 w w'
theorem Wu.ok {r w w' e ns}(h:r=.ok ns):Wu r w e w'↔(∃v,e=N v/\w'.ownsRow w.heap.size 3 1 v ns.length (Zg ns))/\F0 w w':=by subst h;exact Iff.rfl
theorem Wu.err {r w w' e f}(h:r=.error f):Wu r w e w'↔e=Zj f.1 f.2/\F0 w w':=by subst h;exact Iff.rfl
def XI (a:Nat)(b:List Nat)(i:Nat)(l:List Tk):Except (Nat×Nat) (List Nat):=
 match Zp a i l with
 | .error f=>.error f
 | .ok ns=>.ok (b++ns)
theorem Je (a b i):XI a b i []=.ok b:=by simp[XI,Zp]
theorem Lr {a b t r}:XI a b 4 (t::r)=.error (6,t.line):=by simp[XI,Zp]
theorem Jf {a b i t r}(h:i≠4)(c:a<Zd t):XI a b i (t::r)=.error (5,t.line):=by simp[XI,Zp,h,c]
theorem Ik {a b i t r}(h:i≠4)(c:¬a<Zd t):XI a b i (t::r)=XI a (b++[Zd t]) (i+1) r:=by
 simp only[XI,Zp,if_neg h,if_neg c]
 cases Zp a (i+1) r<;>simp
theorem O0 {ts:List Tk}{j t}(b:ts[j]?=O t):ts.drop j=t::ts.drop (j+1):=by
 obtain⟨a,c⟩:=iG.1 b;rw[dC a,c]
theorem XU (ns)(n:Nat):Zg (ns++[n])=Zg ns++[I J n]:=by simp[Zg]
theorem Pt:∀(ts:List Tk)(j:Nat)(t:Tk),ts[j]?=O t->(Yr ts)[j*3]?=O (I J t.sort)/\(Yr ts)[j*3+1]?=O (Y t.text)/\(Yr ts)[j*3+2]?=O (I J t.line)
 |[],j,t,h=>by simp at h
 |x::r,0,t,h=>by simp at h;subst h;exact⟨rfl,rfl,rfl⟩
 |x::r,j+1,t,h=>by
  have:=Pt r j t (by simpa using h)
  have e:Yr (x::r)=OY x++Yr r:=by simp[Yr]
  have l:(OY x).length=3:=rfl;rw[e];refine⟨?_,?_,?_⟩
  ·rw[aR (by omega),l,show(j+1)*3-3=j*3 from by omega];exact this.1
  ·rw[aR (by omega),l,show(j+1)*3+1-3=j*3+1 from by omega];exact this.2.1
  rw[aR (by omega),l,show(j+1)*3+2-3=j*3+2 from by omega];exact this.2.2
theorem Oa {w:R}{base v ts}(h:w.ownsRow base 263 3 v ts.length (Yr ts))(f:0<ts.length):
  ∃g cap,v=U (O ⟨g,0,Z⟩) ts.length cap/\base<=g/\g<w.heap.size/\∀j t,ts[j]?=O t->w.cell? ⟨g,j*3,Z⟩=O (I J t.sort)/\w.cell? ⟨g,j*3+1,Z⟩=O (Y t.text)/\w.cell? ⟨g,j*3+2,Z⟩=O (I J t.line):=by
 obtain⟨g,cap,rfl,i,l⟩:=h.form f;refine⟨g,cap,rfl,i,l,fun j t m=>?_⟩;obtain⟨a,b,c⟩:=Pt ts j t m
 have d:∀k,(⟨g,0,Z⟩:Addr).add k=⟨g,k,Z⟩:=fun k=>by unfold Addr.add;split<;>simp_all
 have e:=h.cells (g:=g) rfl;exact⟨by have:=e _ _ a;rwa [d]at this,by have:=e _ _ b;rwa [d]at this,by have:=e _ _ c;rwa [d]at this⟩
theorem Ob (w base v ts)(a:Nat)(i1:Int)(h:w.ownsRow base 263 3 v ts.length (Yr ts))(K:∀t,t∈ts->Dg t.text)(c0:ts.length<=4000)(e1:i1=a):
  L E 321 #[v,I J i1] w (Wu (Zp a 0 ts) w):=by
 subst e1
 have HM:D (Zp a 0 ts=XI a [] 0 ts):=by show _=_;unfold XI;cases Zp a 0 ts<;>simp
 obtain⟨ii,hi,M,P,R⟩:=info_parts Y2;by_cases hn:0<ts.length
 ·obtain⟨g,cap,rfl,hb,S,d⟩:=Oa h hn
  have HR:=Za d;have HD:=Za K;clear h d K hn;go_enter Tryz.func321,Tryz.ntmps321;go_wp2_with fail
  go_loopg [5,6,7,10] ts.length (fun m o _ _ c wr=>∃j b,j<=ts.length/\m=ts.length-j/\c=I J j/\D (wr.ownsRow w.heap.size 3 1 o b.length (Zg b))/\D (b.length=j)/\D (F0 w wr)/\D (Zp a 0 ts=XI a b j (ts.drop j)))
  case atStart=>exact⟨0,[],y6 _,rfl,rfl,oZ _ _ _ _,rfl,Zt,HM.o⟩
  obtain⟨j,b,hj,rfl,rfl,HO,HA,q,B⟩:=hrel;by_cases T:j<ts.length
  ·obtain⟨t,F⟩:∃t,ts[j]?=O t:=⟨_,gE T⟩
   have HT:=Za F;obtain⟨r0,r1,r2⟩:=HR.o j t F;rw[<-q.o.cell (p:=⟨g,j*3,Z⟩) S (by simp)]at r0;rw[<-q.o.cell (p:=⟨g,j*3+1,Z⟩) S (by simp)]at r1;rw[<-q.o.cell (p:=⟨g,j*3+2,Z⟩) S (by simp)]at r2
   have V:(j:Int)<(ts.length:Int):=by omega
   have f:D (ts.drop j=t::ts.drop (j+1)):=O0 F;clear F;by_cases h4:j=4
   ·have W:((j:Int)==4)=true:=by simp;omega
    have G:=Za h4;clear h4;go_wp2_with fail;refine(YD t 6 _ _ (by rfl)).mono ?_;rintro e s ⟨u,r⟩;unfold Zj at u;subst u;exact⟨rfl,(Wu.err (by rw[B.o,f.o,G.o];exact Lr)).2 ⟨rfl,(q.o.alloc _).trans r⟩⟩
   have W:((j:Int)==4)=false:=by simp;omega
   have G:=Za h4;clear h4;by_cases H:a<Zd t
   ·have x:=Za H
    clear H;go_wp2_with fail;refine(QD t _ a _ (HD.o t (mG HT.o)) x.o (by rfl)).mono ?_;rintro e s ⟨u,r⟩;unfold Zj at u;subst u;exact⟨rfl,(Wu.err (by rw[B.o,f.o];exact Jf G.o x.o)).2 ⟨rfl,(q.o.alloc _).trans r⟩⟩
   have x:=Za H
   clear H;go_wp2_with fail;refine(Rj t _ a _ (HD.o t (mG HT.o)) (Nat.le_of_not_lt x.o) (by rfl)).mono ?_;rintro e s ⟨rfl,r⟩;have y:D (F0 w s):=(q.o.alloc _).trans r;have z:D (s.ownsRow w.heap.size 3 1 u5 b.length (Zg b)):=oF (HO.o.alloc _) r;have X:D (Zp a 0 ts=XI a (b++[Zd t]) (j+1) (ts.drop (j+1))):=B.o.trans (by rw[f.o];exact Ik G.o x.o)
   have d0:b.length<=ts.length:=by have:=HA.o;omega
   have f0:=y.o.size;clear r r0 r1 r2;generalize Zd t=n at*
   go_wp2_with (at_builtin;refine wpList_append_lies _ rfl (.tmp 19) (.tmp 23) 25 rfl w.heap.size 3 ii _ 1 8 Tryz.underlying25 hi M P R rfl (by decide) u5 b.length (Zg b) rfl ?h1 ⟨s.heap.size,0,Z⟩ 1 1 [I J n] rfl rfl ?h2 ?h3 (by decide) ?h4 ?h5 ?h6 _ rfl ?_)
   case h1=>exact z.o.alloc _
   case h2=>exact Q (aN s _)
   case h3=>simp[z1]
   case h4=>unfold maxLen;omega
   case h5=>omega
   case h6=>simp;omega
   intro g2 e0 w4 l i _ _
   have d:∀k,u5.ownBlock=O k->w.heap.size<=k:=fun k Y=>(z.o.lt k Y).1
   have a0:=Za l;have b0:D (F0 w w4):=(y.o.alloc _).grown i (fun k Y=>y2 (d k Y));clear i l d;go_wp2;go_roundg (ts.length-(j+1))
   case measure=>omega
   refine⟨j+1,b++[n],by omega,rfl,by go_num,?_,?_,b0,X⟩
   ·show x3 _ _ _ _ _ _ _
    rw[XU,lA];exact a0.o
   show _=_
   have:=HA.o;simp;omega
  have V:¬(j:Int)<(ts.length:Int):=by omega
  have A:D (Wu (Zp a 0 ts) w (N u5) wr):=by
   show Wu _ _ _ _
   refine(Wu.ok (ns:=b) ?_).2 ⟨⟨u5,rfl,HO.o⟩,q.o⟩;rw[B.o,dL (by omega)];exact Je _ _ _
  go_wp2;go_ret;exact A.o
 have hz:ts=[]:=C (by omega)
 subst hz;rcases h.2 with⟨rfl,_⟩|⟨g,cap,g0,rfl,_⟩
 all_goals
  clear h K;go_enter Tryz.func321,Tryz.ntmps321;go_wp2_with fail
  go_loopg [5,6,7,10] 1 (fun m o _ _ c wr=>m=1/\o=U Z 0 0/\c=I J 0/\wr=w)
  case atStart=>exact⟨rfl,rfl,rfl,rfl⟩
  obtain⟨rfl,rfl,rfl,rfl⟩:=hrel;go_wp2;go_ret;exact(Wu.ok (ns:=[]) rfl).2 ⟨⟨_,rfl,oZ _ _ _ _⟩,Zt⟩
end Go.Proofs.YtccikgogjfbpeaaGreatDoor
namespace Go.Proofs.YtccikgogjfbpeaaGreatDoor
open Go.RowKit
structure Zf where
 name:ByteArray
 base:Nat
 rate:Nat
def T7 (r:Zf):List M:=[Y r.name,I J r.base,I J r.rate]
def Yh (rs:List Zf):List M:=rs.flatMap T7
theorem Ns (rs r):Yh (rs++[r])=Yh rs++T7 r:=by simp[Yh]
theorem TI:∀(rs:List Zf)(j:Nat)(r:Zf),rs[j]?=O r->(Yh rs)[j*3]?=O (Y r.name)/\(Yh rs)[j*3+1]?=O (I J r.base)/\(Yh rs)[j*3+2]?=O (I J r.rate)
 |[],j,t,h=>by simp at h
 |x::r,0,t,h=>by simp at h;subst h;exact⟨rfl,rfl,rfl⟩
 |x::r,j+1,t,h=>by
  have:=TI r j t (by simpa using h)
  have e:Yh (x::r)=T7 x++Yh r:=by simp[Yh]
  have l:(T7 x).length=3:=rfl;rw[e];refine⟨?_,?_,?_⟩
  ·rw[aR (by omega),l,show(j+1)*3-3=j*3 from by omega];exact this.1
  ·rw[aR (by omega),l,show(j+1)*3+1-3=j*3+1 from by omega];exact this.2.1
  rw[aR (by omega),l,show(j+1)*3+2-3=j*3+2 from by omega];exact this.2.2
theorem UV {w:R}{base v rs}(h:w.ownsRow base 148 3 v rs.length (Yh rs))(f:0<rs.length):
  ∃g cap,v=U (O ⟨g,0,Z⟩) rs.length cap/\base<=g/\g<w.heap.size/\∀j r,rs[j]?=O r->w.cell? ⟨g,j*3,Z⟩=O (Y r.name)/\w.cell? ⟨g,j*3+1,Z⟩=O (I J r.base)/\w.cell? ⟨g,j*3+2,Z⟩=O (I J r.rate):=by
 obtain⟨g,cap,rfl,i,l⟩:=h.form f;refine⟨g,cap,rfl,i,l,fun j t m=>?_⟩;obtain⟨a,b,c⟩:=TI rs j t m
 have d:∀k,(⟨g,0,Z⟩:Addr).add k=⟨g,k,Z⟩:=fun k=>by unfold Addr.add;split<;>simp_all
 have e:=h.cells (g:=g) rfl;exact⟨by have:=e _ _ a;rwa [d]at this,by have:=e _ _ b;rwa [d]at this,by have:=e _ _ c;rwa [d]at this⟩
def Zk (a:ByteArray):Nat->List Zf->Int
 |_,[]=> -1
 |i,r::rs=>if(r.name.toList==a.toList)=true then(i:Int)else Zk a (i+1) rs
theorem Nt (w B base v rs b)(P:w.cell? ⟨B,0,Z⟩=O v)(h:w.ownsRow base 148 3 v rs.length (Yh rs))(t:rs.length<=6):
  L E 315 #[y5 (O ⟨B,0,Z⟩),Y b] w fun e w'=>e=N (I J (Zk b 0 rs))/\F0 w w':=by
 by_cases y:0<rs.length
 ·obtain⟨g,cap,rfl,Q,l,f⟩:=UV h y
  have z:=Za f;go_enter Tryz.func315,Tryz.ntmps315;go_wp2_with fail
  go_loopg [5,6,12] rs.length (fun m _ _ c wr=>∃j,j<=rs.length/\m=rs.length-j/\c=I J j/\D (F0 w wr)/\D (Zk b 0 rs=Zk b j (rs.drop j)))
  case atStart=>exact⟨0,y6 _,rfl,rfl,Zt,rfl⟩
  obtain⟨j,R,rfl,rfl,d,n⟩:=hrel;by_cases q:j<rs.length
  ·obtain⟨r,u⟩:∃r,rs[j]?=O r:=⟨_,gE q⟩
   obtain⟨A,F,G⟩:=z.o j r u;rw[<-d.o.cell (p:=⟨g,j*3,Z⟩) l (by simp)]at A;rw[<-d.o.cell (p:=⟨g,j*3+1,Z⟩) l (by simp)]at F;rw[<-d.o.cell (p:=⟨g,j*3+2,Z⟩) l (by simp)]at G
   have s:(j:Int)<(rs.length:Int):=by omega
   have a:D (rs.drop j=r::rs.drop (j+1)):=by
    obtain⟨i,H⟩:=iG.1 u
    show _=_
    rw[dC i,H]
   cases x:(r.name.toList==b.toList)with
   |true=>
    have k:D (Zk b 0 rs=(j:Int)):=by show _=_;rw[n.o,a.o];simp only[Zk];rw[if_pos x]
    go_wp2;go_ret;exact⟨ZO k.o.symm,d.o.alloc _⟩
   |false=>
    have k:D (Zk b 0 rs=Zk b (j+1) (rs.drop (j+1))):=by show _=_;rw[n.o,a.o];simp only[Zk];rw[if_neg (by simp[x])]
    go_wp2;go_roundg (rs.length-(j+1))
    case measure=>omega
    exact⟨j+1,by omega,rfl,by go_num,d.o.alloc _,k⟩
  have s:¬(j:Int)<(rs.length:Int):=by omega
  have k:D (Zk b 0 rs= -1):=by show _=_;rw[n.o,dL (by omega)];rfl
  go_wp2;go_ret;exact⟨ZO k.o.symm,d.o⟩
 have K:rs=[]:=C (by omega)
 subst K;rcases h.2 with⟨rfl,_⟩|⟨g,cap,M,rfl,_⟩
 all_goals
  go_enter Tryz.func315,Tryz.ntmps315;go_wp2_with fail
  go_loopg [5,6,12] 1 (fun m _ _ c wr=>m=1/\c=I J 0/\wr=w)
  case atStart=>exact⟨rfl,rfl,rfl⟩
  obtain⟨rfl,rfl,rfl⟩:=hrel;go_wp2;go_ret;exact⟨rfl,Zt⟩
end Go.Proofs.YtccikgogjfbpeaaGreatDoor
namespace Go.Proofs.YtccikgogjfbpeaaGreatDoor
open Go.RowKit
theorem Sp (a:ByteArray):∀(rs:List Zf)(i:Nat),Zk a i rs= -1\/((i:Int)<=Zk a i rs/\Zk a i rs<(i:Int)+rs.length)
 |[],_=>.inl rfl
 |r::rs,i=>by
  simp only[Zk]
  split
  ·right;simp;omega
  rcases Sp a rs (i+1)with h|h
  ·exact .inl h
  right
  simp at h ⊢;omega
def Zw (rs:List Zf):Nat->List Tk->Except (Nat×Nat) (List Nat)
 |_,[]=>.ok []
 |i,t::r=>if i=4 then .error (6,t.line)else if Zk t.text 0 rs<0 then .error (4,t.line)else
  match Zw rs (i+1) r with
  | .error f=>.error f
  | .ok ns=>.ok ((Zk t.text 0 rs).toNat::ns)
def WW (rs:List Zf)(a:List Nat)(i:Nat)(l:List Tk):Except (Nat×Nat) (List Nat):=
 match Zw rs i l with
 | .error f=>.error f
 | .ok ns=>.ok (a++ns)
theorem Il (rs a i):WW rs a i []=.ok a:=by simp[WW,Zw]
theorem Jg {rs a t r}:WW rs a 4 (t::r)=.error (6,t.line):=by simp[WW,Zw]
theorem Im {rs a i t r}(h:i≠4)(b:Zk t.text 0 rs<0):WW rs a i (t::r)=.error (4,t.line):=by simp[WW,Zw,h,b]
theorem Fd {rs a i t r}(h:i≠4)(b:¬Zk t.text 0 rs<0):WW rs a i (t::r)=WW rs (a++[(Zk t.text 0 rs).toNat]) (i+1) r:=by
 simp only[WW,Zw,if_neg h,if_neg b]
 cases Zw rs (i+1) r<;>simp
theorem Fe (w B base f v vr ts rs)(hB:w.cell? ⟨B,0,Z⟩=O vr)(z:w.ownsRow f 148 3 vr rs.length (Yh rs))(s:rs.length<=6)(h:w.ownsRow base 263 3 v ts.length (Yr ts))(g0:ts.length<=4000):
  L E 323 #[y5 (O ⟨B,0,Z⟩),v] w (Wu (Zw rs 0 ts) w):=by
 have HM:D (Zw rs 0 ts=WW rs [] 0 ts):=by show _=_;unfold WW;cases Zw rs 0 ts<;>simp
 have A:B<w.heap.size:=bL w _ hB
 have HP:D (∀W V,F0 w W->L E 315 #[y5 (O ⟨B,0,Z⟩),Y V] W fun e w'=>e=N (I J (Zk V 0 rs))/\F0 W w'):=
  fun W V i=>Nt W B f vr rs V (by rw[i.cell (p:=⟨B,0,Z⟩) A];exact hB) (oF z i) s
 have H6:=Za s;clear hB z A s;obtain⟨ii,hi,a0,b0,c0⟩:=info_parts Y2;by_cases y:0<ts.length
 ·obtain⟨g,cap,rfl,hb,hl,b⟩:=Oa h y
  have HR:=Za b;clear h b y;go_enter Tryz.func323,Tryz.ntmps323;go_wp2_with fail
  go_loopg [5,6,7,8,11] ts.length (fun m o _ _ _ c wr=>∃j a,j<=ts.length/\m=ts.length-j/\c=I J j/\D (wr.ownsRow w.heap.size 3 1 o a.length (Zg a))/\D (a.length=j)/\D (F0 w wr)/\D (Zw rs 0 ts=WW rs a j (ts.drop j)))
  case atStart=>exact⟨0,[],y6 _,rfl,rfl,oZ _ _ _ _,rfl,Zt,HM.o⟩
  obtain⟨j,a,hj,rfl,rfl,HO,HA,u,X⟩:=hrel;by_cases d0:j<ts.length
  ·obtain⟨t,ht⟩:∃t,ts[j]?=O t:=⟨_,gE d0⟩
   obtain⟨r0,r1,r2⟩:=HR.o j t ht;rw[<-u.o.cell (p:=⟨g,j*3,Z⟩) hl (by simp)]at r0;rw[<-u.o.cell (p:=⟨g,j*3+1,Z⟩) hl (by simp)]at r1;rw[<-u.o.cell (p:=⟨g,j*3+2,Z⟩) hl (by simp)]at r2
   have F:(j:Int)<(ts.length:Int):=by omega
   have d:D (ts.drop j=t::ts.drop (j+1)):=O0 ht;clear ht;by_cases h4:j=4
   ·have H:((j:Int)==4)=true:=by simp;omega
    have H4:=Za h4;clear h4;go_wp2_with fail;refine(YD t 6 _ _ (by rfl)).mono ?_;rintro e K ⟨M,i⟩;unfold Zj at M;subst M;exact⟨rfl,(Wu.err (by rw[X.o,d.o,H4.o];exact Jg)).2 ⟨rfl,(u.o.alloc _).trans i⟩⟩
   have H:((j:Int)==4)=false:=by simp;omega
   have H4:=Za h4;clear h4;go_wp2_with fail;refine(HP.o _ t.text (by exact u.o.alloc _)).mono ?_;rintro e K ⟨rfl,i⟩;have x:D (F0 w K):=(u.o.alloc _).trans i;have P:D (K.ownsRow w.heap.size 3 1 u5 a.length (Zg a)):=oF (HO.o.alloc _) i;have hT:=i.whole (aN wr (G #[I J t.sort,Y t.text,I J t.line] 263));clear r0 r1 r2 i;have t0:=Zc hT 0;have t1:=Zc hT 1;have t2:=Zc hT 2;clear hT;have R:=Sp t.text rs 0;by_cases hv:Zk t.text 0 rs<0
   ·have HQ:D (Zw rs 0 ts=.error (4,t.line)):=X.o.trans (by rw[d.o];exact Im H4.o hv)
    generalize Zk t.text 0 rs=q at*;clear R;go_wp2_with fail;refine(YD t 4 _ _ (by rfl)).mono ?_;rintro e w4 ⟨M,i⟩;unfold Zj at M;subst M;exact⟨rfl,(Wu.err HQ.o).2 ⟨rfl,x.o.trans i⟩⟩
   have S:D (Zw rs 0 ts=WW rs (a++[(Zk t.text 0 rs).toNat]) (j+1) (ts.drop (j+1))):=X.o.trans (by rw[d.o];exact Fd H4.o hv)
   obtain⟨n,y⟩:∃n:Nat,Zk t.text 0 rs=(n:Int):=⟨(Zk t.text 0 rs).toNat,by omega⟩
   have h0:a.length<=ts.length:=by have:=HA.o;omega
   have j0:=x.o.size;clear R t0 t1 t2 hv;rw[y,Int.toNat_natCast]at S;rw[y];clear y
   have k0:¬(n:Int)<0:=by omega
   clear H F
   go_wp2_with (at_builtin;refine wpList_append_lies _ rfl (.tmp 28) (.tmp 30) 25 rfl w.heap.size 3 ii _ 1 8 Tryz.underlying25 hi a0 b0 c0 rfl (by decide) u5 a.length (Zg a) rfl ?h1 ⟨K.heap.size,0,Z⟩ 1 1 [I J n] rfl rfl ?h2 ?h3 (by decide) ?h4 ?h5 ?h6 _ rfl ?_)
   case h1=>exact P.o.alloc _
   case h2=>exact Q (aN K _)
   case h3=>simp[z1]
   case h4=>unfold maxLen;omega
   case h5=>omega
   case h6=>simp;omega
   intro g2 i0 w4 r l _ _
   have b:∀k,u5.ownBlock=O k->w.heap.size<=k:=fun k hk=>(P.o.lt k hk).1
   have e0:=Za r;have f0:=Za ((x.o.alloc _).grown l (fun k hk=>y2 (b k hk)));clear l r b;go_wp2;go_roundg (ts.length-(j+1))
   case measure=>omega
   refine⟨j+1,a++[n],by omega,rfl,by go_num,?_,?_,f0,S⟩
   ·show x3 _ _ _ _ _ _ _
    rw[XU,lA];exact e0.o
   show _=_
   have:=HA.o;simp;omega
  have F:¬(j:Int)<(ts.length:Int):=by omega
  have T:D (Wu (Zw rs 0 ts) w (N u5) wr):=by
   show Wu _ _ _ _
   refine(Wu.ok (ns:=a) ?_).2 ⟨⟨u5,rfl,HO.o⟩,u.o⟩;rw[X.o,dL (by omega)];exact Il _ _ _
  go_wp2;go_ret;exact T.o
 have hz:ts=[]:=C (by omega)
 subst hz;rcases h.2 with⟨rfl,_⟩|⟨g,cap,l0,rfl,_⟩
 all_goals
  clear h;go_enter Tryz.func323,Tryz.ntmps323;go_wp2_with fail
  go_loopg [5,6,7,8,11] 1 (fun m o _ _ _ c wr=>m=1/\o=U Z 0 0/\c=I J 0/\wr=w)
  case atStart=>exact⟨rfl,rfl,rfl,rfl⟩
  obtain⟨rfl,rfl,rfl,rfl⟩:=hrel;go_wp2;go_ret;exact(Wu.ok (ns:=[]) rfl).2 ⟨⟨_,rfl,oZ _ _ _ _⟩,Zt⟩
end Go.Proofs.YtccikgogjfbpeaaGreatDoor
namespace Go.Proofs
open Go.Shelf
def Pu:Go.Shelf.Ren:=⟨fun|316=>153|n=>n,fun|9=>9|3=>3|4=>4|37=>50|0=>0|127=>201|5=>5|n=>n,fun|n=>n⟩
theorem Jh:LaysM.n316 E Pu:={
 mixed:=by kernel_rfl
 f316:=Tryz.func153.trans (congrArg O (by kernel_rfl))
 t0:=Tryz.underlying0
 a0:=Tryz.isAgg0
 z0:=Tryz.sizeOf0
 v0:=Tryz.zeroValue0
 t3:=Tryz.underlying3
 a3:=Tryz.isAgg3
 z3:=Tryz.sizeOf3
 v3:=Tryz.zeroValue3
 t4:=Tryz.underlying4
 a4:=Tryz.isAgg4
 z4:=Tryz.sizeOf4
 v4:=Tryz.zeroValue4
 t9:=Tryz.underlying9
 a9:=Tryz.isAgg9
 z9:=Tryz.sizeOf9
 v9:=Tryz.zeroValue9
 t37:=Tryz.underlying50
 a37:=Tryz.isAgg50
 z37:=Tryz.sizeOf50
 v37:=Tryz.zeroValue50
 t127:=Tryz.underlying201
 a127:=Tryz.isAgg201
 z127:=Tryz.sizeOf201
 v127:=Tryz.zeroValue201
 t5:=Tryz.underlying5
 a5:=Tryz.isAgg5
 z5:=Tryz.sizeOf5
 v5:=Tryz.zeroValue5
 i0:=by kernel_rfl
 i3:=by kernel_rfl
 i4:=by kernel_rfl
 i5:=by kernel_rfl
 i9:=by kernel_rfl
 i37:=by kernel_rfl
 i127:=by kernel_rfl}
namespace YtccikgogjfbpeaaGreatDoor
open Go.RowKit
theorem Ff (s w)(a:s.size<=3000):L E 153 #[Y s] w fun e w'=>e=N (Y s)/\F0 w w':=
 (Any.stringslite_Clone Jh s w (by omega)).mono fun _ _ h=>⟨h.1,Fr.of_below h.2⟩
theorem Vz (s w)(a:s.size<=3000):L E 96 #[Y s] w fun e w'=>e=N (Y s)/\F0 w w':=by
 have c:=Za (Ff s w a);clear a;go_enter Tryz.func96,Tryz.ntmps96;go_wp2_with fail;refine c.o.mono ?_;rintro e f ⟨rfl,b⟩;have d:=Za b;clear b;go_wp2;go_ret;exact⟨rfl,d.o⟩
structure Ze where
 name:ByteArray
 rank:Nat
 digits:Nat
 lo:Nat
 hi:Nat
 mcc:List Nat
 am:Option (Nat×Nat)
 cur:List Nat
 decline:Bool
 cheapest:Bool
 routes:List Nat
 ahead:Nat
def BT (base:Nat)(w:R)(r:Ze)(d:List M):Prop:=
 ∃a b c,d=[Y r.name,I J r.rank,I J r.digits,I J r.lo,I J r.hi,a,H r.am.isSome,I J (r.am.getD (0,0)).1,I J (r.am.getD (0,0)).2,b,H r.decline,H r.cheapest,c,I J r.ahead]/\
  w.ownsRow base 3 1 a r.mcc.length (Zg r.mcc)/\w.ownsRow base 3 1 b r.cur.length (Zg r.cur)/\w.ownsRow base 3 1 c r.routes.length (Zg r.routes)
def Tw (base:Nat)(w:R):List Ze->List M->Prop
 |[],xs=>xs=[]
 |r::rs,xs=>∃c a,xs=c++a/\BT base w r c/\Tw base w rs a
theorem BT.keep {base w w' r b}(h:BT base w r b)(a:∀v n c,w.ownsRow base 3 1 v n c->w'.ownsRow base 3 1 v n c):BT base w' r b:=by
 obtain⟨d,f,g,e,i,j,k⟩:=h;exact⟨d,f,g,e,a _ _ _ i,a _ _ _ j,a _ _ _ k⟩
theorem Tw.keep {base:Nat}{w w':R}(b:∀v n a,w.ownsRow base 3 1 v n a->w'.ownsRow base 3 1 v n a):∀{rs:List Ze}{a:List M},Tw base w rs a->Tw base w' rs a
 |[],_,h=>h
 |_::_,_,⟨c,rest,e,h1,h2⟩=>⟨c,rest,e,h1.keep b,Tw.keep b h2⟩
theorem Tw.snoc {base:Nat}{w:R}{r:Ze}{c:List M}(a:BT base w r c):∀{rs:List Ze}{b:List M},Tw base w rs b->Tw base w (rs++[r]) (b++c)
 |[],_,h=>by
  have f:_=[]:=h;subst f;exact⟨c,[],by simp,a,rfl⟩
 |_::_,_,⟨d,rest,e,h1,h2⟩=>⟨d,rest++c,by rw[e,List.append_assoc],h1,Tw.snoc a h2⟩
structure Bk (w:R)(B:Nat)(vr vl:M)(rts:List Zf)(rls:List Ze)(xs:List M):Prop where
 c0:w.cell? ⟨B,0,Z⟩=O vr
 c1:w.cell? ⟨B,1,Z⟩=O vl
 fz:∀o,w.frozen? ⟨B,o,Z⟩=false
 ro:w.ownsRow (B+1) 148 3 vr rts.length (Yh rts)
 lo:w.ownsRow (B+1) 120 14 vl rls.length xs
 ru:Tw (B+1) w rls xs
 r6:rts.length<=6
 l8:rls.length<=8
theorem Bk.fr {w w' B i j rts b l S}(h:Bk w B i j rts b l)(a:Fr S w w')(d:∀k,S k->k<B:=by simp):Bk w' B i j rts b l:=by
 have f:B<w.heap.size:=bL w _ h.c0
 have g:¬S B:=fun e=>by have:=d B e;omega
 exact⟨(a.cell (p:=⟨B,0,Z⟩) f g).trans h.c0,(a.cell (p:=⟨B,1,Z⟩) f g).trans h.c1,fun o=>(a.frozen (p:=⟨B,o,Z⟩) f g).trans (h.fz o),
  oF h.ro a (fun k c=>by have:=d k c;omega),oF h.lo a (fun k c=>by have:=d k c;omega),Tw.keep (fun v n q m=>oF m a (fun k c=>by have:=d k c;omega)) h.ru,h.r6,h.l8⟩
def ZD (rts:List Zf)(r:Ni):Except (Nat×Nat) Zf:=
 if rts.length=6 then .error (6,r.name.line)
 else if 0<=Zk r.name.text 0 rts then .error (4,r.name.line)
 else if 1000000<Zd r.base then .error (5,r.base.line)
 else if 1000<Zd r.rate then .error (5,r.rate.line)
 else .ok ⟨r.name.text,Zd r.base,Zd r.rate⟩
def Uu (x:Except (Nat×Nat) Zf)(w:R)(B:Nat)(b:M)(rts:List Zf)(a:List Ze)(c:List M)(e:Ending)(w':R):Prop:=
 match x with
 | .ok r=>e=N (.tuple #[])/\(∃d,Bk w' B d b (rts++[r]) a c)/\Below B w w'
 | .error f=>e=Zj f.1 f.2/\Below B w w'
theorem Uu.ok {x w w' B b rts a c e r}(h:x=.ok r):Uu x w B b rts a c e w'↔e=N (.tuple #[])/\(∃d,Bk w' B d b (rts++[r]) a c)/\Below B w w':=by subst h;exact Iff.rfl
theorem Uu.err {x w w' B b rts a c e f}(h:x=.error f):Uu x w B b rts a c e w'↔e=Zj f.1 f.2/\Below B w w':=by subst h;exact Iff.rfl
theorem oL {w:R}{base e b v n d}(h:w.ownsRow base e b v n d):∃a c,v=U a n c:=by
 rcases h.2 with⟨rfl,f⟩|⟨g,cap,i,rfl,_⟩
 ·exact⟨Z,0,by rw[f]⟩
 exact⟨_,_,rfl⟩
theorem Nu:(E.info? 148).map (fun i=>(i.zero,i.size,i.bytes))=O (O (y9 #[Y ByteArray.empty,I J 0,I J 0]),3,32):=by kernel_rfl
end YtccikgogjfbpeaaGreatDoor
end Go.Proofs
namespace Go.Proofs.YtccikgogjfbpeaaGreatDoor
open Go.RowKit
theorem D8 {w g a B i r V rts d s rt}(h:Bk w B i r rts d s)(b:Below w.heap.size w g)(c:g.grownBy a i.ownBlock)(x:a.ownsRow (B+1) 148 3 V (rts.length+1) (Yh rts++T7 rt)):
  a.cell? ⟨B,0,Z⟩=O i/\(∀o,a.frozen? ⟨B,o,Z⟩=false)/\(rts.length<=5->Bk (a.setCell ⟨B,0,Z⟩ V) B V r (rts++[rt]) d s/\Below B w (a.setCell ⟨B,0,Z⟩ V)):=by
 have q:B<w.heap.size:=bL w _ h.c0
 have f:∀j,j<=B->O j≠i.ownBlock:=fun j C e=>by have:=h.ro.lt j e.symm;omega
 have t:∀o,a.cell? ⟨B,o,Z⟩=w.cell? ⟨B,o,Z⟩:=fun o=>(c.cell_far ⟨B,o,Z⟩ (nL q b.size) (f B (F _))).trans (b.cell (p:=⟨B,o,Z⟩) q)
 have u:∀o,a.frozen? ⟨B,o,Z⟩=w.frozen? ⟨B,o,Z⟩:=fun o=>(c.frozen_far ⟨B,o,Z⟩ (nL q b.size) (f B (F _))).trans (b.frozen (p:=⟨B,o,Z⟩) q)
 have l:g.ownsRow (B+1) 148 3 i rts.length (Yh rts):=oF h.ro (Fr.of_below (S:=fun _=>False) b);have y:Below B w a:=(b.mono (by omega)).trans ⟨c.os,c.tape,c.output,c.size,fun k D=>c.block k (nL (by omega) b.size) (f k (by omega))⟩;refine⟨(t 0).trans h.c0,fun o=>(u o).trans (h.fz o),fun E=>⟨⟨?_,?_,fun o=>by simp[u o,h.fz o],?_,?_,?_,by simp;omega,h.l8⟩,y.setCell (by simp) _⟩⟩
 ·exact cS _ _ _ ((t 0).trans h.c0)
 ·rw[cO _ _ _ _ (by simp)];exact(t 1).trans h.c1
 ·rw[Ns,lA];exact oB x (by simp) _
 ·have m:g.ownsRow (B+1) 120 14 r d.length s:=oF h.lo (Fr.of_below (S:=fun _=>False) b)
  exact oB (m.kept c (WI m l (by decide))) (by simp) _
 refine Tw.keep (fun v n z A=>?_) h.ru
 have m:g.ownsRow (B+1) 3 1 v n z:=oF A (Fr.of_below (S:=fun _=>False) b);exact oB (m.kept c (WI m l (by decide))) (by simp) _
theorem Ji (w B vr vl rts a0 xs r)(h:Bk w B vr vl rts a0 xs)(hn:r.name.text.size<=3000)(hb:Dg r.base.text)(hr:Dg r.rate.text):
  L E 314 #[UT r,y5 (O ⟨B,0,Z⟩)] w (Uu (ZD rts r) w B vl rts a0 xs):=by
 have HK:=Za h;have O0:B<w.heap.size:=bL w _ h.c0;obtain⟨va,vc,rfl⟩:=oL h.ro;obtain⟨ii,hi,x0,y0,z0⟩:=info_parts Nu;have A0:=Za hn;have b0:=Za hb;have f0:=Za hr;have c0:=h.c0;have n:=(Vx w (G #[I J r.name.sort,Y r.name.text,I J r.name.line,I J r.base.sort,Y r.base.text,I J r.base.line,I J r.rate.sort,Y r.rate.text,I J r.rate.line] 290)).1;unfold UT;by_cases h6:rts.length=6
 ·have hq:((rts.length:Int)==6)=true:=by simp;omega
  have y:D (ZD rts r=.error (6,r.name.line)):=by show _=_;unfold ZD;rw[if_pos h6]
  go_enter Tryz.func314,Tryz.ntmps314;go_wp2_with fail;refine(YD r.name 6 _ _ (by rfl)).mono ?_;rintro e w9 ⟨f,b⟩;unfold Zj at f;subst f;exact⟨rfl,(Uu.err y.o).2 ⟨rfl,(n.o.trans b).below (by omega)⟩⟩
 have hq:((rts.length:Int)==6)=false:=by simp;omega
 have y:=Za h6;go_enter Tryz.func314,Tryz.ntmps314;go_wp2_with fail;refine(Nt _ B (B+1) _ rts r.name.text (HK.o.fr n.o).c0 (HK.o.fr n.o).ro HK.o.r6).mono ?_;rintro e a ⟨rfl,b⟩;have c:=b.whole (aN w _);have g0:=Za (n.o.trans b);have e0:=bC c 0 _ rfl;have e1:=bC c 1 _ rfl;have e2:=bC c 2 _ rfl;have e3:=bC c 3 _ rfl;have e4:=bC c 4 _ rfl;have e5:=bC c 5 _ rfl;have e6:=bC c 6 _ rfl;have e7:=bC c 7 _ rfl;have e8:=bC c 8 _ rfl;have u:=Za c;by_cases hp:0<=Zk r.name.text 0 rts
 ·have z:D (ZD rts r=.error (4,r.name.line)):=by show _=_;unfold ZD;rw[if_neg y.o,if_pos hp]
  generalize Zk r.name.text 0 rts=q at*;go_wp2_with fail;refine(YD r.name 4 _ _ (by rfl)).mono ?_;rintro e w9 ⟨f,b⟩;unfold Zj at f;subst f;exact⟨rfl,(Uu.err z.o).2 ⟨rfl,(g0.o.trans b).below (by omega)⟩⟩
 have HP:=Za hp
 have B0:Zk r.name.text 0 rts<0:=by omega
 generalize hg:Zk r.name.text 0 rts=q at hp B0;have P0:w.heap.size<a.heap.size:=(iA.1 u.o).1;go_wp2_with fail;refine(Vz r.name.text _ A0.o).mono ?_;rintro e w2 ⟨rfl,b⟩;have s:=b.whole (((Fr.refl (fun _=>False) _).alloc _).whole u.o);have C:=b.whole (aN a _);have C0:=Za ((g0.o.alloc _).trans b);have h0:=Za s;have i0:=Za C;have e3:=Zc s 3;have e4:=Zc s 4;have e5:=Zc s 5;have n0:=Zc C 0;have nf:=bF C
 have Q0:¬w.heap.size=a.heap.size:=by omega
 have L0:¬a.heap.size=w.heap.size:=by omega
 go_wp2_with fail;have j0:Fr (fun k=>k=a.heap.size) w2 (w2.setCell ⟨a.heap.size,0,Z⟩ (Y r.name.text)):=(Fr.refl (fun k=>k=a.heap.size) _).setCell (p:=⟨a.heap.size,0,Z⟩) (A rfl) _;have D0:=Za (j0.whole h0.o (by omega));have E0:D ((w2.setCell ⟨a.heap.size,0,Z⟩ (Y r.name.text)).heap[a.heap.size]?=O (G #[Y r.name.text,I J 0,I J 0] 148)):=Yl i0.o 0 _;have k0:=Za (C0.o.monoNew j0 (fun k hk=>y2 (by omega)));generalize w2.setCell ⟨a.heap.size,0,Z⟩ (Y r.name.text)=w3 at*;by_cases H:1000000<Zd r.base
 ·have z:D (ZD rts r=.error (5,r.base.line)):=by show _=_;unfold ZD;rw[if_neg y.o,if_neg (by have:=HP.o;omega),if_pos H]
  refine(QD r.base _ 1000000 _ b0.o H (by rfl)).mono ?_;rintro e w9 ⟨f,b⟩;unfold Zj at f;subst f;exact⟨rfl,(Uu.err z.o).2 ⟨rfl,(k0.o.trans b).below (by omega)⟩⟩
 have l0:=Za H
 refine(Rj r.base _ 1000000 _ b0.o (by omega) (by rfl)).mono ?_;rintro e w4 ⟨rfl,b⟩;have t:=b.whole D0.o;have M:=b.whole E0.o;have F0:=Za (k0.o.trans b);have M0:=Za t;have o0:=Za M;have e6:=Zc t 6;have e7:=Zc t 7;have e8:=Zc t 8;have n1:=Zc M 1;have nf:=bF M;generalize G0:Zd r.base=m at*;have p0:=Za G0;go_wp2_with fail;have H0:Fr (fun k=>k=a.heap.size) w4 (w4.setCell ⟨a.heap.size,1,Z⟩ (I J m)):=(Fr.refl (fun k=>k=a.heap.size) _).setCell (p:=⟨a.heap.size,1,Z⟩) (A rfl) _;have I0:D ((w4.setCell ⟨a.heap.size,1,Z⟩ (I J m)).heap[a.heap.size]?=O (G #[Y r.name.text,I J m,I J 0] 148)):=Yl o0.o 1 _;have q0:=Za (F0.o.monoNew H0 (fun k hk=>y2 (by omega)));generalize w4.setCell ⟨a.heap.size,1,Z⟩ (I J m)=w5 at*;by_cases N:1000<Zd r.rate
 ·have z:D (ZD rts r=.error (5,r.rate.line)):=by show _=_;unfold ZD;rw[if_neg y.o,if_neg (by have:=HP.o;omega),p0.o,if_neg l0.o,if_pos N]
  refine(QD r.rate _ 1000 _ f0.o N (by rfl)).mono ?_;rintro e w9 ⟨f,b⟩;unfold Zj at f;subst f;exact⟨rfl,(Uu.err z.o).2 ⟨rfl,(q0.o.trans b).below (by omega)⟩⟩
 have z:D (ZD rts r=.ok ⟨r.name.text,m,Zd r.rate⟩):=by show _=_;unfold ZD;rw[if_neg y.o,if_neg (by have:=HP.o;omega),p0.o,if_neg l0.o,if_neg N]
 refine(Rj r.rate _ 1000 _ f0.o (by omega) (by rfl)).mono ?_;rintro e w6 ⟨rfl,b⟩;have P:=b.whole I0.o;have J0:=Za (q0.o.trans b);have r0:=Za P;have n2:=Zc P 2;have nf:=bF P;generalize Zd r.rate=v at*;go_wp2_with fail;have K0:Fr (fun k=>k=a.heap.size) w6 (w6.setCell ⟨a.heap.size,2,Z⟩ (I J v)):=(Fr.refl (fun k=>k=a.heap.size) _).setCell (p:=⟨a.heap.size,2,Z⟩) (A rfl) _;have R:D ((w6.setCell ⟨a.heap.size,2,Z⟩ (I J v)).heap[a.heap.size]?=O (G #[Y r.name.text,I J m,I J v] 148)):=Yl r0.o 2 _;have s0:=Za (J0.o.monoNew K0 (fun k hk=>y2 (by omega)));generalize w6.setCell ⟨a.heap.size,2,Z⟩ (I J v)=g at*;have T:=Za (HK.o.fr s0.o);have c0:=T.o.c0;have m0:=Zc R.o 0;have m1:=Zc R.o 1;have m2:=Zc R.o 2;have R0:=HK.o.r6;have S0:B<g.heap.size:=bL g _ c0;have x:a.heap.size<g.heap.size:=bL g _ m0;refine wp_region_held_drew (S:=fun w'=>w'.cell? ⟨a.heap.size,0,Z⟩=O (Y r.name.text)/\w'.cell? ⟨a.heap.size,1,Z⟩=O (I J m)/\w'.cell? ⟨a.heap.size,2,Z⟩=O (I J v)) (by kernel_rfl) ?_ (fun d=>?_)
 ·exact⟨by simpa using m0,by simpa using m1,by simpa using m2⟩
 refine ZX 0 d ?_;go_frame;refine ZX 1 d ?_;go_frame;refine ZX 2 d ?_;go_frame;refine ZX 3 d ?_;go_frame;refine ZX 5 d ?_;go_frame;refine Xz [4,6] ?_;refine Zb rfl (fun K i=>?p1) (Zb rfl (fun K i=>?p2) y8)
 case' p1=>
  rw[if_pos (by rfl)];go_simp;refine i.out _ _ d (fun _=>?_)
  try go_frame
  refine Vv 6 (fun K i=>?_);go_simp;refine i.out _ _ (by simp[*,z6]) (fun d=>?_)
 case' p2=>
  rw[if_pos (by rfl)];go_simp;refine i.out _ _ (by simp[*,z6]) (fun d=>?_)
  try go_frame
  refine Vv 4 (fun K i=>?_)
  have T0:=fun o=>(z6 g ⟨B,0,Z⟩ o (by simp[c0])).trans c0
  go_simp;refine i.out _ _ d (fun _=>?_)
 all_goals
  try go_frame
  refine Xz [7] ?_;refine Zb rfl (fun K i=>?_) y8;refine step_append_lies _ rfl (.tmp 40) (.tmp 42) 86 rfl (B+1) 148 ii _ 3 32 Tryz.underlying86 hi x0 y0 z0 rfl (by decide) (U va rts.length vc) rts.length (Yh rts) rfl ?h1 ⟨g.heap.size,0,Z⟩ 1 1 [Y r.name.text,I J m,I J v] rfl rfl ?h2 ?h3 (by decide) ?h4 ?h5 ?h6 _ rfl ?_
  case h1=>exact(T.o.ro.alloc _).drew
  case h2=>exact Q (aN g _)
  case h3=>simp[z1]
  case h4=>unfold maxLen;omega
  case h5=>omega
  case h6=>simp;omega
  intro g2 N0 w8 t0 l _ _;have V:Below g.heap.size g (g.alloc (G #[Y r.name.text,I J m,I J v] 148)).drew:=((Below.refl _ _).alloc (F _) _).drew;have W:=D8 (rt:=⟨r.name.text,m,v⟩) T.o V l t0;have d0:=W.1;have df:=W.2.1;have v0:=Za (W.2.2 (by have:=y.o;omega))
  have w0:O a.heap.size≠(Value.slice va rts.length vc).ownBlock:=fun e=>by have:=(HK.o.ro.lt _ e.symm).2;omega
  have X:∀j,w8.cell? ⟨a.heap.size,j,Z⟩=g.cell? ⟨a.heap.size,j,Z⟩:=fun j=>(l.cell_far ⟨a.heap.size,j,Z⟩ (nL x V.size) w0).trans (V.cell (p:=⟨a.heap.size,j,Z⟩) x)
  refine i.out _ _ ⟨(X 0).trans m0,(X 1).trans m1,(X 2).trans m2⟩ (fun d=>?_);go_frame;refine ZX 8 d ?_;go_frame;refine ZX 9 d ?_;go_frame;refine Vv 10 (fun K i=>?_);go_simp;refine i.out _ _ ?_ (fun _=>?_)
  ·have hx:∀o,(⟨B,0,Z⟩:Addr)≠⟨a.heap.size,o,Z⟩:=fun o e=>by injection e with e1;omega
   exact⟨(cO _ _ _ _ (hx 0)).trans d.1,(cO _ _ _ _ (hx 1)).trans d.2.1,(cO _ _ _ _ (hx 2)).trans d.2.2⟩
  try go_frame
  refine wpAnyH_done (by kernel_rfl) ?_ _;go_wp2
  go_end0
  exact(Uu.ok z.o).2 ⟨rfl,⟨_,v0.o.1⟩,(s0.o.below (by omega)).trans v0.o.2⟩
end Go.Proofs.YtccikgogjfbpeaaGreatDoor
