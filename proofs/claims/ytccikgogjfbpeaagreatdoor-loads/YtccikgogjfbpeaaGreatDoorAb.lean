import Derived.Test.YtccikgogjfbpeaaGreatDoorAa
import Derived.Deep.DeepCutAuto
import Derived.Lib.ConvBytes
open Go.Value renaming int->I,string->V,slice->Z,bool->O,agg->z4,oneCell'->z7,ownBlock->y8,pointer->x2
open Go.IntKind renaming i64->J
open Option renaming none->Y,some->U
open Go.Proofs.Tryz renaming prog->E
open Go.Obj renaming cells->H
open Go.RowKit renaming Hid->B
open Go renaming Value->D,World->M,Calls->R
open Go.Ending renaming returned->G
open List renaming append_nil->N,take_of_length_le->F,take_succ_eq_append_getElem->Q,getElem?_take->z1,append_assoc->z2,mem_append->z3,getElem?_eq_none->z8,getElem?_drop->y5,take->x4
open Or renaming inl->L,inr->y6
open _root_.ByteArray renaming empty->A
open Nat renaming strongRecOn->C,le_refl->z5,le_succ->z6,zero_le->y7,lt_or_ge->x3
open Go.World renaming cell?_alloc_lt->z0,news_of_block->z9,freeze->y2,ownsRow->y9
namespace Go.Proofs.YtccikgogjfbpeaaGreatDoor
set_option maxRecDepth 30000
set_option maxHeartbeats 8000000
open Go.RowKit
def No:Array D:=#[I J 0,V ⟨#[]⟩,I J 0,I J 0,V ⟨#[]⟩,I J 0,I J 0,V ⟨#[]⟩,I J 0,I J 0,V ⟨#[]⟩,I J 0,Z Y 0 0,Z Y 0 0,O false,I J 0,V ⟨#[]⟩,I J 0,I J 0,V ⟨#[]⟩,I J 0,O false,O false,Z Y 0 0]
def Ug (c:Option (Tk×Tk))(j:Nat):D:=
 match c with
 |some (a,b)=>match j with|0=>I J a.sort|1=>V a.text|2=>I J a.line|3=>I J b.sort|4=>V b.text|_=>I J b.line
 |none=>match j with|0=>I J 0|1=>V ⟨#[]⟩|2=>I J 0|3=>I J 0|4=>V ⟨#[]⟩|_=>I J 0
def Oa (r:QD)(a b c:D):D:=z4 #[I J r.name.sort,V r.name.text,I J r.name.line,I J r.rank.sort,V r.rank.text,I J r.rank.line,I J r.bin.1.sort,V r.bin.1.text,I J r.bin.1.line,I J r.bin.2.sort,V r.bin.2.text,I J r.bin.2.line,a,b,O r.amount.isSome,Ug r.amount 0,Ug r.amount 1,Ug r.amount 2,Ug r.amount 3,Ug r.amount 4,Ug r.amount 5,O r.act.decline,O r.act.cheapest,c]
def wQ (w:M)(g j:Nat)(t u:Tk):M:=UH (UH w g j t) g (j+3) u
theorem EX (w g j t u):Fr (fun k=>k=g) w (wQ w g j t u):=(Ww _ _ _ _).trans (Ww _ _ _ _)
theorem Ob (b:Nat):∀(a:List D)(o:Nat)(w:M),Fr (fun k=>k=b) w (w.setCells b o a)
 |[],_,w=>Fr.refl _ w
 |v::r,o,w=>((Fr.refl (fun k=>k=b) w).setCell (p:=⟨b,o,Y⟩) (L rfl) v).trans (Ob b r (o+1) _)
def QF:Array D->Nat->List D->Array D
 |cs,_,[]=>cs
 |cs,o,v::r=>QF (cs.setIfInBounds o v) (o+1) r
theorem RJ {b:Nat}{t:TypeId}:∀(a:List D)(o:Nat)(w:M)(c:Array D),w.heap[b]?=U (H c t)->(w.setCells b o a).heap[b]?=U (H (QF c o a) t)
 |[],_,_,_,h=>h
 |v::r,o,_,_,h=>RJ r (o+1) _ _ (Ym h o v)
theorem SO:∀(c:List D)(o:Nat)(a:Array D),o+c.length=a.size->(QF a o c).toList=a.toList.take o++c
 |[],o,a,h=>by
  simp at h;rw[QF,N,F (by simp;omega)]
 |v::r,o,a,h=>by
  simp at h;rw[QF,SO r (o+1) _ (by simp;omega)]
  have d:o<a.toList.length:=by simp;omega
  have e:x4 o (a.toList.set o v)=x4 o a.toList:=by
   apply List.ext_getElem?;intro k;rw[z1,z1];by_cases b:k<o
   ·rw[if_pos b,if_pos b,List.getElem?_set_ne (by omega)]
   rw[if_neg b,if_neg b]
  rw[Array.toList_setIfInBounds,List.take_add_one,List.getElem?_set_self d,e];simp
theorem Lu {w:M}{b t c a}(h:w.heap[b]?=U (H c t))(d:a.size=c.size):(w.setCells b 0 a.toList).heap[b]?=U (H a t):=by
 rw[RJ a.toList 0 w c h]
 congr 2
 apply Array.ext';rw[SO _ _ _ (by simp[d])];simp
theorem Ii {w:M}{b n t a}(h:w.heap[b]?=U (H a t))(c:a.size=n):w.there b 0 n:=fun j d=>by
 rw[Nat.zero_add];refine⟨?_,bF h j⟩;rw[cell_of_row w b j a t (0,0) h,Array.getElem?_eq_getElem (by omega)];rfl
structure VN (w wc:M)(p g cap:Nat)(ts:List Tk)(i:Nat)(cs:Array D)(vm:D)(lm:List Tk)(vc:D)(lc:List Tk):Prop where
 pa:Pa wc p g cap ts i
 fr:Fr (fun k=>k=p) w wc
 hr:wc.heap[w.heap.size]?=U (H No 295)
 he:wc.heap[w.heap.size+1]?=U (H cs 295)
 rm:wc.ownsRow (w.heap.size+2) 263 3 vm lm.length (Ys lm)
 rc:wc.ownsRow (w.heap.size+2) 263 3 vc lc.length (Ys lc)
 pl:p<w.heap.size
 gl:g<w.heap.size
section
variable {w wc wd:M} {p g cap:Nat} {ts:List Tk} {i i':Nat} {cs:Array D} {vm:D} {lm:List Tk} {vc:D} {lc:List Tk}
theorem VN.size (h:VN w wc p g cap ts i cs vm lm vc lc):w.heap.size+2<=wc.heap.size:=(iA.1 h.he).1
theorem VN.step (h:VN w wc p g cap ts i cs vm lm vc lc)(b:Pa wd p g cap ts i')(a:Fr (fun k=>k=p) wc wd):VN w wd p g cap ts i' cs vm lm vc lc:=
 have c:=h.pl
 ⟨b,h.fr.trans a,a.whole h.hr (by omega),a.whole h.he (by omega),oF h.rm a (fun k d=>by omega),oF h.rc a (fun k d=>by omega),h.pl,h.gl⟩
theorem VN.write {cs'}(h:VN w wc p g cap ts i cs vm lm vc lc)(a:Fr (fun k=>k=w.heap.size+1) wc wd)(c:wd.heap[w.heap.size+1]?=U (H cs' 295)):VN w wd p g cap ts i cs' vm lm vc lc:=
 have d:=h.pl;have e:=h.gl
 ⟨h.pa.fr a (fun k b=>by omega),h.fr.monoNew a (fun k b=>by omega),a.whole h.hr (by omega),c,oF h.rm a (fun k b=>by omega),oF h.rc a (fun k b=>by omega),h.pl,h.gl⟩
theorem VN.mcc {v l}(h:VN w wc p g cap ts i cs vm lm vc lc)(a:wc.ownsRow (w.heap.size+2) 263 3 v l.length (Ys l)):VN w wc p g cap ts i cs v l vc lc:=⟨h.pa,h.fr,h.hr,h.he,a,h.rc,h.pl,h.gl⟩
theorem VN.cur {v l}(h:VN w wc p g cap ts i cs vm lm vc lc)(a:wc.ownsRow (w.heap.size+2) 263 3 v l.length (Ys l)):VN w wc p g cap ts i cs vm lm v l:=⟨h.pa,h.fr,h.hr,h.he,h.rm,a,h.pl,h.gl⟩
end
theorem Af {w p g cap ts i}(h:Pa w p g cap ts i):
  VN w ((w.alloc (H No 295)).alloc (H No 295)) p g cap ts i No (Z Y 0 0) [] (Z Y 0 0) []:=
 ⟨h.fr (S:=fun _=>False) ((Zt.alloc _).alloc _),(Zt.alloc _).alloc _,((Fr.refl (fun _=>False) _).alloc _).whole (aN w _),SN w _ _,
  oZ _ _ _ _,oZ _ _ _ _,bL w _ h.c0,h.gl⟩
theorem Ag (w p g cap ts i)(h:Pa w p g cap ts i):
  R E 193 #[x2 (U ⟨p,0,Y⟩)] w (Zm (Wk ts i) (fun r v w'=>∃Q vc vr,v=Oa r Q vc vr/\w'.ownsRow w.heap.size 263 3 Q r.mcc.length (Ys r.mcc)/\w'.ownsRow w.heap.size 263 3 vc r.cur.length (Ys r.cur)/\w'.ownsRow w.heap.size 263 3 vr r.act.routes.length (Ys r.act.routes)) w p g cap ts):=by
 have l0:=Za (Af h);have O0:=bL w _ h.c0;go_enter Tryz.func193,Tryz.ntmps193;go_wp2_with fail;refine(VM _ p g cap ts i 0 _ l0.o.pa (by decide) (by rfl)).mono ?_;intro e w1 x
 cases s:Z9 ts i 0 with
 |error l=>
  obtain⟨y,t⟩:=(Zm.err s).1 x;unfold Zj at y;subst y;exact⟨rfl,(Zm.err (by unfold Wk;rw[Yc s])).2 ⟨rfl,l0.o.fr.trans t⟩⟩
 |ok r=>
  obtain⟨a,i1⟩:=r;obtain⟨⟨v,rfl,rfl⟩,A,t⟩:=(Zm.ok s).1 x;have hA:=Za s;have b0:B (VN w w1 p g cap ts i1 No (Z Y 0 0) [] (Z Y 0 0) []):=l0.o.step A t;have e0:=Zc b0.o.he 0;have e1:=Zc b0.o.he 1;have e2:=Zc b0.o.he 2;have ef:=bF b0.o.he;simp only[Qc];go_wp2_with fail
  change R _ _ _ (UH w1 (w.heap.size+1) 0 a) _
  have m0:=Za (b0.o.write (Ww _ _ _ _) (VB b0.o.he 0 a));generalize UH w1 (w.heap.size+1) 0 a=w2 at*;refine(VM _ p g cap ts i1 1 _ m0.o.pa (by decide) (by rfl)).mono ?_;intro e w3 x
  cases s:Z9 ts i1 1 with
  |error l=>
   obtain⟨y,t⟩:=(Zm.err s).1 x;unfold Zj at y;subst y;exact⟨rfl,(Zm.err (by unfold Wk;rw[Zh hA.o,Yc s])).2 ⟨rfl,m0.o.fr.trans t⟩⟩
  |ok r=>
   obtain⟨b,i2⟩:=r;obtain⟨⟨v,rfl,rfl⟩,A,t⟩:=(Zm.ok s).1 x;have hB:=Za s;have d0:B (VN w w3 p g cap ts i2 #[I J a.sort,V a.text,I J a.line,I J 0,V ⟨#[]⟩,I J 0,I J 0,V ⟨#[]⟩,I J 0,I J 0,V ⟨#[]⟩,I J 0,Z Y 0 0,Z Y 0 0,O false,I J 0,V ⟨#[]⟩,I J 0,I J 0,V ⟨#[]⟩,I J 0,O false,O false,Z Y 0 0] (Z Y 0 0) [] (Z Y 0 0) []):=m0.o.step A t;have e3:=Zc d0.o.he 3;have e4:=Zc d0.o.he 4;have e5:=Zc d0.o.he 5;have ef:=bF d0.o.he;simp only[Qc];go_wp2_with fail
   change R _ _ _ (UH w3 (w.heap.size+1) 3 b) _
   have n0:=Za (d0.o.write (Ww _ _ _ _) (VB d0.o.he 3 b));generalize UH w3 (w.heap.size+1) 3 b=w4 at*;refine(Uf _ p g cap ts i2 Ty n0.o.pa).mono ?_;intro e w5 x
   cases s:ZF ts i2 Ty with
   |error l=>
    obtain⟨y,t⟩:=(Zm.err s).1 x;unfold Zj at y;subst y;exact⟨rfl,(Zm.err (by unfold Wk;rw[Zh hA.o,Zh hB.o,Yc s])).2 ⟨rfl,n0.o.fr.trans t⟩⟩
   |ok r=>
    obtain⟨u1,i3⟩:=r;obtain⟨⟨v,rfl,rfl⟩,A,t⟩:=(Zm.ok s).1 x;have hC:=Za s;have o0:B (VN w w5 p g cap ts i3 #[I J a.sort,V a.text,I J a.line,I J b.sort,V b.text,I J b.line,I J 0,V ⟨#[]⟩,I J 0,I J 0,V ⟨#[]⟩,I J 0,Z Y 0 0,Z Y 0 0,O false,I J 0,V ⟨#[]⟩,I J 0,I J 0,V ⟨#[]⟩,I J 0,O false,O false,Z Y 0 0] (Z Y 0 0) [] (Z Y 0 0) []):=n0.o.step A t;go_wp2_with fail;refine(Uf _ p g cap ts i3 RH o0.o.pa).mono ?_;intro e w6 x
    cases s:ZF ts i3 RH with
    |error l=>
     obtain⟨y,t⟩:=(Zm.err s).1 x;unfold Zj at y;subst y;exact⟨rfl,(Zm.err (by unfold Wk;rw[Zh hA.o,Zh hB.o,Zh hC.o,Yc s])).2 ⟨rfl,o0.o.fr.trans t⟩⟩
    |ok r=>
     obtain⟨u2,i4⟩:=r;obtain⟨⟨v,rfl,rfl⟩,A,t⟩:=(Zm.ok s).1 x;have hD:=Za s;have p0:B (VN w w6 p g cap ts i4 #[I J a.sort,V a.text,I J a.line,I J b.sort,V b.text,I J b.line,I J 0,V ⟨#[]⟩,I J 0,I J 0,V ⟨#[]⟩,I J 0,Z Y 0 0,Z Y 0 0,O false,I J 0,V ⟨#[]⟩,I J 0,I J 0,V ⟨#[]⟩,I J 0,O false,O false,Z Y 0 0] (Z Y 0 0) [] (Z Y 0 0) []):=o0.o.step A t;go_wp2_with fail;refine(Ig _ p g cap ts i4 p0.o.pa).mono ?_;intro e w7 x
     cases s:UU ts i4 with
     |error l=>
      obtain⟨y,t⟩:=(Zm.err s).1 x;unfold Zj at y;subst y;exact⟨rfl,(Zm.err (by unfold Wk;rw[Zh hA.o,Zh hB.o,Zh hC.o,Zh hD.o,Yc s])).2 ⟨rfl,p0.o.fr.trans t⟩⟩
     |ok r=>
      obtain⟨⟨c,d⟩,S⟩:=r;obtain⟨⟨v,rfl,rfl⟩,A,t⟩:=(Zm.ok s).1 x;have hE:=Za s;have K:B (VN w w7 p g cap ts S #[I J a.sort,V a.text,I J a.line,I J b.sort,V b.text,I J b.line,I J 0,V ⟨#[]⟩,I J 0,I J 0,V ⟨#[]⟩,I J 0,Z Y 0 0,Z Y 0 0,O false,I J 0,V ⟨#[]⟩,I J 0,I J 0,V ⟨#[]⟩,I J 0,O false,O false,Z Y 0 0] (Z Y 0 0) [] (Z Y 0 0) []):=p0.o.step A t;have e6:=Zc K.o.he 6;have e7:=Zc K.o.he 7;have e8:=Zc K.o.he 8;have e9:=Zc K.o.he 9;have P0:=Zc K.o.he 10;have Q0:=Zc K.o.he 11;have ef:=bF K.o.he;simp only[UV];go_wp2_with fail
      change R _ _ _ (wQ w7 (w.heap.size+1) 6 c d) _
      have w0:=Za (K.o.write (EX _ _ _ _ _) (VB (VB K.o.he 6 c) 9 d));generalize wQ w7 (w.heap.size+1) 6 c d=w8 at*;refine(QE _ p g cap ts S Vc w0.o.pa).mono ?_;rintro e w9 ⟨rfl,A,t⟩;have f0:B (VN w w9 p g cap ts _ #[I J a.sort,V a.text,I J a.line,I J b.sort,V b.text,I J b.line,I J c.sort,V c.text,I J c.line,I J d.sort,V d.text,I J d.line,Z Y 0 0,Z Y 0 0,O false,I J 0,V ⟨#[]⟩,I J 0,I J 0,V ⟨#[]⟩,I J 0,O false,O false,Z Y 0 0] (Z Y 0 0) [] (Z Y 0 0) []):=w0.o.step A t
      have hO:B (Xh ts S Vc=if Zn (Zo ts S) Vc=true then Xl ts (if Zn (Zo ts S) Vc=true then S+1 else S) 1 else .ok ([],(if Zn (Zo ts S) Vc=true then S+1 else S))):=by
       show _=_
       unfold Xh
       cases Zn (Zo ts S) Vc<;>rfl
      generalize Zn (Zo ts S) Vc=q at*;generalize(if q=true then S+1 else S)=i6 at*
      go_upto_if 18 with fail
      go_cut [] (fun wc=>∃Q lm j,B (Xh ts S Vc=.ok (lm,j))/\B (VN w wc p g cap ts j #[I J a.sort,V a.text,I J a.line,I J b.sort,V b.text,I J b.line,I J c.sort,V c.text,I J c.line,I J d.sort,V d.text,I J d.line,Q,Z Y 0 0,O false,I J 0,V ⟨#[]⟩,I J 0,I J 0,V ⟨#[]⟩,I J 0,O false,O false,Z Y 0 0] Q lm (Z Y 0 0) []))
      case first=>
       cases q with
       |false=>
        go_wp2_with fail;go_meet
        exact⟨Z Y 0 0,[],i6,hO.o,f0.o⟩
       |true=>
        go_wp2_with fail;refine(Nl _ p g cap ts i6 1 _ f0.o.pa (by decide) (by rfl)).mono ?_;intro e R0 x
        cases s:Xl ts i6 1 with
        |error l=>
         obtain⟨y,t⟩:=(Zm.err s).1 x;unfold Zj at y;subst y;exact⟨rfl,(Zm.err (by unfold Wk;rw[Zh hA.o,Zh hB.o,Zh hC.o,Zh hD.o,Zh hE.o,Yc (hO.o.trans s)])).2 ⟨rfl,f0.o.fr.trans t⟩⟩
        |ok r=>
         obtain⟨l,i7⟩:=r;obtain⟨⟨v,rfl,F⟩,A,t⟩:=(Zm.ok s).1 x;obtain⟨va,vn,vk,rfl⟩:=ZB F;have T:=Za ((f0.o.step A t).mcc (oS F f0.o.size));have hL:=Za (hO.o.trans s);have S0:=Zc T.o.he 12;have ef:=bF T.o.he;go_wp2_with fail;go_meet
         exact⟨Z va vn vk,l,i7,hL.o,T.o.write ((Fr.refl (fun k=>k=w.heap.size+1) _).setCell (p:=⟨w.heap.size+1,12,Y⟩) (L rfl) _) (Ym T.o.he 12 _)⟩
      obtain⟨Q,lm,W,hF,j0⟩:=hcut
      rename M=>wA
      go_wp2_with fail;refine(QE _ p g cap ts W Z7 j0.o.pa).mono ?_;rintro e q0 ⟨rfl,A,t⟩;have N:B (VN w q0 p g cap ts _ _ Q lm _ []):=j0.o.step A t
      have hO:B (Wv ts W Z7=if Zn (Zo ts W) Z7=true then YU (UU ts (if Zn (Zo ts W) Z7=true then W+1 else W)) (fun ab i=>.ok (U ab,i))else .ok (Y,(if Zn (Zo ts W) Z7=true then W+1 else W))):=by
       show _=_
       unfold Wv
       cases Zn (Zo ts W) Z7<;>rfl
      generalize Zn (Zo ts W) Z7=q2 at*;generalize(if q2=true then W+1 else W)=i8 at*
      go_upto_if 23 with fail
      go_cut [] (fun wc=>∃f j,B (Wv ts W Z7=.ok (f,j))/\B (VN w wc p g cap ts j #[I J a.sort,V a.text,I J a.line,I J b.sort,V b.text,I J b.line,I J c.sort,V c.text,I J c.line,I J d.sort,V d.text,I J d.line,Q,Z Y 0 0,O f.isSome,Ug f 0,Ug f 1,Ug f 2,Ug f 3,Ug f 4,Ug f 5,O false,O false,Z Y 0 0] Q lm (Z Y 0 0) []))
      case first=>
       cases q2 with
       |false=>
        go_wp2_with fail;go_meet
        exact⟨Y,i8,hO.o,N.o⟩
       |true=>
        have T0:=Zc N.o.he 14;have ef:=bF N.o.he;go_wp2_with fail;have g0:B (VN w (q0.setCell ⟨w.heap.size+1,14,Y⟩ (O true)) p g cap ts i8 #[I J a.sort,V a.text,I J a.line,I J b.sort,V b.text,I J b.line,I J c.sort,V c.text,I J c.line,I J d.sort,V d.text,I J d.line,Q,Z Y 0 0,O true,I J 0,V ⟨#[]⟩,I J 0,I J 0,V ⟨#[]⟩,I J 0,O false,O false,Z Y 0 0] Q lm (Z Y 0 0) []):=N.o.write ((Fr.refl (fun k=>k=w.heap.size+1) _).setCell (p:=⟨w.heap.size+1,14,Y⟩) (L rfl) _) (Ym N.o.he 14 _);generalize q0.setCell ⟨w.heap.size+1,14,Y⟩ (O true)=V0 at*;refine(Ig _ p g cap ts i8 g0.o.pa).mono ?_;intro e x0 x
        cases s:UU ts i8 with
        |error l=>
         obtain⟨y,t⟩:=(Zm.err s).1 x;unfold Zj at y;subst y;exact⟨rfl,(Zm.err (by unfold Wk;rw[Zh hA.o,Zh hB.o,Zh hC.o,Zh hD.o,Zh hE.o,Zh hF.o,Yc (hO.o.trans (Yc s))])).2 ⟨rfl,g0.o.fr.trans t⟩⟩
        |ok r=>
         obtain⟨⟨m,n⟩,i9⟩:=r;obtain⟨⟨v,rfl,rfl⟩,A,t⟩:=(Zm.ok s).1 x;have z:B (VN w x0 p g cap ts i9 _ Q lm _ []):=g0.o.step A t;have hL:=Za (hO.o.trans (Zh s));have W0:=Zc z.o.he 15;have X0:=Zc z.o.he 16;have Y0:=Zc z.o.he 17;have Z0:=Zc z.o.he 18;have a1:=Zc z.o.he 19;have b1:=Zc z.o.he 20;have ef:=bF z.o.he;simp only[UV];go_wp2_with fail;go_meet
         exact⟨U (m,n),i9,hL.o,z.o.write (EX x0 (w.heap.size+1) 15 m n) (VB (VB z.o.he 15 m) 18 n)⟩
      obtain⟨f,X,hG,k0⟩:=hcut
      rename M=>wB
      go_wp2_with fail;refine(QE _ p g cap ts X Vz k0.o.pa).mono ?_;rintro e B0 ⟨rfl,A,t⟩;have P:B (VN w B0 p g cap ts _ _ Q lm _ []):=k0.o.step A t
      have hO:B (Xh ts X Vz=if Zn (Zo ts X) Vz=true then Xl ts (if Zn (Zo ts X) Vz=true then X+1 else X) 1 else .ok ([],(if Zn (Zo ts X) Vz=true then X+1 else X))):=by
       show _=_
       unfold Xh
       cases Zn (Zo ts X) Vz<;>rfl
      generalize Zn (Zo ts X) Vz=q3 at*;generalize(if q3=true then X+1 else X)=r0 at*
      go_upto_if 29 with fail
      go_cut [] (fun wc=>∃vc lc j,B (Xh ts X Vz=.ok (lc,j))/\B (VN w wc p g cap ts j #[I J a.sort,V a.text,I J a.line,I J b.sort,V b.text,I J b.line,I J c.sort,V c.text,I J c.line,I J d.sort,V d.text,I J d.line,Q,vc,O f.isSome,Ug f 0,Ug f 1,Ug f 2,Ug f 3,Ug f 4,Ug f 5,O false,O false,Z Y 0 0] Q lm vc lc))
      case first=>
       cases q3 with
       |false=>
        go_wp2_with fail;go_meet
        exact⟨Z Y 0 0,[],r0,hO.o,P.o⟩
       |true=>
        go_wp2_with fail;refine(Nl _ p g cap ts r0 1 _ P.o.pa (by decide) (by rfl)).mono ?_;intro e c1 x
        cases s:Xl ts r0 1 with
        |error l=>
         obtain⟨y,t⟩:=(Zm.err s).1 x;unfold Zj at y;subst y;exact⟨rfl,(Zm.err (by unfold Wk;rw[Zh hA.o,Zh hB.o,Zh hC.o,Zh hD.o,Zh hE.o,Zh hF.o,Zh hG.o,Yc (hO.o.trans s)])).2 ⟨rfl,P.o.fr.trans t⟩⟩
        |ok r=>
         obtain⟨l,C0⟩:=r;obtain⟨⟨v,rfl,F⟩,A,t⟩:=(Zm.ok s).1 x;obtain⟨va,vn,vk,rfl⟩:=ZB F;have a0:=Za ((P.o.step A t).cur (oS F P.o.size));have hL:=Za (hO.o.trans s);have d1:=Zc a0.o.he 13;have ef:=bF a0.o.he;go_wp2_with fail;go_meet
         exact⟨Z va vn vk,l,C0,hL.o,a0.o.write ((Fr.refl (fun k=>k=w.heap.size+1) _).setCell (p:=⟨w.heap.size+1,13,Y⟩) (L rfl) _) (Ym a0.o.he 13 _)⟩
      obtain⟨vc,lc,y0,hH,h0⟩:=hcut
      rename M=>wD
      go_wp2_with fail;refine(Uf _ p g cap ts y0 T8 h0.o.pa).mono ?_;intro e D0 x
      cases s:ZF ts y0 T8 with
      |error l=>
       obtain⟨y,t⟩:=(Zm.err s).1 x;unfold Zj at y;subst y;exact⟨rfl,(Zm.err (by unfold Wk;rw[Zh hA.o,Zh hB.o,Zh hC.o,Zh hD.o,Zh hE.o,Zh hF.o,Zh hG.o,Zh hH.o,Yc s])).2 ⟨rfl,h0.o.fr.trans t⟩⟩
      |ok r=>
       obtain⟨u3,s0⟩:=r;obtain⟨⟨v,rfl,rfl⟩,A,t⟩:=(Zm.ok s).1 x;have hI:=Za s;have u:B (VN w D0 p g cap ts s0 _ Q lm vc lc):=h0.o.step A t;have M0:=u.o.pl;have N0:=u.o.gl;go_wp2_with fail;refine(G8 _ p g cap ts s0 (w.heap.size+1) _ u.o.pa u.o.he (by omega) (by omega) rfl rfl rfl).mono ?_;intro e i0 x
       cases s:Xi ts s0 with
       |error l=>
        obtain⟨y,t⟩:=(RI.err s).1 x;unfold Zj at y;subst y;exact⟨rfl,(Zm.err (by unfold Wk;rw[Zh hA.o,Zh hB.o,Zh hC.o,Zh hD.o,Zh hE.o,Zh hF.o,Zh hG.o,Zh hH.o,Zh hI.o,Yc s])).2 ⟨rfl,u.o.fr.monoNew t (fun k hk=>by omega)⟩⟩
       |ok r=>
        obtain⟨C,f1⟩:=r;obtain⟨rfl,⟨vr,E0,F⟩,A,t⟩:=(RI.ok s).1 x;have hJ:=Za s;have F0:=Za A;have G0:=Za (u.o.fr.monoNew t (fun k hk=>by omega));have HM:=Za (oF u.o.rm t (fun k hk=>by omega));have HC:=Za (oF u.o.rc t (fun k hk=>by omega));have HT:=Za (oS F u.o.size);have z0:=t.whole u.o.hr (by omega);obtain⟨ma,mn,mk,rfl⟩:=ZB HM.o;obtain⟨ca,cn,ck,rfl⟩:=ZB HC.o;obtain⟨ra,rn,rk,rfl⟩:=ZB HT.o;have H0:=Ii z0 rfl;have I0:i0.heap[w.heap.size+1]?=U (H #[I J a.sort,V a.text,I J a.line,I J b.sort,V b.text,I J b.line,I J c.sort,V c.text,I J c.line,I J d.sort,V d.text,I J d.line,Z ma mn mk,Z ca cn ck,O f.isSome,Ug f 0,Ug f 1,Ug f 2,Ug f 3,Ug f 4,Ug f 5,O C.decline,O C.cheapest,Z ra rn rk] 295):=E0
        have A0:(#[I J a.sort,V a.text,I J a.line,I J b.sort,V b.text,I J b.line,I J c.sort,V c.text,I J c.line,I J d.sort,V d.text,I J d.line,Z ma mn mk,Z ca cn ck,O f.isSome,Ug f 0,Ug f 1,Ug f 2,Ug f 3,Ug f 4,Ug f 5,O C.decline,O C.cheapest,Z ra rn rk]:Array D).all (·.oneCell')=true:=by
         cases f<;>simp[z7,Ug]
        have HW:B (Fr _ i0 (i0.setCells w.heap.size 0 (#[I J a.sort,V a.text,I J a.line,I J b.sort,V b.text,I J b.line,I J c.sort,V c.text,I J c.line,I J d.sort,V d.text,I J d.line,Z ma mn mk,Z ca cn ck,O f.isSome,Ug f 0,Ug f 1,Ug f 2,Ug f 3,Ug f 4,Ug f 5,O C.decline,O C.cheapest,Z ra rn rk]:Array D).toList)):=Ob _ _ _ _;have HV:B ((i0.setCells w.heap.size 0 (#[I J a.sort,V a.text,I J a.line,I J b.sort,V b.text,I J b.line,I J c.sort,V c.text,I J c.line,I J d.sort,V d.text,I J d.line,Z ma mn mk,Z ca cn ck,O f.isSome,Ug f 0,Ug f 1,Ug f 2,Ug f 3,Ug f 4,Ug f 5,O C.decline,O C.cheapest,Z ra rn rk]:Array D).toList).heap[w.heap.size]?=U (H #[I J a.sort,V a.text,I J a.line,I J b.sort,V b.text,I J b.line,I J c.sort,V c.text,I J c.line,I J d.sort,V d.text,I J d.line,Z ma mn mk,Z ca cn ck,O f.isSome,Ug f 0,Ug f 1,Ug f 2,Ug f 3,Ug f 4,Ug f 5,O C.decline,O C.cheapest,Z ra rn rk] 295)):=Lu z0 rfl;generalize t0:(#[I J a.sort,V a.text,I J a.line,I J b.sort,V b.text,I J b.line,I J c.sort,V c.text,I J c.line,I J d.sort,V d.text,I J d.line,Z ma mn mk,Z ca cn ck,O f.isSome,Ug f 0,Ug f 1,Ug f 2,Ug f 3,Ug f 4,Ug f 5,O C.decline,O C.cheapest,Z ra rn rk]:Array D)=cs at*;have HK:=Za t0
        have v0:(E.info? 295).map (·.size)=U cs.size:=by rw[<-t0];kernel_rfl
        have J0:=Za H0;have K0:=Za I0;have HN:=Za A0;have HZ:=Za v0
        have L0:B (cs.size=24):=by show _=_;rw[<-t0];rfl
        go_wp2_with (first|(refine wpList_load_row rfl 295 _ rfl (w.heap.size+1) rfl 295 cs (0,0) _ K0.o Tryz.underlying295 rfl HZ.o ?_)|(refine wpList_store_mid rfl 295 _ _ rfl w.heap.size 0 cs rfl rfl (by rw[L0.o];exact J0.o) HZ.o HN.o ?_))
        have G:=HW.o
        exact bodyPost_ret (v:=z4 cs) (results_cell_row rfl _ _ w.heap.size 295 cs (0,0) _ rfl HV.o Tryz.underlying295 rfl HZ.o) rfl ((Zm.ok (by unfold Wk;rw[Zh hA.o,Zh hB.o,Zh hC.o,Zh hD.o,Zh hE.o,Zh hF.o,Zh hG.o,Zh hH.o,Zh hI.o,Zh hJ.o])).2 ⟨⟨_,rfl,Z ma mn mk,Z ca cn ck,Z ra rn rk,congrArg Value.agg HK.o.symm,
         oS (oF HM.o G (fun k hk=>by omega)) (by omega),oS (oF HC.o G (fun k hk=>by omega)) (by omega),oS (oF HT.o G (fun k hk=>by omega)) (by omega)⟩,
         F0.o.fr G (fun k hk=>by omega),G0.o.monoNew G (fun k hk=>by omega)⟩)
theorem bI {α β}{r:Except Nat (α×Nat)}{f}{b:β}{k}(h:YU r f=.ok (b,k)):∃a j,r=.ok (a,j)/\f a j=.ok (b,k):=by
 unfold YU at h
 split at h
 ·cases h
 exact⟨_,_,rfl,h⟩
theorem Yu {ts i m u a}(h:ZF ts i m=.ok (u,a)):a=i+1:=by
 unfold ZF at h
 split at h
 ·injection h with h;injection h with c b;exact b.symm
 cases h
theorem WK (ts i):UU ts i=YU (Z9 ts i 1) fun a i=>YU (ZF ts i Ub) fun _ i=>YU (Z9 ts i 1) fun b i=>.ok ((a,b),i):=by
 unfold UU YU
 cases Z9 ts i 1 with
 |error l=>rfl
 |ok r=>
  obtain⟨a,c⟩:=r
  dsimp only
  cases ZF ts c Ub with
  |error l=>rfl
  |ok r=>
   obtain⟨u,d⟩:=r
   dsimp only
   cases Z9 ts d 1 with
   |error l=>rfl
   |ok r=>rfl
theorem Ij {ts i c k}(h:UU ts i=.ok (c,k)):i<k:=by
 rw[WK]at h;obtain⟨a,g,d,h⟩:=bI h;obtain⟨_,j,e,h⟩:=bI h;obtain⟨b,l,f,h⟩:=bI h;have m:=(Yt d).2.2;have n:=Yu e;have o:=(Yt f).2.2;injection h with h;injection h with _ h;omega
theorem Ah {ts a}:∀n i b l k,ts.length-i=n->XW ts i a b=.ok (l,k)->i<=k:=by
 intro n
 induction n using C with
 |ind n d=>
  intro i b l k m h;rw[XW]at h
  split at h
  ·rename_i f
   have g:=Up f
   split at h
   ·cases h
   rename_i t c j
   have e:=(Yt j).2.2;have:=d (ts.length-c) (by omega) c _ l k rfl h;omega
  injection h with h;injection h with _ h;omega
theorem Np {ts i a l k}(h:Xl ts i a=.ok (l,k)):i<k:=by
 unfold Xl at h
 split at h
 ·cases h
 rename_i t b c
 have e:=(Yt c).2.2;have:=Ah _ b [t] l k rfl h;omega
theorem Nq {ts i kw l k}(h:Xh ts i kw=.ok (l,k)):i<=k:=by
 unfold Xh at h
 split at h
 ·have:=Np h;omega
 injection h with h;injection h with _ h;omega
theorem G9 {ts i kw l k}(h:Wv ts i kw=.ok (l,k)):i<=k:=by
 unfold Wv at h
 split at h
 ·obtain⟨c,j,b,a⟩:=bI h
  have:=Ij b;injection a with a;injection a with _ a;omega
 injection h with h;injection h with _ h;omega
theorem Fb {ts i a k}(h:Xi ts i=.ok (a,k)):i<k:=by
 unfold Xi at h
 split at h
 ·injection h with h;injection h with _ h;omega
 split at h
 ·obtain⟨l,j,c,b⟩:=bI h
  have:=Np c;injection b with b;injection b with _ b;omega
 obtain⟨l,j,c,b⟩:=bI h
 have:=Np c;injection b with b;injection b with _ b;omega
theorem D8 {ts i r k}(h:WJ ts i=.ok (r,k)):i<k:=by
 unfold WJ at h;obtain⟨a,g,d,h⟩:=bI h;obtain⟨b,j,e,h⟩:=bI h;obtain⟨c,l,f,h⟩:=bI h;have m:=(Yt d).2.2;have n:=(Yt e).2.2;have o:=(Yt f).2.2;injection h with h;injection h with _ h;omega
theorem Ai {ts i r k}(h:Wk ts i=.ok (r,k)):i<k:=by
 unfold Wk at h;obtain⟨a,x,j,h⟩:=bI h;obtain⟨b,y,l,h⟩:=bI h;obtain⟨_,z,m,h⟩:=bI h;obtain⟨_,A,n,h⟩:=bI h;obtain⟨c,B,o,h⟩:=bI h;obtain⟨d,C,p,h⟩:=bI h;obtain⟨f,D,q,h⟩:=bI h;obtain⟨g,E,s,h⟩:=bI h;obtain⟨_,F,t,h⟩:=bI h;obtain⟨u,v,e,h⟩:=bI h;have G:=(Yt j).2.2;have H:=(Yt l).2.2;have I:=Yu m;have J:=Yu n;have K:=Ij o;have L:=Nq p;have M:=G9 q;have N:=Nq s;have O:=Yu t;have w:=Fb e;injection h with h;injection h with _ h;omega
theorem WY {ts i e k}(h:ZV ts i=.ok (e,k)):i<k:=by
 unfold ZV at h
 split at h
 ·obtain⟨r,j,b,a⟩:=bI h
  have:=D8 b;injection a with a;injection a with _ a;omega
 obtain⟨_,j,b,h⟩:=bI h
 obtain⟨r,c,a,h⟩:=bI h;have:=Yu b;have:=Ai a;injection h with h;injection h with _ h;omega
def Zr (ts:List Tk)(i:Nat)(a:List Vu):Except Nat (List Vu×Nat):=
 if _hs:(Zo ts i).sort=3 then .ok (a,i)
 else match _he:ZV ts i with
  | .error l=>.error l
  | .ok (e,j)=>match _hx:ZF ts j Vd with
   | .error l=>.error l
   | .ok (_,k)=>Zr ts k (a++[e])
 termination_by ts.length-i
 decreasing_by
  have c:=WY _he;have d:=Yu _hx
  have f:i<ts.length:=by
   rcases x3 i ts.length with b|b
   ·exact b
   ·exfalso
    apply _hs;unfold Zo;rw[gD,z8 b];rfl
  omega
theorem XD {ts i a}(h:(Zo ts i).sort=3):Zr ts i a=.ok (a,i):=by
 rw[Zr,dif_pos h]
theorem YK {ts i a l}(h:¬(Zo ts i).sort=3)(b:ZV ts i=.error l):Zr ts i a=.error l:=by
 rw[Zr,dif_neg h];split<;>simp_all
theorem Y9 {ts i a l e j}(h:¬(Zo ts i).sort=3)(b:ZV ts i=.ok (e,j))(c:ZF ts j Vd=.error l):Zr ts i a=.error l:=by
 rw[Zr,dif_neg h]
 split
 ·simp_all
 split<;>simp_all
theorem X6 {ts i a e j u k}(h:¬(Zo ts i).sort=3)(b:ZV ts i=.ok (e,j))(c:ZF ts j Vd=.ok (u,k)):Zr ts i a=Zr ts k (a++[e]):=by
 rw[Zr,dif_neg h]
 split
 ·simp_all
 split<;>simp_all
def QG (base:Nat)(w:M)(x:Vu)(v:D):Prop:=
 match x with
 | .route r=>v=.iface 290 (UW r)
 | .rule r=>∃a b c,v=.iface 295 (Oa r a b c)/\w.ownsRow base 263 3 a r.mcc.length (Ys r.mcc)/\w.ownsRow base 263 3 b r.cur.length (Ys r.cur)/\w.ownsRow base 263 3 c r.act.routes.length (Ys r.act.routes)
theorem QG.fr {base a w w' x v S}(h:QG base w x v)(b:Fr S w w')(c:∀k,S k->k<base)(d:a<=base):QG a w' x v:=by
 cases x with
 |route r=>exact h
 |rule r=>
  obtain⟨e,f,g,i,j,l,m⟩:=h;exact⟨e,f,g,i,oS (oF j b c) d,oS (oF l b c) d,oS (oF m b c) d⟩
theorem D9 (w p g cap ts i)(h:Pa w p g cap ts i):
  R E 157 #[x2 (U ⟨p,0,Y⟩)] w (Zm (ZV ts i) (fun x v w'=>QG w.heap.size w' x v) w p g cap ts):=by
 have t:=Za h;have N:p<w.heap.size:=bL w _ h.c0;clear h
 cases n:Zn (Zo ts i) WX with
 |true=>
  go_enter Tryz.func157,Tryz.ntmps157;go_wp2_with fail;refine(SM w p g cap ts i _ WX t.o t.o.at n).mono ?_;rintro e I ⟨rfl,y,a⟩;have d:=Za a;have q:=Za y;clear y a;go_wp2_with fail;refine(D7 _ p g cap ts (i+1) q.o).mono ?_;intro e w2 f
  cases b:WJ ts (i+1)with
  |error l=>
   obtain⟨m,a⟩:=(Zm.err b).1 f;unfold Zj at m;subst m;exact⟨rfl,(Zm.err (by unfold ZV;rw[if_pos n,Yc b])).2 ⟨rfl,d.o.trans a⟩⟩
  |ok r=>
   obtain⟨r,C⟩:=r;obtain⟨⟨v,rfl,rfl⟩,j,a⟩:=(Zm.ok b).1 f;have c:=Za (d.o.trans a);have s:=Za j
   have D:B (ZV ts i=.ok (.route r,C)):=by show _=_;unfold ZV;rw[if_pos n,Zh b]
   clear b f j a;generalize z:UW r=v;have F:=Za z;clear z;go_wp2;go_ret;refine(Zm.ok D.o).2 ⟨⟨_,rfl,?_⟩,s.o,c.o⟩
   show _=_
   rw[F.o];rfl
 |false=>
  go_enter Tryz.func157,Tryz.ntmps157;go_wp2_with fail;refine(QC w p g cap ts i _ WX t.o t.o.at n).mono ?_;rintro e I ⟨rfl,a⟩;have d:B (Fr (fun k=>k=p) w I):=a.mono;have q:=Za (t.o.fr a);clear a;go_wp2_with fail;refine(Uf _ p g cap ts i Ue q.o).mono ?_;intro e w2 f
  cases b:ZF ts i Ue with
  |error l=>
   obtain⟨m,a⟩:=(Zm.err b).1 f;unfold Zj at m;subst m;exact⟨rfl,(Zm.err (by unfold ZV;rw[if_neg (by simp[n]),Yc b])).2 ⟨rfl,d.o.trans a⟩⟩
  |ok r=>
   obtain⟨u,C⟩:=r;obtain⟨⟨v,rfl,rfl⟩,j,a⟩:=(Zm.ok b).1 f;have c:=Za (d.o.trans a);have s:=Za j;have J:=Za b;clear b f j a;go_wp2_with fail;refine(Ag _ p g cap ts C s.o).mono ?_;intro e O f
   cases b:Wk ts C with
   |error l=>
    obtain⟨m,a⟩:=(Zm.err b).1 f;unfold Zj at m;subst m;exact⟨rfl,(Zm.err (by unfold ZV;rw[if_neg (by simp[n]),Zh J.o,Yc b])).2 ⟨rfl,c.o.trans a⟩⟩
   |ok r=>
    obtain⟨r,P⟩:=r;obtain⟨⟨v,rfl,Q,S,T,z,K,L,M⟩,A,a⟩:=(Zm.ok b).1 f;have G:=Za (c.o.trans a);have H:=Za A
    have D:B (ZV ts i=.ok (.rule r,P)):=by show _=_;unfold ZV;rw[if_neg (by simp[n]),Zh J.o,Zh b]
    have F:B (QG w.heap.size O (.rule r) (.iface 295 v)):=⟨Q,S,T,by rw[z],oS K c.o.size,oS L c.o.size,oS M c.o.size⟩;clear b f A a z K L M;go_wp2;go_ret;exact(Zm.ok D.o).2 ⟨⟨_,rfl,F.o⟩,H.o,G.o⟩
def YV (base:Nat)(w:M):List Vu->List D->Prop
 |[],[]=>True
 |x::xs,v::vs=>QG base w x v/\YV base w xs vs
 |_,_=>False
theorem YV.fr {base:Nat}{w w':M}{S:Nat->Prop}(a:Fr S w w')(b:∀k,S k->k<base):∀{c:List Vu}{d:List D},YV base w c d->YV base w' c d
 |[],[],_=>trivial
 |_::_,_::_,h=>⟨h.1.fr a b (z5 _),YV.fr a b h.2⟩
 |[],_::_,h=>h
 |_::_,[],h=>h
theorem YV.base {base a:Nat}{w:M}(b:a<=base):∀{c:List Vu}{d:List D},YV base w c d->YV a w c d
 |[],[],_=>trivial
 |_::_,_::_,h=>⟨h.1.fr (Fr.refl (fun _=>False) w) (by simp) b,YV.base b h.2⟩
 |[],_::_,h=>h
 |_::_,[],h=>h
theorem QG.iface {base w x v}(h:QG base w x v):∃T u,v=.iface T u:=by
 cases x with
 |route r=>exact⟨_,_,h⟩
 |rule r=>obtain⟨_,_,_,a,_⟩:=h;exact⟨_,_,a⟩
theorem YV.length {base:Nat}{w:M}:∀{a:List Vu}{b:List D},YV base w a b->a.length=b.length
 |[],[],_=>rfl
 |_::_,_::_,h=>by simp[YV.length h.2]
theorem YV.snoc {base:Nat}{w:M}{x:Vu}{v:D}(a:QG base w x v):∀{b:List Vu}{c:List D},YV base w b c->YV base w (b++[x]) (c++[v])
 |[],[],_=>⟨a,trivial⟩
 |_::_,_::_,h=>⟨h.1,YV.snoc a h.2⟩
theorem WL {w:M}{j l c d o p v u n m q r}(h:w.ownsRow j c o v n q)(k:w.ownsRow l d p u m r)(b:c≠d):v.ownBlock=Y\/v.ownBlock≠u.ownBlock:=by
 rcases h.2 with⟨rfl,_⟩|⟨g,cap,s,rfl,_,t,_⟩
 ·exact .inl rfl
 refine .inr fun e=>?_
 rcases k.2 with⟨rfl,_⟩|⟨x,f,i,rfl,_,a,_⟩
 ·simp[y8]at e
 simp[y8]at e
 subst e;rw[t]at a;injection a with a;injection a with _ a;exact b a
theorem QG.grown {base e m w w' x v u f}(h:QG base w x v)(k:w.ownsRow e 256 1 u m f)(a:w.grownBy w' u.ownBlock):QG base w' x v:=by
 cases x with
 |route r=>exact h
 |rule r=>
  obtain⟨g,i,j,l,b,c,d⟩:=h;exact⟨g,i,j,l,b.kept a (WL b k (by decide)),c.kept a (WL c k (by decide)),d.kept a (WL d k (by decide))⟩
theorem YV.grown {base d m:Nat}{w w':M}{u:D}{e:List D}(k:w.ownsRow d 256 1 u m e)(a:w.grownBy w' u.ownBlock):∀{b:List Vu}{c:List D},YV base w b c->YV base w' b c
 |[],[],_=>trivial
 |_::_,_::_,h=>⟨h.1.grown k a,YV.grown k a h.2⟩
 |[],_::_,h=>h
 |_::_,[],h=>h
theorem Nr:(E.info? 256).map (fun i=>(i.zero,i.size,i.bytes))=U (U .nilIface,1,16):=by kernel_rfl
theorem Fc (a b c w):(Instr.field 263 (z4 #[a,b,c]) 0).run E w=.ok a w:=by kernel_rfl
def WM (w:M)(ts:List Tk)(e:Ending)(w':M):Prop:=
 match Zr ts 0 []with
 | .ok (xs,_)=>(∃v a,e=G v/\w'.ownsRow w.heap.size 256 1 v xs.length a/\YV w.heap.size w' xs a/\xs.length<=4000)/\Below w.heap.size w w'
 | .error l=>e=Zj 3 l/\Below w.heap.size w w'
theorem Cb (w g cap ts)(i:∀j t,ts[j]?=U t->w.cell? ⟨g,j*3,Y⟩=U (I J t.sort)/\w.cell? ⟨g,j*3+1,Y⟩=U (V t.text)/\w.cell? ⟨g,j*3+2,Y⟩=U (I J t.line))(p:g<w.heap.size)(h0:0<ts.length)(z:ts.length<=4000)(q:(ts.getLastD ⟨3,A,0⟩).sort=3):
  R E 103 #[Z (U ⟨g,0,Y⟩) ts.length cap] w (WM w ts):=by
 have HP:B (Pa (w.alloc (H #[Z (U ⟨g,0,Y⟩) ts.length cap,I J 0] 260)) w.heap.size g cap ts 0):=by
  refine⟨by simp[go_sem],by simp[go_sem],by simp[go_sem],fun j t hj=>?_,by omega,by simp;omega,h0,z,q⟩;rw[z0 _ _ _ (by exact p),z0 _ _ _ (by exact p),z0 _ _ _ (by exact p)];exact i j t hj
 obtain⟨ii,hi,X,a0,b0⟩:=info_parts Nr;have A0:=Fc;go_enter Tryz.func103,Tryz.ntmps103;go_wp2_with fail
 go_loopg [4] ts.length (fun m l wr=>∃j c y,m=ts.length-j/\B (Pa wr w.heap.size g cap ts j)/\B (Below w.heap.size w wr)/\B (wr.ownsRow (w.heap.size+1) 256 1 l c.length y)/\B (YV (w.heap.size+1) wr c y)/\B (c.length<=j)/\B (Zr ts 0 []=Zr ts j c))
 case atStart=>exact⟨0,[],[],rfl,HP.o,(Below.refl _ _).alloc (z5 _) _,oZ _ _ _ _,trivial,y7 _,rfl⟩
 obtain⟨j,c,y,rfl,d,HB,HO,HV,HL,S⟩:=hrel;have d0:w.heap.size<wr.heap.size:=bL wr _ d.o.c0;by_cases h3:(Zo ts j).sort=3
 ·go_wp2_with fail
  refine(VL wr w.heap.size g cap ts j _ d.o d.o.at).mono ?_;rintro e W ⟨rfl,a⟩;have HF:=Za a
  have b:B (WM w ts (G u4) W):=by
   show WM w ts (G u4) W
   unfold WM;rw[S.o.trans (XD h3)];refine⟨⟨u4,y,rfl,oS (oF HO.o a) (by omega),?_,?_⟩,HB.o.trans (a.below (by omega))⟩
   ·exact YV.base (by omega) (YV.fr a (by simp) HV.o)
   have:=HL.o;have:=d.o.lt;omega
  simp only[Qc,h3];go_wp2;go_ret;exact b.o
 have B0:(((Zo ts j).sort:Int) !=3)=true:=by simp;omega
 have H3:=Za h3;go_wp2_with fail;refine(VL wr w.heap.size g cap ts j _ d.o d.o.at).mono ?_;rintro e W ⟨rfl,a⟩;have C:=Za (d.o.fr a);have D:=Za (HB.o.trans (a.below (by omega)));have e0:=Za (oF HO.o a);have f0:=Za (YV.fr a (by simp) HV.o);have g0:w.heap.size<W.heap.size:=nL d0 a.size;simp only[Qc];go_wp2_with fail;refine(D9 _ w.heap.size g cap ts j C.o).mono ?_;intro e w2 F
 cases K:ZV ts j with
 |error l=>
  obtain⟨M,a⟩:=(Zm.err K).1 F;unfold Zj at M;subst M
  have b:WM w ts (Zj 3 l) w2:=by
   unfold WM;rw[S.o.trans (YK H3.o K)];exact⟨rfl,D.o.trans (a.below (by omega) (fun k h=>by omega))⟩
  exact⟨rfl,b⟩
 |ok r=>
  obtain⟨x,j2⟩:=r;obtain⟨⟨v,rfl,hx⟩,i0,a⟩:=(Zm.ok K).1 F;obtain⟨T,u,rfl⟩:=hx.iface;have HX:B (QG (w.heap.size+1) w2 x (.iface T u)):=hx.fr (Fr.refl (fun _=>False) w2) (by simp) (by omega);have j0:=Za i0;have k0:=Za (D.o.trans (a.below (by omega) (fun k h=>by omega)));have n:=Za (oF e0.o a (fun k h=>by omega));have l0:=Za (YV.fr a (fun k h=>by omega) f0.o);have m0:w.heap.size<w2.heap.size:=nL g0 a.size;have HM:=Za K;have C0:=WY K;have x0:=HL.o;have hj:=C.o.lt
  go_wp2_with (at_builtin;refine wpList_append_lies _ rfl (.tmp 12) (.tmp 15) 191 rfl (w.heap.size+1) 256 ii _ 1 16 Tryz.underlying191 hi X a0 b0 rfl (by decide) u4 c.length y rfl ?h1 ⟨w2.heap.size,0,Y⟩ 1 1 [.iface T u] rfl rfl ?h2 ?h3 (by decide) ?h4 ?h5 ?h6 _ rfl ?h7)
  case h1=>exact n.o.alloc _
  case h2=>exact z9 (aN w2 _)
  case h3=>simp[z7]
  case h4=>unfold maxLen;omega
  case h5=>omega
  case h6=>simp;omega
  intro g2 y0 w3 N f _ _;have O:=(Lt w2 (H #[.iface T u] 256)).1
  have i:∀k,u4.ownBlock=U k->w.heap.size+1<=k:=fun k h=>(n.o.lt k h).1
  have n0:=Za N;have o0:=Za (YV.snoc ((HX.o.fr O (by simp) (z5 _)).grown (n.o.alloc _) f) (YV.grown (n.o.alloc _) f (YV.fr O (by simp) l0.o)));have s:Fr (fun k=>w.heap.size+1<=k) w2 w3:=((Zt.alloc _).grown f (fun k h=>L (i k h)));have p0:=Za (j0.o.fr s (fun k h=>by omega));have P:=Za (k0.o.trans (s.below (by omega) (fun k h=>by omega)));have D0:w.heap.size<w3.heap.size:=nL m0 s.size;go_wp2_with fail;refine(Uf _ w.heap.size g cap ts j2 Vd p0.o).mono ?_;intro e w4 F
  cases Q:ZF ts j2 Vd with
  |error l=>
   obtain⟨M,a⟩:=(Zm.err Q).1 F;unfold Zj at M;subst M
   have b:WM w ts (Zj 3 l) w4:=by
    unfold WM;rw[S.o.trans (Y9 H3.o HM.o Q)];exact⟨rfl,P.o.trans (a.below (by omega) (fun k h=>by omega))⟩
   exact⟨rfl,b⟩
  |ok r=>
   obtain⟨u0,j4⟩:=r;obtain⟨⟨v,rfl,rfl⟩,q0,a⟩:=(Zm.ok Q).1 F;have r0:=Za q0;have s0:=Za (P.o.trans (a.below (by omega) (fun k h=>by omega)));have t0:=Za (oF n0.o a (fun k h=>by omega));have v0:=Za (YV.fr a (fun k h=>by omega) o0.o);have w0:=Za (S.o.trans (X6 H3.o HM.o Q));have E0:=Yu Q;go_wp2;go_roundg (ts.length-j4)
   case measure=>omega
   refine⟨j4,c++[x],y++[.iface T u],rfl,r0,s0,?_,v0,?_,w0⟩
   ·show y9 _ _ _ _ _ _ _
    rw[lA];exact t0.o
   show _<=_
   simp;omega
def Yv (l:List UInt8):Nat:=l.foldl (fun n c=>n*10+(c.toNat-48)) 0
theorem UX (l c):Yv (l++[c])=Yv l*10+(c.toNat-48):=by simp[Yv]
def Dg (t:ByteArray):Prop:=t.size<=9/\∀k,k<t.size->48<=ZD t k/\ZD t k<=57
theorem Aj (s)(a:Dg s):∀k,k<=s.size->Yv (s.data.toList.take k)+1<=10^k:=by
 intro k
 induction k with
 |zero=>intro _;simp[Yv]
 |succ k b=>
  intro f;have g:=b (by omega);have c:=(a.2 k (by omega)).2;have d:=(a.2 k (by omega)).1;rw[Q (by simp;omega),UX];have e:ZD s k=((s.data.toList[k]'(by simp;omega)).toNat:Int):=Nh s k (by omega);rw[e]at c d;rw[Nat.pow_succ];omega
theorem SP (s)(a:Dg s)(k)(b:k<=s.size):Yv (s.data.toList.take k)+1<=1000000000:=by
 have c:=Aj s a k b;have d:10^k<=10^9:=Nat.pow_le_pow_right (by decide) (by have:=a.1;omega);exact Nat.le_trans c d
theorem Ns (s)(a:Dg s)(k)(b:k<s.size):(Yv (s.data.toList.take (k+1)):Int)=(Yv (s.data.toList.take k):Int)*10+(ZD s k-48):=by
 rw[Q (by simp;omega),UX];have c:ZD s k=((s.data.toList[k]'(by simp;omega)).toNat:Int):=Nh s k (by omega);have d:=(a.2 k b).1;rw[c]at d ⊢;omega
theorem Wn (w e s):F0 w (Lib.bytesWorld w e s):=
 ⟨by unfold Lib.bytesWorld y2;split<;>rfl,by unfold Lib.bytesWorld y2;split<;>rfl,by unfold Lib.bytesWorld y2;split<;>rfl,by rw[Lib.bytesWorld_size];omega,fun k a _=>Lib.bytesWorld_at_old w e s k a⟩
theorem Rm (t w)(h:Dg t.text):
  R E 313 #[Qc t] w fun e w'=>e=G (I J (Yv t.text.data.toList))/\F0 w w':=by
 have d:=Za h
 have f:=fun w=>Lib.run_convert_string_bytes (P:=E) w 9 50 5 t.text Tryz.underlying9 Tryz.underlying50 Tryz.underlying5
 clear h;unfold Qc;go_enter Tryz.func313,Tryz.ntmps313;go_wp2_with fail;have l:B (Fr _ w (Lib.bytesWorld (w.alloc (H #[I J t.sort,V t.text,I J t.line] 263)) 5 t.text)):=(Zt.alloc _).trans (Wn _ _ _)
 have a:∀j,j<t.text.size->(Lib.bytesWorld (w.alloc (H #[I J t.sort,V t.text,I J t.line] 263)) 5 t.text).cell? ⟨w.heap.size+1,j,Y⟩=U (I .u8 (ZD t.text j)):=fun j m=>by
  have:=Lib.bytesWorld_cell (w.alloc (H #[I J t.sort,V t.text,I J t.line] 263)) 5 t.text j m
  simpa[ZD]using this
 have p:=Za a;clear a f;have q:=d.o.1;generalize Lib.bytesWorld (w.alloc _) 5 t.text=W at*;generalize grownCap _ _ _ _=cap at*
 go_loop [3,5,10] (fun n _ i=>∃k:Nat,k<=t.text.size/\i=I J k/\n=I J (Yv (t.text.data.toList.take k))) (fun _ _ i=>t.text.size-(intOf i).toNat)
 case atStart=>exact⟨0,y7 _,rfl,rfl⟩
 obtain⟨k,r,rfl,rfl⟩:=hrel;have v:=SP t.text d.o k r;by_cases b:k<t.text.size
 ·have x:=p.o k b
  have g:=Za (Ns t.text d.o k b);have s:=d.o.2 k b
  have u:(k:Int)<(t.text.size:Int):=by omega
  generalize Yv (t.text.data.toList.take k)=n at*;generalize ZD t.text k=c at*;go_wp2;refine⟨⟨k+1,by omega,by go_num,?_⟩,by simp[intOf];omega⟩;rw[g.o]
 go_wp2
 go_ret;exact⟨ZP (by rw[F (by simp;omega)]),l.o⟩
def Zd (t:Tk):Nat:=Yv t.text.data.toList
theorem Oc (t)(a:Dg t.text):Zd t<=999999999:=by
 have:=SP t.text a t.text.size (z5 _);rw[F (by simp)]at this;unfold Zd;omega
theorem Rn (t w a)(b:Int)(c:Dg t.text)(k:Zd t<=a)(d:b=a):
  R E 316 #[Qc t,I J b] w fun e w'=>e=G (I J (Zd t))/\F0 w w':=by
 subst d
 have f:B (∀W,R E 313 #[z4 #[I J t.sort,V t.text,I J t.line]] W fun e w'=>e=G (I J (Zd t))/\F0 W w'):=fun W=>Rm t W c
 have g:¬(a:Int)<(Zd t:Int):=by omega
 generalize Zd t=n at*;unfold Qc;go_enter Tryz.func316,Tryz.ntmps316
 go_wp2_with (go_at_call 313;refine DZ (f.o _) fun h i=>?_;have j:B (F0 w h):=(Zt.alloc _).trans i)
 go_ret;exact⟨rfl,j.o⟩
theorem QH (t w a)(d:Int)(h:Dg t.text)(l:a<Zd t)(f:d=a):
  R E 316 #[Qc t,I J d] w fun e w'=>e=Zj 5 t.line/\F0 w w':=by
 subst f
 have i:B (∀W,R E 313 #[z4 #[I J t.sort,V t.text,I J t.line]] W fun e w'=>e=G (I J (Zd t))/\F0 W w'):=fun W=>Rm t W h
 have j:(a:Int)<(Zd t:Int):=by omega
 generalize Zd t=n at*;unfold Qc;go_enter Tryz.func316,Tryz.ntmps316;go_wp2_with fail;refine(i.o _).mono ?_;rintro e m ⟨rfl,b⟩;have k:=Za ((Zt.alloc _).trans b);have c:=b.whole (aN w _);have p:=Zc c 0;have f:=Zc c 1;have q:=Zc c 2;go_wp2_with fail;refine(YE t 5 _ _ (by rfl)).mono ?_;rintro e r ⟨g,b⟩;unfold Zj at g;subst g;exact⟨rfl,rfl,k.o.trans b⟩
def TK (n:Nat)(t:Tk):Prop:=(t.sort=1->Dg t.text)/\t.text.size<=n/\t.sort<=3
theorem Qd (p:Int->Bool):∀(l:List UInt8)(j:Nat),j<X4 p l->∃c,l[j]?=U c/\p (c.toNat:Int)=true
 |[],j,h=>by simp[X4]at h
 |c::r,j,h=>by
  simp only[X4]at h
  split at h
  ·rename_i a
   cases j with
   |zero=>exact⟨c,rfl,a⟩
   |succ j=>
    obtain⟨d,b,e⟩:=Qd p r j (by omega);exact⟨d,by simpa using b,e⟩
  omega
theorem SQ (s a b j)(h:a+j<b):ZD (s.extract a b) j=ZD s (a+j):=by
 unfold ZD;rw[Lib.extract_data,gD,gD,z1,if_pos (by omega),y5]
theorem wR (s k)(d:k<=s.size)(i:ZN iD s k<=9):Dg (s.extract k (k+ZN iD s k)):=by
 have f:=Wi iD s k d;refine⟨by simp;omega,fun j g=>?_⟩
 have a:j<ZN iD s k:=by simp at g;omega
 rw[SQ s k _ j (by omega)];obtain⟨c,b,h⟩:=Qd iD (s.data.toList.drop k) j a;rw[y5]at b
 have e:ZD s (k+j)=(c.toNat:Int):=by unfold ZD;rw[gD,b];rfl
 rw[e]
 simpa[iD]using h
theorem Fd {s k f k' t}(h:k<s.size)(c:Zs s k f=.tok t k'):TK s.size t:=by
 have g:∀a b,(s.extract a b).size<=s.size:=fun a b=>by simp;omega
 unfold Zs at c
 split at c
 ·contradiction
 split at c
 ·contradiction
 split at c
 ·contradiction
 split at c
 ·split at c
  ·injection c with d i;subst d;exact⟨fun e=>by simp at e,g _ _,by simp⟩
  split at c
  ·contradiction
  injection c with d i;subst d;exact⟨fun e=>by simp at e,g _ _,by simp⟩
 split at c
 ·split at c
  ·contradiction
  rename_i j
  injection c with d i;subst d;exact⟨fun _=>wR s k (by omega) (by omega),g _ _,by simp⟩
 split at c
 ·injection c with d i;subst d;exact⟨fun e=>by simp at e,g _ _,by simp⟩
 split at c
 ·injection c with d i;subst d;exact⟨fun e=>by simp at e,g _ _,by simp⟩
 contradiction
theorem SR {s}:∀n k a c ts,s.size-k=n->(∀t,t∈c->TK s.size t)->ZL s k a c=.ok ts->(∀t,t∈ts->TK s.size t)/\(ts.getLastD ⟨3,A,0⟩).sort=3/\0<ts.length:=by
 intro n
 induction n using C with
 |ind n i=>
  intro k a c ts j d h;by_cases f:k<s.size
  ·cases g:Zs s k a with
   |skip k' l'=>
    rw[YI f g]at h;have:=X5 f g;exact i (s.size-k') (by omega) k' l' c ts rfl d h
   |tok t k'=>
    rw[WH f g]at h;have:=WG f g;refine i (s.size-k') (by omega) k' a (c++[t]) ts rfl (fun u b=>?_) h;rcases z3.1 b with b|b
    ·exact d u b
    simp at b;subst b;exact Fd f g
   |bad=>rw[Xq f g]at h;cases h
  rw[WI f]at h
  injection h with h;subst h;refine⟨fun u b=>?_,by simp,by simp⟩;rcases z3.1 b with b|b
  ·exact d u b
  simp at b;subst b;exact⟨fun e=>by simp at e,by simp,by simp⟩
inductive Ik where
 |rules|mccs|amounts|curs|ints|names|action|NAME|INT
 |lit (m:ByteArray)
def Px:List Ik:=[.lit WX,.NAME,.INT,.INT,.lit Vd,.rules]
def Nt:List Ik:=[.lit Ue,.NAME,.INT,.lit Ty,.lit RH,.INT,.lit Ub,.INT,.mccs,.amounts,.curs,.lit T8,.action,.lit Vd,.rules]
def Yw (s:Ik)(t:Tk):Option (List Ik):=
 match s with
 | .rules=>U (if Zn t WX then Px else if Zn t Ue then Nt else[])
 | .mccs=>U (if Zn t Vc then[.lit Vc,.INT,.ints]else[])
 | .amounts=>U (if Zn t Z7 then[.lit Z7,.INT,.lit Ub,.INT]else[])
 | .curs=>U (if Zn t Vz then[.lit Vz,.INT,.ints]else[])
 | .ints=>U (if Zn t Y2 then[.lit Y2,.INT,.ints]else[])
 | .names=>U (if Zn t Y2 then[.lit Y2,.NAME,.names]else[])
 | .action=>U (if Zn t YM then[.lit YM]else if Zn t Yj then[.lit Yj,.NAME,.names]else[.NAME,.names])
 |_=>Y
def UY (s:Ik)(t:Tk):Bool:=
 match s with
 | .NAME=>decide (t.sort=0)
 | .INT=>decide (t.sort=1)
 | .lit m=>Zn t m
 |_=>false
def YJ (ts:List Tk):Nat->List Ik->Nat->Option (Option Nat)
 |_,[],i=>U (if(Zo ts i).sort=3 then Y else U i)
 |0,_::_,_=>Y
 |m+1,s::rest,i=>match Yw s (Zo ts i)with
  |some l=>YJ ts m (l++rest) i
  |none=>if UY s (Zo ts i)then YJ ts m rest (i+1)else U (U i)
section
variable {ts:List Tk}
theorem Tl (m i):YJ ts m [] i=U (if(Zo ts i).sort=3 then Y else U i):=by cases m<;>rfl
def Nu (ts:List Tk)(a:List Ik)(i:Nat)(r:Option Nat):Prop:=∃m,YJ ts m a i=U r
theorem Uq {s a l i r}(h:Yw s (Zo ts i)=U l)(b:Nu ts (l++a) i r):Nu ts (s::a) i r:=by
 obtain⟨m,c⟩:=b;exact⟨m+1,by simp only[YJ,h];exact c⟩
theorem QI {s a i r}(h:Yw s (Zo ts i)=Y)(b:UY s (Zo ts i)=true)(c:Nu ts a (i+1) r):Nu ts (s::a) i r:=by
 obtain⟨m,d⟩:=c;exact⟨m+1,by simp only[YJ,h,b,if_true];exact d⟩
theorem Il {s a i}(h:Yw s (Zo ts i)=Y)(b:UY s (Zo ts i)=false):Nu ts (s::a) i (U i):=
 ⟨1,by simp only[YJ,h,b];rfl⟩
def Ak (ts:List Tk)(a:List Ik)(i l:Nat):Prop:=∃j,Nu ts a i (U j)/\(Zo ts j).line=l
structure Yg {α:Type}(ts:List Tk)(st:List Ik)(p:Except Nat (α×Nat))(i:Nat):Prop where
 err:∀rest l,p=.error l->Ak ts (st++rest) i l
 ok:∀rest a j r,p=.ok (a,j)->Nu ts rest j r->Nu ts (st++rest) i r
theorem VO {α}(a:α)(i):Yg ts [] (.ok (a,i)) i:=
 ⟨fun _ _ h=>(by cases h),fun b d j r h c=>by injection h with h;injection h with _ h;subst h;exact c⟩
theorem ZG {α β st1 st2 p}{f:α->Nat->Except Nat (β×Nat)}{i}(e:Yg ts st1 p i)(m:∀a j,p=.ok (a,j)->Yg ts st2 (f a j) j):Yg ts (st1++st2) (YU p f) i:=by
 constructor
 ·intro c l h
  cases d:p with
  |error l'=>
   rw[d]at h
   have n:l'=l:=by injection h
   subst n;rw[z2];exact e.err _ _ d
  |ok r=>
   obtain⟨a,j⟩:=r;rw[d]at h;obtain⟨o,g,q⟩:=(m a j d).err c l h;rw[z2];exact⟨o,e.ok _ a j _ d g,q⟩
 intro c b k r h g
 obtain⟨a,j,d,s⟩:=bI h;rw[z2];exact e.ok _ a j _ d ((m a j d).ok c b k r s g)
theorem XX {α β b p}{g:α->β}{i}(c:Yg ts b p i):Yg ts b (YU p fun a i=>.ok (g a,i)) i:=by
 have h:=ZG (st2:=[]) (f:=fun a i=>(.ok (g a,i):Except Nat (β×Nat))) c (fun a j _=>VO (g a) j)
 rwa [N]at h
theorem Xs {α s l}{p:Except Nat (α×Nat)}{i}(e:Yw s (Zo ts i)=U l)(h:Yg ts l p i):Yg ts [s] p i:=by
 constructor
 ·intro b f c
  obtain⟨j,d,g⟩:=h.err b f c;exact⟨j,Uq e d,g⟩
 intro b a j r c d
 exact Uq e (h.ok b a j r c d)
theorem QJ (i b s)(d:∀t,Yw s t=Y)(e:∀t,UY s t=decide (t.sort=b)):Yg ts [s] (Z9 ts i b) i:=by
 constructor
 ·intro c l h
  unfold Z9 at h
  split at h
  ·cases h
  rename_i f
  injection h with h;exact⟨i,Il (d _) (by rw[e];simpa using f),h⟩
 intro c a j r h g
 obtain⟨rfl,k,rfl⟩:=Yt h;exact QI (d _) (by rw[e];simpa using k) g
theorem UI (i):Yg ts [.NAME] (Z9 ts i 0) i:=QJ i 0 .NAME (fun _=>rfl) (fun _=>rfl)
theorem WN (i):Yg ts [.INT] (Z9 ts i 1) i:=QJ i 1 .INT (fun _=>rfl) (fun _=>rfl)
theorem XY (i m):Yg ts [.lit m] (ZF ts i m) i:=by
 constructor
 ·intro b l h
  unfold ZF at h
  split at h
  ·cases h
  rename_i c
  injection h with h;exact⟨i,Il rfl (by show Zn _ _=false;simpa using c),h⟩
 intro b a j r h d
 unfold ZF at h
 split at h
 ·rename_i e
  injection h with h;injection h with _ h;subst h;exact QI rfl e d
 cases h
theorem Wo {α e}{p:Except Nat (α×Nat)}{i m}(f:Zn (Zo ts i) m=true)(h:Yg ts e p (i+1)):Yg ts (.lit m::e) p i:=by
 constructor
 ·intro b l c
  obtain⟨j,d,g⟩:=h.err b l c;exact⟨j,QI rfl f d,g⟩
 intro b a j r c d
 exact QI rfl f (h.ok b a j r c d)
theorem QK (c f p)(u:∀t,Yw f t=U (if Zn t Y2 then[.lit Y2,p,f]else[]))(q:∀i,Yg ts [p] (Z9 ts i c) i):
  ∀n i g,ts.length-i=n->Yg ts [f] (XW ts i c g) i:=by
 intro n
 induction n using C with
 |ind n v=>
  intro i g z;rw[XW]
  split
  ·rename_i k
   have w:=Up k;refine Xs (l:=[.lit Y2,p,f]) (by rw[u,if_pos k]) (Wo k ?_)
   cases m:Z9 ts (i+1) c with
   |error l=>
    constructor
    ·intro b l' h
     have:=(q (i+1)).err (f::b) l' (by rw[m];simpa using h);exact this
    intro b a j r h
    simp at h
   |ok r=>
    obtain⟨t,o⟩:=r;have e:=(Yt m).2.2;have d:=v (ts.length-o) (by omega) o (g++[t]) rfl
    constructor
    ·intro b l h
     simp only at h;obtain⟨x,s,y⟩:=d.err b l h;exact⟨x,(q (i+1)).ok (f::b) t o _ m s,y⟩
    intro b a j r h s
    simp only at h;exact(q (i+1)).ok (f::b) t o _ m (d.ok b a j r h s)
  rename_i k
  refine Xs (l:=[]) (by rw[u,if_neg k]) (VO _ _)
theorem Qe (i a):Xl ts i a=YU (Z9 ts i a) fun t b=>XW ts b a [t]:=by
 unfold Xl YU
 cases Z9 ts i a with
 |error l=>rfl
 |ok r=>rfl
theorem Jf (i):Yg ts [.INT,.ints] (Xl ts i 1) i:=by
 rw[Qe];exact ZG (st1:=[.INT]) (WN i) (fun a j _=>QK 1 .ints .INT (fun _=>rfl) WN _ j [a] rfl)
theorem RK (i):Yg ts [.NAME,.names] (Xl ts i 0) i:=by
 rw[Qe];exact ZG (st1:=[.NAME]) (UI i) (fun a j _=>QK 0 .names .NAME (fun _=>rfl) UI _ j [a] rfl)
theorem Ss (i kw b)(c:∀t,Yw b t=U (if Zn t kw then[.lit kw,.INT,.ints]else[])):Yg ts [b] (Xh ts i kw) i:=by
 unfold Xh
 split
 ·rename_i a
  exact Xs (l:=[.lit kw,.INT,.ints]) (by rw[c,if_pos a]) (Wo a (Jf (i+1)))
 rename_i a
 exact Xs (l:=[]) (by rw[c,if_neg a]) (VO _ _)
theorem QL (i):Yg ts [.INT,.lit Ub,.INT] (UU ts i) i:=by
 rw[WK]
 exact ZG (st1:=[.INT]) (WN i) fun a j _=>ZG (st1:=[.lit Ub]) (XY j Ub) fun _ k _=>XX (WN k)
theorem OI (i):Yg ts [.amounts] (Wv ts i Z7) i:=by
 unfold Wv
 split
 ·rename_i a
  exact Xs (l:=[.lit Z7,.INT,.lit Ub,.INT]) (by show U (if _ then _ else _)=_;rw[if_pos a]) (Wo a (XX (QL (i+1))))
 rename_i a
 exact Xs (l:=[]) (by show U (if _ then _ else _)=_;rw[if_neg a]) (VO _ _)
theorem Nv (i):Yg ts [.action] (Xi ts i) i:=by
 unfold Xi
 split
 ·rename_i b
  exact Xs (l:=[.lit YM]) (by show U (if _ then _ else _)=_;rw[if_pos b]) (Wo b (VO _ _))
 rename_i b
 split
 ·rename_i a
  exact Xs (l:=[.lit Yj,.NAME,.names]) (by show U (if _ then _ else _)=_;rw[if_neg b,if_pos a]) (Wo a (XX (RK (i+1))))
 rename_i a
 exact Xs (l:=[.NAME,.names]) (by show U (if _ then _ else _)=_;rw[if_neg b,if_neg a]) (XX (RK i))
theorem Lv (i):Yg ts [.NAME,.INT,.INT] (WJ ts i) i:=by
 unfold WJ
 exact ZG (st1:=[.NAME]) (UI i) fun _ j _=>ZG (st1:=[.INT]) (WN j) fun _ k _=>XX (WN k)
theorem Jg (i):Yg ts [.NAME,.INT,.lit Ty,.lit RH,.INT,.lit Ub,.INT,.mccs,.amounts,.curs,.lit T8,.action] (Wk ts i) i:=by
 unfold Wk
 exact ZG (st1:=[.NAME]) (UI i) fun _ i _=>ZG (st1:=[.INT]) (WN i) fun _ i _=>
  ZG (st1:=[.lit Ty]) (XY i Ty) fun _ i _=>ZG (st1:=[.lit RH]) (XY i RH) fun _ i _=>
  ZG (st1:=[.INT,.lit Ub,.INT]) (QL i) fun _ i _=>ZG (st1:=[.mccs]) (Ss i Vc .mccs (fun _=>rfl)) fun _ i _=>
  ZG (st1:=[.amounts]) (OI i) fun _ i _=>ZG (st1:=[.curs]) (Ss i Vz .curs (fun _=>rfl)) fun _ i _=>
  ZG (st1:=[.lit T8]) (XY i T8) fun _ i _=>XX (Nv i)
theorem Lw:∀n i a,ts.length-i=n->
  (∀s j,Zr ts i a=.ok (s,j)->Nu ts [.rules] i Y)/\(∀l,Zr ts i a=.error l->Ak ts [.rules] i l):=by
 intro n
 induction n using C with
 |ind n ih=>
  intro i a E;by_cases c:(Zo ts i).sort=3
  ·have g:Nu ts [.rules] i Y:=by
    have B:∀m,Zn (Zo ts i) m=false:=fun m=>by simp[Zn,c]
    refine Uq (l:=[]) (by simp[Yw,B]) ⟨0,?_⟩;rw[N,Tl,if_pos c]
   rw[XD c];exact⟨fun _ _ _=>g,fun _ h=>by cases h⟩
  have F:i<ts.length:=by
   rcases x3 i ts.length with y|y
   ·exact y
   exfalso
   apply c;unfold Zo;rw[gD,z8 y];rfl
  have d:∀(z:List Ik),Yw .rules (Zo ts i)=U (z++[.lit Vd,.rules])->Yg ts z (ZV ts i) i->
    (∀s j,Zr ts i a=.ok (s,j)->Nu ts [.rules] i Y)/\(∀l,Zr ts i a=.error l->Ak ts [.rules] i l):=by
   intro z w x
   cases b:ZV ts i with
   |error l=>
    rw[YK c b];refine⟨fun _ _ h=>(by cases h),fun l' h=>?_⟩;injection h with h;subst h;obtain⟨j,g,t⟩:=x.err [.lit Vd,.rules] l b;exact⟨j,Uq w (by rw[N];exact g),t⟩
   |ok r=>
    obtain⟨e,j⟩:=r;have D:=WY b
    cases q:ZF ts j Vd with
    |error l=>
     rw[Y9 c b q];refine⟨fun _ _ h=>(by cases h),fun l' h=>?_⟩;injection h with h;subst h;obtain⟨v,g,t⟩:=(XY j Vd).err [.rules] l q;exact⟨v,Uq w (by rw[N];exact x.ok _ e j _ b g),t⟩
    |ok r=>
     obtain⟨u,k⟩:=r;rw[X6 c b q];have G:=Yu q;have f:=ih (ts.length-k) (by omega) k (a++[e]) rfl;refine⟨fun s v h=>?_,fun l h=>?_⟩
     ·exact Uq w (by rw[N];exact x.ok _ e j _ b ((XY j Vd).ok [.rules] u k _ q (f.1 s v h)))
     obtain⟨v,g,t⟩:=f.2 l h
     exact⟨v,Uq w (by rw[N];exact x.ok _ e j _ b ((XY j Vd).ok [.rules] u k _ q g)),t⟩
  by_cases o:Zn (Zo ts i) WX=true
  ·refine d [.lit WX,.NAME,.INT,.INT] (by show U (if _ then _ else _)=_;rw[if_pos o];rfl) ?_
   unfold ZV;rw[if_pos o];exact Wo o (XX (Lv (i+1)))
  by_cases p:Zn (Zo ts i) Ue=true
  ·refine d [.lit Ue,.NAME,.INT,.lit Ty,.lit RH,.INT,.lit Ub,.INT,.mccs,.amounts,.curs,.lit T8,.action] (by show U (if _ then _ else _)=_;rw[if_neg o,if_pos p];rfl) ?_
   unfold ZV;rw[if_neg o]
   exact ZG (st1:=[.lit Ue]) (XY i Ue) fun _ j _=>XX (Jg j)
  have b:ZV ts i=.error (Zo ts i).line:=by
   unfold ZV;rw[if_neg o];unfold ZF;rw[if_neg p];rfl
  rw[YK c b];refine⟨fun _ _ h=>(by cases h),fun l h=>?_⟩;injection h with h;subst h;refine⟨i,Uq (l:=[]) (by show U (if _ then _ else _)=_;rw[if_neg o,if_neg p]) ⟨0,?_⟩,rfl⟩;rw[N,Tl,if_neg c]
end
def X7:List ByteArray:=[WX,Ue,RH,Vc,Z7,Vz,YM,Yj,Vd,Ty,Y2,Ub,T8]
def VC (t:Tk):Prop:=∀m,m∈X7->Zn t m=(t.text.toList==m.toList)
theorem UZ {a b}(h:(a.toList==b.toList)=true)(k):ZD a k=ZD b k:=by
 have e:a.toList=b.toList:=by simpa using h
 rw[ByteArray.toList_eq,ByteArray.toList_eq]at e;unfold ZD;rw[e]
theorem Qf (m):Y8 m=yH.contains m.data.toList:=by unfold Y8;rw[ByteArray.toList_eq]
theorem Fe:∀m,m∈X7->(ZK (ZD m 0)=true/\yH.contains m.data.toList=true)\/(ZD m 0=59\/ZD m 0=58\/ZD m 0=44\/ZD m 0=46\/ZD m 0=45):=by decide
theorem Py (m)(h:m∈X7):(ZK (ZD m 0)=true/\Y8 m=true)\/(ZD m 0=59\/ZD m 0=58\/ZD m 0=44\/ZD m 0=46\/ZD m 0=45):=by
 rw[Qf];exact Fe m h
theorem Al {a b}(h:(a.toList==b.toList)=true):Y8 a=Y8 b:=by
 have e:a.toList=b.toList:=by simpa using h
 unfold Y8;rw[e]
theorem Sa (x l):VC ⟨2,x,l⟩:=fun m _=>by simp[Zn]
theorem Im {x l}(h:ZK (ZD x 0)=true)(c:Y8 x=false):VC ⟨0,x,l⟩:=by
 intro m d;simp only[Zn]
 cases b:(x.toList==m.toList)with
 |false=>simp
 |true=>
  exfalso
  rcases Py m d with⟨_,a⟩|a
  ·rw[<-Al b,c]at a;cases a
  rw[<-UZ b 0]at a
  simp[ZK]at h;omega
theorem Ff {x l}(h:iD (ZD x 0)=true):VC ⟨1,x,l⟩:=by
 intro m c;simp only[Zn]
 cases b:(x.toList==m.toList)with
 |false=>simp
 |true=>
  exfalso
  simp[iD]at h;rcases Py m c with⟨a,_⟩|a
  ·rw[<-UZ b 0]at a
   simp[ZK]at a;omega
  rw[<-UZ b 0]at a
  omega
theorem Fg (l):VC ⟨3,A,l⟩:=by
 intro m d;simp only[Zn]
 cases b:(A.toList==m.toList)with
 |false=>simp
 |true=>
  exfalso
  have c:ZD A 0=0:=by decide
  rcases Py m d with⟨a,_⟩|a
  ·rw[<-UZ b 0,c]at a
   simp[ZK]at a
  rw[<-UZ b 0,c]at a
  omega
theorem WZ (s k n)(h:1<=n):ZD (s.extract k (k+n)) 0=ZD s k:=by
 rw[SQ s k (k+n) 0 (by omega)];rfl
def In (t:Tk):Prop:=VC t/\(t.sort=1->1<=t.text.size)/\t.sort≠3/\(t.sort=0->t.text.size<=8)/\ZD t.text 0≠78/\ZD t.text 0≠73
theorem QM (s:ByteArray)(k n)(h:k+n<=s.size):(s.extract k (k+n)).size=n:=by
 rw[ByteArray.size_extract];omega
theorem Io {s k f k' t}(h:k<s.size)(a:Zs s k f=.tok t k'):In t:=by
 unfold Zs at a
 split at a
 ·contradiction
 split at a
 ·contradiction
 split at a
 ·contradiction
 split at a
 ·rename_i i
  have d:=XK Zq s k h (by simp[Zq,i]);have c:=Wi Zq s k (by omega)
  have l:ZD (s.extract k (k+ZN Zq s k)) 0≠78/\ZD (s.extract k (k+ZN Zq s k)) 0≠73:=by
   rw[WZ _ _ _ d];simp[ZK]at i;omega
  split at a
  ·injection a with b g;subst b;exact⟨Sa _ _,fun e=>by simp at e,by simp,fun e=>by simp at e,l⟩
  split at a
  ·contradiction
  rename_i n o
  injection a with b g;subst b;exact⟨Im (by rw[WZ _ _ _ d];exact i) (by simpa using n),fun e=>by simp at e,by simp,fun _=>by show(s.extract _ _).size<=8;rw[QM _ _ _ c];omega,l⟩
 split at a
 ·rename_i j
  have d:=XK iD s k h j;have c:=Wi iD s k (by omega)
  split at a
  ·contradiction
  injection a with b g
  subst b;exact⟨Ff (by rw[WZ _ _ _ d];exact j),fun _=>by show 1<=(s.extract _ _).size;rw[QM _ _ _ c];exact d,by simp,fun e=>by simp at e,by show ZD (s.extract _ _) 0≠78/\_;rw[WZ _ _ _ d];simp[iD]at j;omega⟩
 split at a
 ·rename_i p
  injection a with b g;subst b;exact⟨Sa _ _,fun e=>by simp at e,by simp,fun e=>by simp at e,by show ZD (s.extract _ _) 0≠78/\_;rw[WZ _ _ _ (by omega)];omega⟩
 split at a
 ·rename_i m
  injection a with b g;subst b;simp only[Bool.or_eq_true]at m
  exact⟨Sa _ _,fun e=>by simp at e,by simp,fun e=>by simp at e,by
   show ZD (s.extract _ _) 0≠78/\_
   rw[WZ _ _ _ (by omega)];simp[P9]at m
   omega⟩
 contradiction
def Pt (l:List UInt8):Nat:=l.count 10
theorem Ip (c r):Pt (c::r)=Pt r+(if(c.toNat:Int)=10 then 1 else 0):=by
 unfold Pt;rw[List.count_cons]
 have e:(c==10)=decide ((c.toNat:Int)=10):=by
  rw[Bool.eq_iff_iff];simp only[beq_iff_eq,decide_eq_true_eq];rw[<-UInt8.toNat_inj];have:(10:UInt8).toNat=10:=rfl;omega
 rw[e];simp
theorem EY (p:Int->Bool)(a:p 10=false):∀(l:List UInt8),Pt (l.drop (X4 p l))=Pt l
 |[]=>rfl
 |c::r=>by
  simp only[X4]
  split
  ·rename_i b
   rw[List.drop_succ_cons,EY p a r,Ip,if_neg (fun e=>by rw[e,a]at b;cases b)];rfl
  rfl
theorem Ro (p)(a:p 10=false)(s:ByteArray)(k):Pt (s.data.toList.drop (k+ZN p s k))=Pt (s.data.toList.drop k):=by
 unfold ZN;rw[<-EY p a (s.data.toList.drop k),List.drop_drop]
theorem Nw (s k)(h:k<s.size):Pt (s.data.toList.drop k)=Pt (s.data.toList.drop (k+1))+(if ZD s k=10 then 1 else 0):=by
 rw[dC (by simpa using h),Ip,Nh s k h];rfl
theorem TL (s k)(h:k<s.size)(a:ZD s k≠10):Pt (s.data.toList.drop (k+1))=Pt (s.data.toList.drop k):=by
 rw[Nw s k h,if_neg a];rfl
theorem Pz {s k a k' l'}(h:k<s.size)(b:Zs s k a=.skip k' l'):l'+Pt (s.data.toList.drop k')=a+Pt (s.data.toList.drop k):=by
 unfold Zs at b
 split at b
 ·rename_i e
  injection b with c d;subst c d;rw[Nw s k h,if_pos e];omega
 split at b
 ·rename_i e f
  injection b with c d;subst c d;rw[TL s k h e]
 split at b
 ·injection b with c d;subst c d
  rw[Ro ZW rfl]
 repeat' (split at b)
 all_goals contradiction
theorem Fh {s k a b}(h:P9 s k a b=true):ZD s k=a/\ZD s (k+1)=b/\k+2<=s.size:=by
 simp[P9]at h;exact⟨h.1.2,h.2,h.1.1⟩
theorem OJ {s k d k' t}(h:k<s.size)(a:Zs s k d=.tok t k'):Pt (s.data.toList.drop k')=Pt (s.data.toList.drop k):=by
 unfold Zs at a
 split at a
 ·contradiction
 rename_i f
 split at a
 ·contradiction
 split at a
 ·contradiction
 split at a
 ·split at a
  ·injection a with e b;subst b;exact Ro Zq rfl s k
  split at a
  ·contradiction
  injection a with e b;subst b;exact Ro Zq rfl s k
 split at a
 ·split at a
  ·contradiction
  injection a with e b;subst b;exact Ro iD rfl s k
 split at a
 ·injection a with e b;subst b;exact TL s k h f
 split at a
 ·rename_i c
  injection a with e b;subst b;simp only[Bool.or_eq_true]at c
  have g:ZD s (k+1)≠10/\k+2<=s.size:=by
   rcases c with c|c
   ·have:=Fh c;omega
   have:=Fh c;omega
  rw[show k+2=(k+1)+1 from rfl,TL s (k+1) (by omega) g.1,TL s k h f]
 contradiction
theorem Iq {s}:∀n k a b ts,s.size-k=n->(∀t,t∈b->In t)->ZL s k a b=.ok ts->
  ∃body,ts=body++[⟨3,A,a+Pt (s.data.toList.drop k)⟩]/\∀t,t∈body->In t:=by
 intro n
 induction n using C with
 |ind n l=>
  intro k a b ts m c h;by_cases d:k<s.size
  ·cases f:Zs s k a with
   |skip k' l'=>
    rw[YI d f]at h;have:=X5 d f;have i:=Pz d f;obtain⟨body,e,j⟩:=l (s.size-k') (by omega) k' l' b ts rfl c h;exact⟨body,by rw[e,i],j⟩
   |tok t k'=>
    rw[WH d f]at h;have:=WG d f;have i:=OJ d f
    obtain⟨body,e,j⟩:=l (s.size-k') (by omega) k' a (b++[t]) ts rfl (fun u g=>by
     rcases z3.1 g with g|g
     ·exact c u g
     simp at g;subst g;exact Io d f) h
    exact⟨body,by rw[e,i],j⟩
   |bad=>rw[Xq d f]at h;cases h
  rw[WI d]at h
  injection h with h;subst h;refine⟨b,?_,c⟩;rw[dL (by simpa using d)];rfl
theorem Cc (a b w)(c:a.text.size<=6)(d:b.text.size=a.text.size):
  R E 317 #[UV (a,b)] w fun e w'=>e=G (I J a.text.size)/\F0 w w':=by
 have f:¬(6:Int)<(a.text.size:Int):=by omega
 have g:((b.text.size:Int) !=(a.text.size:Int))=false:=by simp;omega
 unfold UV;go_enter Tryz.func317,Tryz.ntmps317;go_wp2;go_ret;exact⟨rfl,Zt.alloc _⟩
theorem Ir (a b w)(f:6<a.text.size):
  R E 317 #[UV (a,b)] w fun e w'=>e=Zj 5 a.line/\F0 w w':=by
 have g:(6:Int)<(a.text.size:Int):=by omega
 unfold UV;go_enter Tryz.func317,Tryz.ntmps317;go_wp2_with fail;refine(YE a 5 _ _ (by rfl)).mono ?_;rintro e h ⟨c,d⟩;unfold Zj at c;subst c;exact⟨rfl,rfl,(Zt.alloc _).trans d⟩
theorem Jh (a b w)(f:a.text.size<=6)(g:b.text.size≠a.text.size):
  R E 317 #[UV (a,b)] w fun e w'=>e=Zj 5 b.line/\F0 w w':=by
 have h:¬(6:Int)<(a.text.size:Int):=by omega
 have i:((b.text.size:Int) !=(a.text.size:Int))=true:=by simp;omega
 unfold UV;go_enter Tryz.func317,Tryz.ntmps317;go_wp2_with fail;refine(YE b 5 _ _ (by rfl)).mono ?_;rintro e j ⟨c,d⟩;unfold Zj at c;subst c;exact⟨rfl,rfl,(Zt.alloc _).trans d⟩
def QN (x y:Nat):D:=z4 #[I J x,I J y]
def VP (x y a:Nat)(e:Ending):Prop:=if x<=y then e=G (QN x y)else e=Zj 5 a
theorem VP.ok {x y a e}(h:x<=y):VP x y a e↔e=G (QN x y):=by unfold VP;rw[if_pos h]
theorem VP.bad {x y a e}(h:¬x<=y):VP x y a e↔e=Zj 5 a:=by unfold VP;rw[if_neg h]
theorem Is (a b w)(ha:Dg a.text)(hb:Dg b.text):
  R E 320 #[UV (a,b)] w fun e w'=>VP (Zd a) (Zd b) b.line e/\F0 w w':=by
 have HA:B (∀W,R E 313 #[z4 #[I J a.sort,V a.text,I J a.line]] W fun e w'=>e=G (I J (Zd a))/\F0 W w'):=fun W=>Rm a W ha
 have N:B (∀W,R E 313 #[z4 #[I J b.sort,V b.text,I J b.line]] W fun e w'=>e=G (I J (Zd b))/\F0 W w'):=fun W=>Rm b W hb
 clear ha hb;generalize Zd a=x at*;generalize Zd b=y at*;unfold UV;go_enter Tryz.func320,Tryz.ntmps320;go_wp2_with fail;obtain⟨O,c,P⟩:=SE w (H #[I J a.sort,V a.text,I J a.line,I J b.sort,V b.text,I J b.line] 293) (H #[I J 0,I J 0] 118);generalize(w.alloc _).alloc _=t at*
 go_cut [3] (fun s wc=>∃X,s=x2 (U ⟨X,0,Y⟩)/\B (wc.heap[X]?=U (H #[I J x,I J y] 118))/\B (F0 t wc))
 case first=>
  have b0:=Zc c.o 0;have b1:=Zc c.o 1;have b2:=Zc c.o 2;have b3:=Zc c.o 3;have b4:=Zc c.o 4;have b5:=Zc c.o 5;refine wp_region_held_drew (S:=fun w'=>F0 t w') (by kernel_rfl) Zt.drew (fun f=>?_);generalize t.drew=Q at*;clear b0 b1 b2 b3 b4 b5;refine US 0 (v:=?v0) ?y0 f ?r0
  case y0=>intro w' h;have g0:=Zc (h.whole c.o) 0;have g1:=Zc (h.whole c.o) 1;have g2:=Zc (h.whole c.o) 2;have g3:=Zc (h.whole c.o) 3;have T:=Zc (h.whole c.o) 4;have Z:=Zc (h.whole c.o) 5;clear h;go_simp;with_reducible rfl
  go_frame;refine US 1 (v:=?v1) ?y1 f ?r1
  case y1=>intro w' h;have g0:=Zc (h.whole c.o) 0;have g1:=Zc (h.whole c.o) 1;have g2:=Zc (h.whole c.o) 2;have g3:=Zc (h.whole c.o) 3;have T:=Zc (h.whole c.o) 4;have Z:=Zc (h.whole c.o) 5;clear h;go_simp;with_reducible rfl
  go_frame;refine US 3 (v:=?v3) ?y3 f ?r3
  case y3=>intro w' h;have g0:=Zc (h.whole c.o) 0;have g1:=Zc (h.whole c.o) 1;have g2:=Zc (h.whole c.o) 2;have g3:=Zc (h.whole c.o) 3;have T:=Zc (h.whole c.o) 4;have Z:=Zc (h.whole c.o) 5;clear h;go_simp;with_reducible rfl
  go_frame;refine US 4 (v:=?v4) ?y4 f ?r4
  case y4=>intro w' h;have g0:=Zc (h.whole c.o) 0;have g1:=Zc (h.whole c.o) 1;have g2:=Zc (h.whole c.o) 2;have g3:=Zc (h.whole c.o) 3;have T:=Zc (h.whole c.o) 4;have Z:=Zc (h.whole c.o) 5;clear h;go_simp;with_reducible rfl
  go_frame;refine XC [2,7] ?_;refine Zb rfl (fun K g=>?_) ?_
  ·rw[if_pos (by rfl)]
   go_simp;refine(HA.o _).mono ?_;rintro e w1 ⟨rfl,l⟩;have d:=f.trans l;refine g.out _ _ d (fun f=>?_);clear g K d l
   try go_frame
   refine XC [5,7] ?_;refine Zb rfl (fun K g=>?_) ?_
   ·rw[if_pos (by rfl)]
    go_simp;refine(N.o _).mono ?_;rintro e w2 ⟨rfl,l⟩;have d:=f.trans l;refine g.out _ _ d (fun f=>?_);clear g K d l
    try go_frame
    refine ZY 6 f ?_;go_frame;refine Vy 7 (fun K g=>?_);go_simp;obtain⟨X,n⟩:∃X,X=w2.heap.size:=⟨_,rfl⟩
    have u:t.heap.size<=X:=by rw[n];exact f.size
    have j:B ((w2.alloc (H #[I J 0,I J 0] 118)).heap[X]?=U (H #[I J 0,I J 0] 118)):=by rw[n];exact aN _ _
    have d:=f.alloc (H #[I J 0,I J 0] 118);rw[<-n];refine g.out _ _ d (fun f=>?_);clear g K d
    try go_frame
    clear n;generalize z:w2.alloc _=q3 at*;clear z;have s0:=Zc j.o 0;have s1:=Zc j.o 1;have sf:=bF j.o;refine Vy 8 (fun K g=>?_);go_simp;have A:Fr (fun k=>k=X) q3 ((q3.setCell ⟨X,0,Y⟩ (I J x)).setCell ⟨X,1,Y⟩ (I J y)):=((Fr.refl (fun k=>k=X) _).setCell (p:=⟨X,0,Y⟩) (L rfl) _).setCell (p:=⟨X,1,Y⟩) (L rfl) _;have m:=f.monoNew A (fun k F=>y6 (by omega));have i:B (((q3.setCell ⟨X,0,Y⟩ (I J x)).setCell ⟨X,1,Y⟩ (I J y)).heap[X]?=U (H #[I J x,I J y] 118)):=Ym (Ym j.o 0 _) 1 _;refine g.out _ _ m (fun f=>?_);clear g K
    try go_frame
    refine wpAnyH_done (by kernel_rfl) ?_ _;go_wp2_with fail;go_meet
    exact⟨X,rfl,i.o,m⟩
   refine Zb rfl (fun K g=>?_) AllReadyH.nil;rw[if_pos (by rfl)];go_simp;obtain⟨X,n⟩:∃X,X=w1.heap.size:=⟨_,rfl⟩
   have u:t.heap.size<=X:=by rw[n];exact f.size
   have j:B ((w1.alloc (H #[I J 0,I J 0] 118)).heap[X]?=U (H #[I J 0,I J 0] 118)):=by rw[n];exact aN _ _
   have d:=f.alloc (H #[I J 0,I J 0] 118);rw[<-n];refine g.out _ _ d (fun f=>?_);clear g K d
   try go_frame
   clear n;generalize z:w1.alloc _=q5 at*;clear z;refine Vy 5 (fun K g=>?_);go_simp;refine(N.o _).mono ?_;rintro e w6 ⟨rfl,l⟩;have d:=f.trans l;have i:=Za (l.whole j.o);clear j;have j:=i;clear i;refine g.out _ _ d (fun f=>?_);clear g K d l
   try go_frame
   refine ZY 6 f ?_;go_frame;have s0:=Zc j.o 0;have s1:=Zc j.o 1;have sf:=bF j.o;refine Vy 8 (fun K g=>?_);go_simp;have A:Fr (fun k=>k=X) w6 ((w6.setCell ⟨X,0,Y⟩ (I J x)).setCell ⟨X,1,Y⟩ (I J y)):=((Fr.refl (fun k=>k=X) _).setCell (p:=⟨X,0,Y⟩) (L rfl) _).setCell (p:=⟨X,1,Y⟩) (L rfl) _;have m:=f.monoNew A (fun k F=>y6 (by omega));have i:B (((w6.setCell ⟨X,0,Y⟩ (I J x)).setCell ⟨X,1,Y⟩ (I J y)).heap[X]?=U (H #[I J x,I J y] 118)):=Ym (Ym j.o 0 _) 1 _;refine g.out _ _ m (fun f=>?_);clear g K
   try go_frame
   refine wpAnyH_done (by kernel_rfl) ?_ _;go_wp2_with fail;go_meet
   exact⟨X,rfl,i.o,m⟩
  refine Zb rfl (fun K g=>?_) AllReadyH.nil;rw[if_pos (by rfl)];go_simp;obtain⟨X,n⟩:∃X,X=Q.heap.size:=⟨_,rfl⟩
  have u:t.heap.size<=X:=by rw[n];exact f.size
  have j:B ((Q.alloc (H #[I J 0,I J 0] 118)).heap[X]?=U (H #[I J 0,I J 0] 118)):=by rw[n];exact aN _ _
  have d:=f.alloc (H #[I J 0,I J 0] 118);rw[<-n];refine g.out _ _ d (fun f=>?_);clear g K d
  try go_frame
  clear n;generalize z:Q.alloc _=q8 at*;clear z;refine Vy 2 (fun K g=>?_);go_simp;refine(HA.o _).mono ?_;rintro e w9 ⟨rfl,l⟩;have d:=f.trans l;have i:=Za (l.whole j.o);clear j;have j:=i;clear i;refine g.out _ _ d (fun f=>?_);clear g K d l
  try go_frame
  refine Vy 5 (fun K g=>?_);go_simp;refine(N.o _).mono ?_;rintro e r ⟨rfl,l⟩;have d:=f.trans l;have i:=Za (l.whole j.o);clear j;have j:=i;clear i;refine g.out _ _ d (fun f=>?_);clear g K d l
  try go_frame
  refine ZY 6 f ?_;go_frame;have s0:=Zc j.o 0;have s1:=Zc j.o 1;have sf:=bF j.o;refine Vy 8 (fun K g=>?_);go_simp;have A:Fr (fun k=>k=X) r ((r.setCell ⟨X,0,Y⟩ (I J x)).setCell ⟨X,1,Y⟩ (I J y)):=((Fr.refl (fun k=>k=X) _).setCell (p:=⟨X,0,Y⟩) (L rfl) _).setCell (p:=⟨X,1,Y⟩) (L rfl) _;have m:=f.monoNew A (fun k F=>y6 (by omega));have i:B (((r.setCell ⟨X,0,Y⟩ (I J x)).setCell ⟨X,1,Y⟩ (I J y)).heap[X]?=U (H #[I J x,I J y] 118)):=Ym (Ym j.o 0 _) 1 _;refine g.out _ _ m (fun f=>?_);clear g K
  try go_frame
  refine wpAnyH_done (by kernel_rfl) ?_ _;go_wp2_with fail;go_meet
  exact⟨X,rfl,i.o,m⟩
 obtain⟨X,rfl,j,HF⟩:=hcut;have x0:=Zc j.o 0;have x1:=Zc j.o 1;have q:=HF.o.whole c.o;have M:=HF.o.whole P.o;have b3:=Zc q 3;have b4:=Zc q 4;have b5:=Zc q 5;have r0:=Zc M 0;have r1:=Zc M 1;have rf:=bF M;have C:=Za (O.o.trans HF.o);clear q M;by_cases D:x<=y
 ·have hn:¬(y:Int)<(x:Int):=by omega
  go_wp2;have hW:Fr (fun k=>w.heap.size<=k) wc ((wc.setCell ⟨w.heap.size+1,0,Y⟩ (I J x)).setCell ⟨w.heap.size+1,1,Y⟩ (I J y)):=((Fr.refl (fun k=>w.heap.size<=k) wc).setCell (p:=⟨w.heap.size+1,0,Y⟩) (L (z6 _)) _).setCell (p:=⟨w.heap.size+1,1,Y⟩) (L (z6 _)) _;exact bodyPost_ret (v:=QN x y) (by simp[results,Tryz.results320,go_sem,QN, *]) rfl ⟨(VP.ok D).2 rfl,C.o.monoNew hW (fun k F=>y6 F)⟩
 have hn:(y:Int)<(x:Int):=by omega
 go_wp2_with fail;refine(YE b 5 _ _ (by rfl)).mono ?_;rintro e w3 ⟨he,l⟩;unfold Zj at he;subst he;exact⟨rfl,(VP.bad D).2 rfl,C.o.trans l⟩
theorem Ji (a b w)(l:Int)(t:Dg a.text)(u:Dg b.text)(z:l=(1000000000:Nat)):
  R E 322 #[UV (a,b),I J l] w fun e w'=>VP (Zd a) (Zd b) b.line e/\F0 w w':=by
 have U:=Oc a t;have X:=Oc b u
 have Z:B (∀W,R E 316 #[z4 #[I J a.sort,V a.text,I J a.line],I J l] W fun e w'=>e=G (I J (Zd a))/\F0 W w'):=fun W=>Rn a W 1000000000 l t (by omega) z
 have HB:B (∀W,R E 316 #[z4 #[I J b.sort,V b.text,I J b.line],I J l] W fun e w'=>e=G (I J (Zd b))/\F0 W w'):=fun W=>Rn b W 1000000000 l u (by omega) z
 have HC:B (∀W,R E 320 #[z4 #[I J a.sort,V a.text,I J a.line,I J b.sort,V b.text,I J b.line]] W fun e w'=>VP (Zd a) (Zd b) b.line e/\F0 W w'):=fun W=>Is a b W t u
 clear t u z U X;generalize Zd a=x at*;generalize Zd b=y at*;unfold UV;go_enter Tryz.func322,Tryz.ntmps322;go_wp2_with fail;obtain⟨m,n,q⟩:=SE w (H #[I J a.sort,V a.text,I J a.line,I J b.sort,V b.text,I J b.line] 293) (H #[I J 0,I J 0] 118);refine(Z.o _).mono ?_;rintro e w1 ⟨rfl,f⟩;have c:=f.whole n.o;have r:=f.whole q.o;have A:=Za (m.o.trans f);clear n q m f;have C:=bC c 0 _ rfl;have D:=bC c 1 _ rfl;have F:=bC c 2 _ rfl;have K:=bC c 3 _ rfl;have M:=bC c 4 _ rfl;have N:=bC c 5 _ rfl;have i:=Za c;have j:=Za r;clear c r;go_wp2_with fail;refine(HB.o _).mono ?_;rintro e w2 ⟨rfl,f⟩;have d:=f.whole i.o;have O:=Za (f.whole j.o);have s:=Za (A.o.trans f);clear f C D F K M N i j;have C:=bC d 0 _ rfl;have D:=bC d 1 _ rfl;have F:=bC d 2 _ rfl;have K:=bC d 3 _ rfl;have M:=bC d 4 _ rfl;have N:=bC d 5 _ rfl;clear d;go_wp2_with fail;refine(HC.o _).mono ?_;rintro e P ⟨Q,f⟩;by_cases g:x<=y
 ·obtain rfl:=(VP.ok g).1 Q
  have h:=f.whole O.o;have S:=Za (s.o.trans f);have r0:=Zc h 0;have r1:=Zc h 1;have rf:=bF h;clear Q f h C D F K M N;simp only[QN];go_wp2;have hW:Fr (fun k=>w.heap.size<=k) P ((P.setCell ⟨w.heap.size+1,0,Y⟩ (I J x)).setCell ⟨w.heap.size+1,1,Y⟩ (I J y)):=((Fr.refl (fun k=>w.heap.size<=k) P).setCell (p:=⟨w.heap.size+1,0,Y⟩) (L (z6 _)) _).setCell (p:=⟨w.heap.size+1,1,Y⟩) (L (z6 _)) _;exact bodyPost_ret (v:=QN x y) (by simp[results,Tryz.results322,go_sem,QN, *]) rfl ⟨(VP.ok g).2 rfl,S.o.monoNew hW (fun k hk=>y6 hk)⟩
 have T:=(VP.bad g).1 Q
 unfold Zj at T;subst T;exact⟨rfl,(VP.bad g).2 rfl,s.o.trans f⟩
def Zp (a:Nat):Nat->List Tk->Except (Nat×Nat) (List Nat)
 |_,[]=>.ok []
 |i,t::r=>if i=4 then .error (6,t.line)else if a<Zd t then .error (5,t.line)else
  match Zp a (i+1) r with
  | .error f=>.error f
  | .ok ns=>.ok (Zd t::ns)
def Zg (ns:List Nat):List D:=ns.map fun n:Nat=>Value.int J (n:Int)
theorem Y3:(E.info? 3).map (fun i=>(i.zero,i.size,i.bytes))=U (U (I J 0),1,8):=by kernel_rfl
def Wx (r:Except (Nat×Nat) (List Nat))(w:M)(e:Ending)(w':M):Prop:=
 match r with
 | .ok ns=>(∃v,e=G v/\w'.ownsRow w.heap.size 3 1 v ns.length (Zg ns))/\F0 w w'
 | .error f=>e=Zj f.1 f.2/\F0 w w'
theorem Wx.ok {r w w' e ns}(h:r=.ok ns):Wx r w e w'↔(∃v,e=G v/\w'.ownsRow w.heap.size 3 1 v ns.length (Zg ns))/\F0 w w':=by subst h;exact Iff.rfl
theorem Wx.err {r w w' e f}(h:r=.error f):Wx r w e w'↔e=Zj f.1 f.2/\F0 w w':=by subst h;exact Iff.rfl
def XL (a:Nat)(b:List Nat)(i:Nat)(l:List Tk):Except (Nat×Nat) (List Nat):=
 match Zp a i l with
 | .error f=>.error f
 | .ok ns=>.ok (b++ns)
theorem Jj (a b i):XL a b i []=.ok b:=by simp[XL,Zp]
theorem Ly {a b t r}:XL a b 4 (t::r)=.error (6,t.line):=by simp[XL,Zp]
theorem Jk {a b i t r}(h:i≠4)(c:a<Zd t):XL a b i (t::r)=.error (5,t.line):=by simp[XL,Zp,h,c]
theorem It {a b i t r}(h:i≠4)(c:¬a<Zd t):XL a b i (t::r)=XL a (b++[Zd t]) (i+1) r:=by
 simp only[XL,Zp,if_neg h,if_neg c]
 cases Zp a (i+1) r<;>simp
theorem O3 {ts:List Tk}{j t}(b:ts[j]?=U t):ts.drop j=t::ts.drop (j+1):=by
 obtain⟨a,c⟩:=iG.1 b;rw[dC a,c]
theorem XZ (ns n):Zg (ns++[n])=Zg ns++[I J n]:=by simp[Zg]
theorem PB:∀(ts:List Tk)(j:Nat)(t:Tk),ts[j]?=U t->(Ys ts)[j*3]?=U (I J t.sort)/\(Ys ts)[j*3+1]?=U (V t.text)/\(Ys ts)[j*3+2]?=U (I J t.line)
 |[],j,t,h=>by simp at h
 |x::r,0,t,h=>by simp at h;subst h;exact⟨rfl,rfl,rfl⟩
 |x::r,j+1,t,h=>by
  have:=PB r j t (by simpa using h)
  have e:Ys (x::r)=O2 x++Ys r:=by simp[Ys]
  have l:(O2 x).length=3:=rfl;rw[e];refine⟨?_,?_,?_⟩
  ·rw[aR (by omega),l,show(j+1)*3-3=j*3 from by omega];exact this.1
  ·rw[aR (by omega),l,show(j+1)*3+1-3=j*3+1 from by omega];exact this.2.1
  rw[aR (by omega),l,show(j+1)*3+2-3=j*3+2 from by omega];exact this.2.2
theorem Od {w:M}{base v ts}(h:w.ownsRow base 263 3 v ts.length (Ys ts))(f:0<ts.length):
  ∃g cap,v=Z (U ⟨g,0,Y⟩) ts.length cap/\base<=g/\g<w.heap.size/\∀j t,ts[j]?=U t->w.cell? ⟨g,j*3,Y⟩=U (I J t.sort)/\w.cell? ⟨g,j*3+1,Y⟩=U (V t.text)/\w.cell? ⟨g,j*3+2,Y⟩=U (I J t.line):=by
 obtain⟨g,cap,rfl,i,l⟩:=h.form f;refine⟨g,cap,rfl,i,l,fun j t m=>?_⟩;obtain⟨a,b,c⟩:=PB ts j t m
 have d:∀k,(⟨g,0,Y⟩:Addr).add k=⟨g,k,Y⟩:=fun k=>by unfold Addr.add;split<;>simp_all
 have e:=h.cells (g:=g) rfl;exact⟨by have:=e _ _ a;rwa [d]at this,by have:=e _ _ b;rwa [d]at this,by have:=e _ _ c;rwa [d]at this⟩
theorem Oe (w base v ts)(a:Nat)(i1:Int)(h:w.ownsRow base 263 3 v ts.length (Ys ts))(K:∀t,t∈ts->Dg t.text)(a0:ts.length<=4000)(e1:i1=a):
  R E 321 #[v,I J i1] w (Wx (Zp a 0 ts) w):=by
 subst e1
 have HM:B (Zp a 0 ts=XL a [] 0 ts):=by show _=_;unfold XL;cases Zp a 0 ts<;>simp
 obtain⟨ii,hi,L,M,N⟩:=info_parts Y3;by_cases hn:0<ts.length
 ·obtain⟨g,cap,rfl,hb,O,d⟩:=Od h hn
  have HR:=Za d;have HD:=Za K;clear h d K hn;go_enter Tryz.func321,Tryz.ntmps321;go_wp2_with fail
  go_loopg [5,6,7,10] ts.length (fun m o _ _ c wr=>∃j b,j<=ts.length/\m=ts.length-j/\c=I J j/\B (wr.ownsRow w.heap.size 3 1 o b.length (Zg b))/\B (b.length=j)/\B (F0 w wr)/\B (Zp a 0 ts=XL a b j (ts.drop j)))
  case atStart=>exact⟨0,[],y7 _,rfl,rfl,oZ _ _ _ _,rfl,Zt,HM.o⟩
  obtain⟨j,b,hj,rfl,rfl,HO,HA,q,C⟩:=hrel;by_cases P:j<ts.length
  ·obtain⟨t,D⟩:∃t,ts[j]?=U t:=⟨_,gE P⟩
   have HT:=Za D;obtain⟨r0,r1,r2⟩:=HR.o j t D;rw[<-q.o.cell (p:=⟨g,j*3,Y⟩) O (by simp)]at r0;rw[<-q.o.cell (p:=⟨g,j*3+1,Y⟩) O (by simp)]at r1;rw[<-q.o.cell (p:=⟨g,j*3+2,Y⟩) O (by simp)]at r2
   have Q:(j:Int)<(ts.length:Int):=by omega
   have f:B (ts.drop j=t::ts.drop (j+1)):=O3 D;clear D;by_cases h4:j=4
   ·have S:((j:Int)==4)=true:=by simp;omega
    have F:=Za h4;clear h4;go_wp2_with fail;refine(YE t 6 _ _ (by rfl)).mono ?_;rintro e s ⟨u,r⟩;unfold Zj at u;subst u;exact⟨rfl,(Wx.err (by rw[C.o,f.o,F.o];exact Ly)).2 ⟨rfl,(q.o.alloc _).trans r⟩⟩
   have S:((j:Int)==4)=false:=by simp;omega
   have F:=Za h4;clear h4;by_cases H:a<Zd t
   ·have x:=Za H
    clear H;go_wp2_with fail;refine(QH t _ a _ (HD.o t (mG HT.o)) x.o (by rfl)).mono ?_;rintro e s ⟨u,r⟩;unfold Zj at u;subst u;exact⟨rfl,(Wx.err (by rw[C.o,f.o];exact Jk F.o x.o)).2 ⟨rfl,(q.o.alloc _).trans r⟩⟩
   have x:=Za H
   clear H;go_wp2_with fail;refine(Rn t _ a _ (HD.o t (mG HT.o)) (Nat.le_of_not_lt x.o) (by rfl)).mono ?_;rintro e s ⟨rfl,r⟩;have y:B (F0 w s):=(q.o.alloc _).trans r;have z:B (s.ownsRow w.heap.size 3 1 u5 b.length (Zg b)):=oF (HO.o.alloc _) r;have T:B (Zp a 0 ts=XL a (b++[Zd t]) (j+1) (ts.drop (j+1))):=C.o.trans (by rw[f.o];exact It F.o x.o)
   have b0:b.length<=ts.length:=by have:=HA.o;omega
   have d0:=y.o.size;clear r r0 r1 r2;generalize Zd t=n at*
   go_wp2_with (at_builtin;refine wpList_append_lies _ rfl (.tmp 19) (.tmp 23) 25 rfl w.heap.size 3 ii _ 1 8 Tryz.underlying25 hi L M N rfl (by decide) u5 b.length (Zg b) rfl ?h1 ⟨s.heap.size,0,Y⟩ 1 1 [I J n] rfl rfl ?h2 ?h3 (by decide) ?h4 ?h5 ?h6 _ rfl ?h7)
   case h1=>exact z.o.alloc _
   case h2=>exact z9 (aN s _)
   case h3=>simp[z7]
   case h4=>unfold maxLen;omega
   case h5=>omega
   case h6=>simp;omega
   intro g2 c0 w4 l i _ _
   have d:∀k,u5.ownBlock=U k->w.heap.size<=k:=fun k V=>(z.o.lt k V).1
   have W:=Za l;have X:B (F0 w w4):=(y.o.alloc _).grown i (fun k V=>y6 (d k V));clear i l d;go_wp2;go_roundg (ts.length-(j+1))
   case measure=>omega
   refine⟨j+1,b++[n],by omega,rfl,by go_num,?_,?_,X,T⟩
   ·show y9 _ _ _ _ _ _ _
    rw[XZ,lA];exact W.o
   show _=_
   have:=HA.o;simp;omega
  have Q:¬(j:Int)<(ts.length:Int):=by omega
  have A:B (Wx (Zp a 0 ts) w (G u5) wr):=by
   show Wx _ _ _ _
   refine(Wx.ok (ns:=b) ?_).2 ⟨⟨u5,rfl,HO.o⟩,q.o⟩;rw[C.o,dL (by omega)];exact Jj _ _ _
  go_wp2;go_ret;exact A.o
 have hz:ts=[]:=List.eq_nil_of_length_eq_zero (by omega)
 subst hz;rcases h.2 with⟨rfl,_⟩|⟨g,cap,e0,rfl,_⟩
 all_goals
  clear h K;go_enter Tryz.func321,Tryz.ntmps321;go_wp2_with fail
  go_loopg [5,6,7,10] 1 (fun m o _ _ c wr=>m=1/\o=Z Y 0 0/\c=I J 0/\wr=w)
  case atStart=>exact⟨rfl,rfl,rfl,rfl⟩
  obtain⟨rfl,rfl,rfl,rfl⟩:=hrel;go_wp2;go_ret;exact(Wx.ok (ns:=[]) rfl).2 ⟨⟨_,rfl,oZ _ _ _ _⟩,Zt⟩
