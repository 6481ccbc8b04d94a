import Derived.Test.YtccikgogjfbpeaaGreatDoorQe
import Derived.Deep.DeepCutAuto
import Derived.Lib.ConvBytes
open Go.Value renaming int->I,string->V,slice->Y,bool->U,agg->z1,oneCell'->z2,ownBlock->z3,pointer->z4
open Go.IntKind renaming i64->J
open Option renaming none->Z,some->G
open Go.Obj renaming cells->O
open Go renaming Value->E,World->B,Calls->N
open Go.RowKit renaming Hid->H
open Go.Proofs.Tryz renaming prog->D
open Go.Ending renaming returned->M
open Or renaming inl->R,inr->z5
open List renaming take_of_length_le->L,take_succ_eq_append_getElem->A,getElem?_take->Q,take->z8
open Go.World renaming cell?_alloc_lt->C,freeze->z0
open Nat renaming le_refl->F,zero_le->z6,le_succ->z7
namespace Go.Proofs.YtccikgogjfbpeaaGreatDoor
set_option maxRecDepth 30000
set_option maxHeartbeats 8000000
open Go.RowKit
def TY:Array E:=#[I J 0,V ⟨#[]⟩,I J 0,I J 0,V ⟨#[]⟩,I J 0,I J 0,V ⟨#[]⟩,I J 0,I J 0,V ⟨#[]⟩,I J 0,Y Z 0 0,Y Z 0 0,U false,I J 0,V ⟨#[]⟩,I J 0,I J 0,V ⟨#[]⟩,I J 0,U false,U false,Y Z 0 0]
def VR (c:Option (Tk×Tk))(j:Nat):E:=
 match c with
 |some (a,b)=>match j with|0=>I J a.sort|1=>V a.text|2=>I J a.line|3=>I J b.sort|4=>V b.text|_=>I J b.line
 |none=>match j with|0=>I J 0|1=>V ⟨#[]⟩|2=>I J 0|3=>I J 0|4=>V ⟨#[]⟩|_=>I J 0
def QL (r:XX)(a b c:E):E:=z1 #[I J r.name.sort,V r.name.text,I J r.name.line,I J r.rank.sort,V r.rank.text,I J r.rank.line,I J r.bin.1.sort,V r.bin.1.text,I J r.bin.1.line,I J r.bin.2.sort,V r.bin.2.text,I J r.bin.2.line,a,b,U r.amount.isSome,VR r.amount 0,VR r.amount 1,VR r.amount 2,VR r.amount 3,VR r.amount 4,VR r.amount 5,U r.act.decline,U r.act.cheapest,c]
def DQ (w:B)(g j:Nat)(t u:Tk):B:=V7 (V7 w g j t) g (j+3) u
theorem I0 (w:B)(g j:Nat)(t u:Tk):Fr (fun k=>k=g) w (DQ w g j t u):=(Wg _ _ _ _).trans (Wg _ _ _ _)
theorem QM (b:Nat):∀(a:List E)(o:Nat)(w:B),Fr (fun k=>k=b) w (w.setCells b o a)
 |[],_,w=>Fr.refl _ w
 |v::r,o,w=>((Fr.refl (fun k=>k=b) w).setCell (p:=⟨b,o,Z⟩) (R rfl) v).trans (QM b r (o+1) _)
def RD:Array E->Nat->List E->Array E
 |cs,_,[]=>cs
 |cs,o,v::r=>RD (cs.setIfInBounds o v) (o+1) r
theorem SD {b:Nat}{t:TypeId}:∀(a:List E)(o:Nat)(w:B)(c:Array E),w.heap[b]?=G (O c t)->(w.setCells b o a).heap[b]?=G (O (RD c o a) t)
 |[],_,_,_,h=>h
 |v::r,o,_,_,h=>SD r (o+1) _ _ (Yl h o v)
theorem TZ:∀(c:List E)(o:Nat)(a:Array E),o+c.length=a.size->(RD a o c).toList=a.toList.take o++c
 |[],o,a,h=>by
  simp at h;rw[RD,List.append_nil,L (by simp;omega)]
 |v::r,o,a,h=>by
  simp at h;rw[RD,TZ r (o+1) _ (by simp;omega)]
  have d:o<a.toList.length:=by simp;omega
  have e:z8 o (a.toList.set o v)=z8 o a.toList:=by
   apply List.ext_getElem?;intro k;rw[Q,Q];by_cases b:k<o
   ·rw[if_pos b,if_pos b,List.getElem?_set_ne (by omega)]
   ·rw[if_neg b,if_neg b]
  rw[Array.toList_setIfInBounds,List.take_add_one,List.getElem?_set_self d,e];simp
theorem Nt {w:B}{b:Nat}{t:TypeId}{c a:Array E}(h:w.heap[b]?=G (O c t))(d:a.size=c.size):(w.setCells b 0 a.toList).heap[b]?=G (O a t):=by
 rw[SD a.toList 0 w c h]
 congr 2
 apply Array.ext';rw[TZ _ _ _ (by simp[d])];simp
theorem LG {w:B}{b n:Nat}{t:TypeId}{a:Array E}(h:w.heap[b]?=G (O a t))(c:a.size=n):w.there b 0 n:=fun j d=>by
 rw[Nat.zero_add];refine⟨?_,bF h j⟩;rw[cell_of_row w b j a t (0,0) h,Array.getElem?_eq_getElem (by omega)];rfl
structure Wm (w wc:B)(p g cap:Nat)(ts:List Tk)(i:Nat)(cs:Array E)(vm:E)(lm:List Tk)(vc:E)(lc:List Tk):Prop where
 pa:Pa wc p g cap ts i
 fr:Fr (fun k=>k=p) w wc
 hr:wc.heap[w.heap.size]?=G (O TY 295)
 he:wc.heap[w.heap.size+1]?=G (O cs 295)
 rm:wc.ownsRow (w.heap.size+2) 263 3 vm lm.length (Yb lm)
 rc:wc.ownsRow (w.heap.size+2) 263 3 vc lc.length (Yb lc)
 pl:p<w.heap.size
 gl:g<w.heap.size
section
variable {w wc wd:B} {p g cap:Nat} {ts:List Tk} {i i':Nat} {cs:Array E} {vm:E} {lm:List Tk} {vc:E} {lc:List Tk}
theorem Wm.size (h:Wm w wc p g cap ts i cs vm lm vc lc):w.heap.size+2<=wc.heap.size:=(iA.1 h.he).1
theorem Wm.step (h:Wm w wc p g cap ts i cs vm lm vc lc)(b:Pa wd p g cap ts i')(a:Fr (fun k=>k=p) wc wd):Wm w wd p g cap ts i' cs vm lm vc lc:=
 have c:=h.pl
 ⟨b,h.fr.trans a,a.whole h.hr (by omega),a.whole h.he (by omega),oF h.rm a (fun k d=>by omega),oF h.rc a (fun k d=>by omega),h.pl,h.gl⟩
theorem Wm.write {cs':Array E}(h:Wm w wc p g cap ts i cs vm lm vc lc)(a:Fr (fun k=>k=w.heap.size+1) wc wd)(c:wd.heap[w.heap.size+1]?=G (O cs' 295)):Wm w wd p g cap ts i cs' vm lm vc lc:=
 have d:=h.pl;have e:=h.gl
 ⟨h.pa.fr a (fun k b=>by omega),h.fr.monoNew a (fun k b=>by omega),a.whole h.hr (by omega),c,oF h.rm a (fun k b=>by omega),oF h.rc a (fun k b=>by omega),h.pl,h.gl⟩
theorem Wm.mcc {v:E}{l:List Tk}(h:Wm w wc p g cap ts i cs vm lm vc lc)(a:wc.ownsRow (w.heap.size+2) 263 3 v l.length (Yb l)):Wm w wc p g cap ts i cs v l vc lc:=⟨h.pa,h.fr,h.hr,h.he,a,h.rc,h.pl,h.gl⟩
theorem Wm.cur {v:E}{l:List Tk}(h:Wm w wc p g cap ts i cs vm lm vc lc)(a:wc.ownsRow (w.heap.size+2) 263 3 v l.length (Yb l)):Wm w wc p g cap ts i cs vm lm v l:=⟨h.pa,h.fr,h.hr,h.he,h.rm,a,h.pl,h.gl⟩
end
theorem Ej {w:B}{p g cap:Nat}{ts:List Tk}{i:Nat}(h:Pa w p g cap ts i):
  Wm w ((w.alloc (O TY 295)).alloc (O TY 295)) p g cap ts i TY (Y Z 0 0) [] (Y Z 0 0) []:=
 ⟨h.fr (S:=fun _=>False) (((Fr.refl _ _).alloc _).alloc _) (by simp),((Fr.refl _ _).alloc _).alloc _,((Fr.refl (fun _=>False) _).alloc _).whole (aN w _) (by simp),Vt w _ _,
  oZ _ _ _ _,oZ _ _ _ _,bL w _ h.c0,h.gl⟩
theorem Ek (w:B)(p g cap:Nat)(ts:List Tk)(i:Nat)(h:Pa w p g cap ts i):
  N D 193 #[z4 (G ⟨p,0,Z⟩)] w (Zo (Wf ts i) (fun r v w'=>∃S vc vr,v=QL r S vc vr/\w'.ownsRow w.heap.size 263 3 S r.mcc.length (Yb r.mcc)/\w'.ownsRow w.heap.size 263 3 vc r.cur.length (Yb r.cur)/\w'.ownsRow w.heap.size 263 3 vr r.act.routes.length (Yb r.act.routes)) w p g cap ts):=by
 have k0:H (Wm w ((w.alloc (O TY 295)).alloc (O TY 295)) p g cap ts i TY (Y Z 0 0) [] (Y Z 0 0) []):=Ej h;have S0:p<w.heap.size:=bL w _ h.c0;clear h;go_enter Tryz.func193,Tryz.ntmps193;go_wp2_with fail;refine(Vs _ p g cap ts i 0 _ k0.o.pa (by decide) (by rfl)).mono ?_;intro e w1 u
 cases s:Ya ts i 0 with
 |error l=>
  obtain⟨A,f⟩:=(Zo.err s).1 u;unfold Zj at A;subst A;exact⟨rfl,(Zo.err (by unfold Wf;rw[Z9 s])).2 ⟨rfl,k0.o.fr.trans f⟩⟩
 |ok r=>
  obtain⟨a,i1⟩:=r;obtain⟨⟨v,rfl,rfl⟩,x,f⟩:=(Zo.ok s).1 u;have hA:=Za s;have W:H (Wm w w1 p g cap ts i1 TY (Y Z 0 0) [] (Y Z 0 0) []):=k0.o.step x f;have e0:=bC W.o.he 0 _ rfl;have e1:=bC W.o.he 1 _ rfl;have e2:=bC W.o.he 2 _ rfl;have ef:=bF W.o.he;clear s u x f k0;simp only[SY];go_wp2_with fail;clear e0 e1 e2 ef
  change N _ _ _ (V7 w1 (w.heap.size+1) 0 a) _
  have l0:H (Wm w (V7 w1 (w.heap.size+1) 0 a) p g cap ts i1 #[I J a.sort,V a.text,I J a.line,I J 0,V ⟨#[]⟩,I J 0,I J 0,V ⟨#[]⟩,I J 0,I J 0,V ⟨#[]⟩,I J 0,Y Z 0 0,Y Z 0 0,U false,I J 0,V ⟨#[]⟩,I J 0,I J 0,V ⟨#[]⟩,I J 0,U false,U false,Y Z 0 0] (Y Z 0 0) [] (Y Z 0 0) []):=W.o.write (Wg _ _ _ _) (Vg W.o.he 0 a);clear W;generalize V7 w1 (w.heap.size+1) 0 a=w2 at*;refine(Vs _ p g cap ts i1 1 _ l0.o.pa (by decide) (by rfl)).mono ?_;intro e w3 u
  cases s:Ya ts i1 1 with
  |error l=>
   obtain⟨A,f⟩:=(Zo.err s).1 u;unfold Zj at A;subst A;exact⟨rfl,(Zo.err (by unfold Wf;rw[Zh hA.o,Z9 s])).2 ⟨rfl,l0.o.fr.trans f⟩⟩
  |ok r=>
   obtain⟨b,i2⟩:=r;obtain⟨⟨v,rfl,rfl⟩,x,f⟩:=(Zo.ok s).1 u;have hB:=Za s;have X:H (Wm w w3 p g cap ts i2 #[I J a.sort,V a.text,I J a.line,I J 0,V ⟨#[]⟩,I J 0,I J 0,V ⟨#[]⟩,I J 0,I J 0,V ⟨#[]⟩,I J 0,Y Z 0 0,Y Z 0 0,U false,I J 0,V ⟨#[]⟩,I J 0,I J 0,V ⟨#[]⟩,I J 0,U false,U false,Y Z 0 0] (Y Z 0 0) [] (Y Z 0 0) []):=l0.o.step x f;have e3:=bC X.o.he 3 _ rfl;have e4:=bC X.o.he 4 _ rfl;have e5:=bC X.o.he 5 _ rfl;have ef:=bF X.o.he;clear s u x f l0;simp only[SY];go_wp2_with fail;clear e3 e4 e5 ef
   change N _ _ _ (V7 w3 (w.heap.size+1) 3 b) _
   have m0:H (Wm w (V7 w3 (w.heap.size+1) 3 b) p g cap ts i2 #[I J a.sort,V a.text,I J a.line,I J b.sort,V b.text,I J b.line,I J 0,V ⟨#[]⟩,I J 0,I J 0,V ⟨#[]⟩,I J 0,Y Z 0 0,Y Z 0 0,U false,I J 0,V ⟨#[]⟩,I J 0,I J 0,V ⟨#[]⟩,I J 0,U false,U false,Y Z 0 0] (Y Z 0 0) [] (Y Z 0 0) []):=X.o.write (Wg _ _ _ _) (Vg X.o.he 3 b);clear X;generalize V7 w3 (w.heap.size+1) 3 b=w4 at*;refine(VQ _ p g cap ts i2 UZ m0.o.pa).mono ?_;intro e w5 u
   cases s:ZG ts i2 UZ with
   |error l=>
    obtain⟨A,f⟩:=(Zo.err s).1 u;unfold Zj at A;subst A;exact⟨rfl,(Zo.err (by unfold Wf;rw[Zh hA.o,Zh hB.o,Z9 s])).2 ⟨rfl,m0.o.fr.trans f⟩⟩
   |ok r=>
    obtain⟨u1,i3⟩:=r;obtain⟨⟨v,rfl,rfl⟩,x,f⟩:=(Zo.ok s).1 u;have hC:=Za s;have n0:H (Wm w w5 p g cap ts i3 #[I J a.sort,V a.text,I J a.line,I J b.sort,V b.text,I J b.line,I J 0,V ⟨#[]⟩,I J 0,I J 0,V ⟨#[]⟩,I J 0,Y Z 0 0,Y Z 0 0,U false,I J 0,V ⟨#[]⟩,I J 0,I J 0,V ⟨#[]⟩,I J 0,U false,U false,Y Z 0 0] (Y Z 0 0) [] (Y Z 0 0) []):=m0.o.step x f;clear s u x f m0;go_wp2_with fail;refine(VQ _ p g cap ts i3 SA n0.o.pa).mono ?_;intro e w6 u
    cases s:ZG ts i3 SA with
    |error l=>
     obtain⟨A,f⟩:=(Zo.err s).1 u;unfold Zj at A;subst A;exact⟨rfl,(Zo.err (by unfold Wf;rw[Zh hA.o,Zh hB.o,Zh hC.o,Z9 s])).2 ⟨rfl,n0.o.fr.trans f⟩⟩
    |ok r=>
     obtain⟨u2,i4⟩:=r;obtain⟨⟨v,rfl,rfl⟩,x,f⟩:=(Zo.ok s).1 u;have hD:=Za s;have o0:H (Wm w w6 p g cap ts i4 #[I J a.sort,V a.text,I J a.line,I J b.sort,V b.text,I J b.line,I J 0,V ⟨#[]⟩,I J 0,I J 0,V ⟨#[]⟩,I J 0,Y Z 0 0,Y Z 0 0,U false,I J 0,V ⟨#[]⟩,I J 0,I J 0,V ⟨#[]⟩,I J 0,U false,U false,Y Z 0 0] (Y Z 0 0) [] (Y Z 0 0) []):=n0.o.step x f;clear s u x f n0;go_wp2_with fail;refine(LF _ p g cap ts i4 o0.o.pa).mono ?_;intro e w7 u
     cases s:Uu ts i4 with
     |error l=>
      obtain⟨A,f⟩:=(Zo.err s).1 u;unfold Zj at A;subst A;exact⟨rfl,(Zo.err (by unfold Wf;rw[Zh hA.o,Zh hB.o,Zh hC.o,Zh hD.o,Z9 s])).2 ⟨rfl,o0.o.fr.trans f⟩⟩
     |ok r=>
      obtain⟨⟨c,d⟩,T⟩:=r;obtain⟨⟨v,rfl,rfl⟩,x,f⟩:=(Zo.ok s).1 u;have hE:=Za s;have Q:H (Wm w w7 p g cap ts T #[I J a.sort,V a.text,I J a.line,I J b.sort,V b.text,I J b.line,I J 0,V ⟨#[]⟩,I J 0,I J 0,V ⟨#[]⟩,I J 0,Y Z 0 0,Y Z 0 0,U false,I J 0,V ⟨#[]⟩,I J 0,I J 0,V ⟨#[]⟩,I J 0,U false,U false,Y Z 0 0] (Y Z 0 0) [] (Y Z 0 0) []):=o0.o.step x f;have e6:=bC Q.o.he 6 _ rfl;have e7:=bC Q.o.he 7 _ rfl;have e8:=bC Q.o.he 8 _ rfl;have e9:=bC Q.o.he 9 _ rfl;have D0:=bC Q.o.he 10 _ rfl;have E0:=bC Q.o.he 11 _ rfl;have ef:=bF Q.o.he;clear s u x f o0;simp only[Uy];go_wp2_with fail;clear e6 e7 e8 e9 D0 E0 ef
      change N _ _ _ (DQ w7 (w.heap.size+1) 6 c d) _
      have r0:H (Wm w (DQ w7 (w.heap.size+1) 6 c d) p g cap ts T #[I J a.sort,V a.text,I J a.line,I J b.sort,V b.text,I J b.line,I J c.sort,V c.text,I J c.line,I J d.sort,V d.text,I J d.line,Y Z 0 0,Y Z 0 0,U false,I J 0,V ⟨#[]⟩,I J 0,I J 0,V ⟨#[]⟩,I J 0,U false,U false,Y Z 0 0] (Y Z 0 0) [] (Y Z 0 0) []):=Q.o.write (I0 _ _ _ _ _) (Vg (Vg Q.o.he 6 c) 9 d);clear Q;generalize DQ w7 (w.heap.size+1) 6 c d=w8 at*;refine(RB _ p g cap ts T Wc r0.o.pa).mono ?_;rintro e w9 ⟨rfl,x,f⟩;have a0:H (Wm w w9 p g cap ts _ #[I J a.sort,V a.text,I J a.line,I J b.sort,V b.text,I J b.line,I J c.sort,V c.text,I J c.line,I J d.sort,V d.text,I J d.line,Y Z 0 0,Y Z 0 0,U false,I J 0,V ⟨#[]⟩,I J 0,I J 0,V ⟨#[]⟩,I J 0,U false,U false,Y Z 0 0] (Y Z 0 0) [] (Y Z 0 0) []):=r0.o.step x f
      have hO:H (YM ts T Wc=if Zq (Zs ts T) Wc=true then Xi ts (if Zq (Zs ts T) Wc=true then T+1 else T) 1 else .ok ([],(if Zq (Zs ts T) Wc=true then T+1 else T))):=by
       show _=_
       unfold YM
       cases Zq (Zs ts T) Wc<;>rfl
      clear x f r0;generalize Zq (Zs ts T) Wc=q at*;generalize(if q=true then T+1 else T)=i6 at*
      go_upto_if 18 with fail
      go_cut [] (fun wc=>∃S lm j,H (YM ts T Wc=.ok (lm,j))/\H (Wm w wc p g cap ts j #[I J a.sort,V a.text,I J a.line,I J b.sort,V b.text,I J b.line,I J c.sort,V c.text,I J c.line,I J d.sort,V d.text,I J d.line,S,Y Z 0 0,U false,I J 0,V ⟨#[]⟩,I J 0,I J 0,V ⟨#[]⟩,I J 0,U false,U false,Y Z 0 0] S lm (Y Z 0 0) []))
      case first=>
       cases q with
       |false=>
        go_wp2_with fail;go_meet
        case rel=>exact⟨Y Z 0 0,[],i6,hO.o,a0.o⟩
       |true=>
        go_wp2_with fail;refine(PP _ p g cap ts i6 1 _ a0.o.pa (by decide) (by rfl)).mono ?_;intro e F0 u
        cases s:Xi ts i6 1 with
        |error l=>
         obtain⟨A,f⟩:=(Zo.err s).1 u;unfold Zj at A;subst A;exact⟨rfl,(Zo.err (by unfold Wf;rw[Zh hA.o,Zh hB.o,Zh hC.o,Zh hD.o,Zh hE.o,Z9 (hO.o.trans s)])).2 ⟨rfl,a0.o.fr.trans f⟩⟩
        |ok r=>
         obtain⟨l,i7⟩:=r;obtain⟨⟨v,rfl,z⟩,x,f⟩:=(Zo.ok s).1 u;obtain⟨va,vn,vk,rfl⟩:=ZD z;have b0:H (Wm w F0 p g cap ts i7 _ _ l _ []):=(a0.o.step x f).mcc (oS z a0.o.size);have hL:H (YM ts T Wc=.ok (l,i7)):=hO.o.trans s;have T0:=bC b0.o.he 12 _ rfl;have ef:=bF b0.o.he;clear s u x f z a0;go_wp2_with fail;go_meet
         case rel=>exact⟨Y va vn vk,l,i7,hL.o,b0.o.write ((Fr.refl (fun k=>k=w.heap.size+1) _).setCell (p:=⟨w.heap.size+1,12,Z⟩) (R rfl) _) (Yl b0.o.he 12 _)⟩
      case rest=>
       obtain⟨S,lm,j6,hF,h0⟩:=hcut
       rename B=>wA
       clear a0 hO;go_wp2_with fail;refine(RB _ p g cap ts j6 ZS h0.o.pa).mono ?_;rintro e s0 ⟨rfl,x,f⟩;have K:H (Wm w s0 p g cap ts _ _ S lm _ []):=h0.o.step x f
       have hO:H (XR ts j6 ZS=if Zq (Zs ts j6) ZS=true then YS (Uu ts (if Zq (Zs ts j6) ZS=true then j6+1 else j6)) (fun ab i=>.ok (G ab,i))else .ok (Z,(if Zq (Zs ts j6) ZS=true then j6+1 else j6))):=by
        show _=_
        unfold XR
        cases Zq (Zs ts j6) ZS<;>rfl
       clear x f h0;generalize Zq (Zs ts j6) ZS=q2 at*;generalize(if q2=true then j6+1 else j6)=i8 at*
       go_upto_if 23 with fail
       go_cut [] (fun wc=>∃t j,H (XR ts j6 ZS=.ok (t,j))/\H (Wm w wc p g cap ts j #[I J a.sort,V a.text,I J a.line,I J b.sort,V b.text,I J b.line,I J c.sort,V c.text,I J c.line,I J d.sort,V d.text,I J d.line,S,Y Z 0 0,U t.isSome,VR t 0,VR t 1,VR t 2,VR t 3,VR t 4,VR t 5,U false,U false,Y Z 0 0] S lm (Y Z 0 0) []))
       case first=>
        cases q2 with
        |false=>
         go_wp2_with fail;go_meet
         case rel=>exact⟨Z,i8,hO.o,K.o⟩
        |true=>
         have G0:=bC K.o.he 14 _ rfl;have ef:=bF K.o.he;go_wp2_with fail;clear G0 ef;have d0:H (Wm w (s0.setCell ⟨w.heap.size+1,14,Z⟩ (U true)) p g cap ts i8 #[I J a.sort,V a.text,I J a.line,I J b.sort,V b.text,I J b.line,I J c.sort,V c.text,I J c.line,I J d.sort,V d.text,I J d.line,S,Y Z 0 0,U true,I J 0,V ⟨#[]⟩,I J 0,I J 0,V ⟨#[]⟩,I J 0,U false,U false,Y Z 0 0] S lm (Y Z 0 0) []):=K.o.write ((Fr.refl (fun k=>k=w.heap.size+1) _).setCell (p:=⟨w.heap.size+1,14,Z⟩) (R rfl) _) (Yl K.o.he 14 _);clear K;generalize s0.setCell ⟨w.heap.size+1,14,Z⟩ (U true)=V0 at*;refine(LF _ p g cap ts i8 d0.o.pa).mono ?_;intro e y0 u
         cases s:Uu ts i8 with
         |error l=>
          obtain⟨A,f⟩:=(Zo.err s).1 u;unfold Zj at A;subst A;exact⟨rfl,(Zo.err (by unfold Wf;rw[Zh hA.o,Zh hB.o,Zh hC.o,Zh hD.o,Zh hE.o,Zh hF.o,Z9 (hO.o.trans (Z9 s))])).2 ⟨rfl,d0.o.fr.trans f⟩⟩
         |ok r=>
          obtain⟨⟨m,n⟩,i9⟩:=r;obtain⟨⟨v,rfl,rfl⟩,x,f⟩:=(Zo.ok s).1 u;have C:H (Wm w y0 p g cap ts i9 _ S lm _ []):=d0.o.step x f;have hL:H (XR ts j6 ZS=.ok (G (m,n),i9)):=hO.o.trans (Zh s);have W0:=bC C.o.he 15 _ rfl;have X0:=bC C.o.he 16 _ rfl;have Y0:=bC C.o.he 17 _ rfl;have Z0:=bC C.o.he 18 _ rfl;have a1:=bC C.o.he 19 _ rfl;have b1:=bC C.o.he 20 _ rfl;have ef:=bF C.o.he;clear s u x f d0;simp only[Uy];go_wp2_with fail;go_meet
          case rel=>exact⟨G (m,n),i9,hL.o,C.o.write (I0 y0 (w.heap.size+1) 15 m n) (Vg (Vg C.o.he 15 m) 18 n)⟩
       case rest=>
        obtain⟨t,j8,hG,i0⟩:=hcut
        rename B=>wB
        clear K hO;go_wp2_with fail;refine(RB _ p g cap ts j8 WD i0.o.pa).mono ?_;rintro e H0 ⟨rfl,x,f⟩;have L:H (Wm w H0 p g cap ts _ _ S lm _ []):=i0.o.step x f
        have hO:H (YM ts j8 WD=if Zq (Zs ts j8) WD=true then Xi ts (if Zq (Zs ts j8) WD=true then j8+1 else j8) 1 else .ok ([],(if Zq (Zs ts j8) WD=true then j8+1 else j8))):=by
         show _=_
         unfold YM
         cases Zq (Zs ts j8) WD<;>rfl
        clear x f i0;generalize Zq (Zs ts j8) WD=q3 at*;generalize(if q3=true then j8+1 else j8)=t0 at*
        go_upto_if 29 with fail
        go_cut [] (fun wc=>∃vc lc j,H (YM ts j8 WD=.ok (lc,j))/\H (Wm w wc p g cap ts j #[I J a.sort,V a.text,I J a.line,I J b.sort,V b.text,I J b.line,I J c.sort,V c.text,I J c.line,I J d.sort,V d.text,I J d.line,S,vc,U t.isSome,VR t 0,VR t 1,VR t 2,VR t 3,VR t 4,VR t 5,U false,U false,Y Z 0 0] S lm vc lc))
        case first=>
         cases q3 with
         |false=>
          go_wp2_with fail;go_meet
          case rel=>exact⟨Y Z 0 0,[],t0,hO.o,L.o⟩
         |true=>
          go_wp2_with fail;refine(PP _ p g cap ts t0 1 _ L.o.pa (by decide) (by rfl)).mono ?_;intro e J0 u
          cases s:Xi ts t0 1 with
          |error l=>
           obtain⟨A,f⟩:=(Zo.err s).1 u;unfold Zj at A;subst A;exact⟨rfl,(Zo.err (by unfold Wf;rw[Zh hA.o,Zh hB.o,Zh hC.o,Zh hD.o,Zh hE.o,Zh hF.o,Zh hG.o,Z9 (hO.o.trans s)])).2 ⟨rfl,L.o.fr.trans f⟩⟩
          |ok r=>
           obtain⟨l,v0⟩:=r;obtain⟨⟨v,rfl,z⟩,x,f⟩:=(Zo.ok s).1 u;obtain⟨va,vn,vk,rfl⟩:=ZD z;have f0:H (Wm w J0 p g cap ts v0 _ S lm _ l):=(L.o.step x f).cur (oS z L.o.size);have hL:H (YM ts j8 WD=.ok (l,v0)):=hO.o.trans s;have c1:=bC f0.o.he 13 _ rfl;have ef:=bF f0.o.he;clear s u x f z L;go_wp2_with fail;go_meet
           case rel=>exact⟨Y va vn vk,l,v0,hL.o,f0.o.write ((Fr.refl (fun k=>k=w.heap.size+1) _).setCell (p:=⟨w.heap.size+1,13,Z⟩) (R rfl) _) (Yl f0.o.he 13 _)⟩
        case rest=>
         obtain⟨vc,lc,z0,hH,g0⟩:=hcut
         rename B=>wD
         clear L hO;go_wp2_with fail;refine(VQ _ p g cap ts z0 Tl g0.o.pa).mono ?_;intro e K0 u
         cases s:ZG ts z0 Tl with
         |error l=>
          obtain⟨A,f⟩:=(Zo.err s).1 u;unfold Zj at A;subst A;exact⟨rfl,(Zo.err (by unfold Wf;rw[Zh hA.o,Zh hB.o,Zh hC.o,Zh hD.o,Zh hE.o,Zh hF.o,Zh hG.o,Zh hH.o,Z9 s])).2 ⟨rfl,g0.o.fr.trans f⟩⟩
         |ok r=>
          obtain⟨u3,w0⟩:=r;obtain⟨⟨v,rfl,rfl⟩,x,f⟩:=(Zo.ok s).1 u;have hI:=Za s;have y:H (Wm w K0 p g cap ts w0 _ S lm vc lc):=g0.o.step x f;clear s u x f g0;have Q0:=y.o.pl;have R0:=y.o.gl;go_wp2_with fail;refine(Jq _ p g cap ts w0 (w.heap.size+1) _ y.o.pa y.o.he (by omega) (by omega) rfl rfl rfl).mono ?_;intro e M u
          cases s:Xj ts w0 with
          |error l=>
           obtain⟨A,f⟩:=(SC.err s).1 u;unfold Zj at A;subst A;exact⟨rfl,(Zo.err (by unfold Wf;rw[Zh hA.o,Zh hB.o,Zh hC.o,Zh hD.o,Zh hE.o,Zh hF.o,Zh hG.o,Zh hH.o,Zh hI.o,Z9 s])).2 ⟨rfl,y.o.fr.monoNew f (fun k hk=>by omega)⟩⟩
          |ok r=>
           obtain⟨F,d1⟩:=r;obtain⟨rfl,⟨vr,A0,z⟩,x,f⟩:=(SC.ok s).1 u;have hJ:=Za s;have L0:=Za x;have M0:H (Fr (fun k=>k=p) w M):=y.o.fr.monoNew f (fun k hk=>by omega);have HM:H (M.ownsRow (w.heap.size+2) 263 3 S lm.length (Yb lm)):=oF y.o.rm f (fun k hk=>by omega);have HC:H (M.ownsRow (w.heap.size+2) 263 3 vc lc.length (Yb lc)):=oF y.o.rc f (fun k hk=>by omega);have HT:H (M.ownsRow (w.heap.size+2) 263 3 vr F.routes.length (Yb F.routes)):=oS z y.o.size;have x0:=f.whole y.o.hr (by omega);clear s u x f z;obtain⟨ma,mn,mk,rfl⟩:=ZD HM.o;obtain⟨ca,cn,ck,rfl⟩:=ZD HC.o;obtain⟨ra,rn,rk,rfl⟩:=ZD HT.o;have B0:M.there w.heap.size 0 24:=LG x0 rfl;have C0:M.heap[w.heap.size+1]?=G (O #[I J a.sort,V a.text,I J a.line,I J b.sort,V b.text,I J b.line,I J c.sort,V c.text,I J c.line,I J d.sort,V d.text,I J d.line,Y ma mn mk,Y ca cn ck,U t.isSome,VR t 0,VR t 1,VR t 2,VR t 3,VR t 4,VR t 5,U F.decline,U F.cheapest,Y ra rn rk] 295):=A0
           have q0:(#[I J a.sort,V a.text,I J a.line,I J b.sort,V b.text,I J b.line,I J c.sort,V c.text,I J c.line,I J d.sort,V d.text,I J d.line,Y ma mn mk,Y ca cn ck,U t.isSome,VR t 0,VR t 1,VR t 2,VR t 3,VR t 4,VR t 5,U F.decline,U F.cheapest,Y ra rn rk]:Array E).all (·.oneCell')=true:=by
            cases t<;>simp[z2,VR]
           have HW:H (Fr _ M (M.setCells w.heap.size 0 (#[I J a.sort,V a.text,I J a.line,I J b.sort,V b.text,I J b.line,I J c.sort,V c.text,I J c.line,I J d.sort,V d.text,I J d.line,Y ma mn mk,Y ca cn ck,U t.isSome,VR t 0,VR t 1,VR t 2,VR t 3,VR t 4,VR t 5,U F.decline,U F.cheapest,Y ra rn rk]:Array E).toList)):=QM _ _ _ _;have HV:H ((M.setCells w.heap.size 0 (#[I J a.sort,V a.text,I J a.line,I J b.sort,V b.text,I J b.line,I J c.sort,V c.text,I J c.line,I J d.sort,V d.text,I J d.line,Y ma mn mk,Y ca cn ck,U t.isSome,VR t 0,VR t 1,VR t 2,VR t 3,VR t 4,VR t 5,U F.decline,U F.cheapest,Y ra rn rk]:Array E).toList).heap[w.heap.size]?=G (O #[I J a.sort,V a.text,I J a.line,I J b.sort,V b.text,I J b.line,I J c.sort,V c.text,I J c.line,I J d.sort,V d.text,I J d.line,Y ma mn mk,Y ca cn ck,U t.isSome,VR t 0,VR t 1,VR t 2,VR t 3,VR t 4,VR t 5,U F.decline,U F.cheapest,Y ra rn rk] 295)):=Nt x0 rfl;clear A0 x0 y;generalize p0:(#[I J a.sort,V a.text,I J a.line,I J b.sort,V b.text,I J b.line,I J c.sort,V c.text,I J c.line,I J d.sort,V d.text,I J d.line,Y ma mn mk,Y ca cn ck,U t.isSome,VR t 0,VR t 1,VR t 2,VR t 3,VR t 4,VR t 5,U F.decline,U F.cheapest,Y ra rn rk]:Array E)=cs at*;have HK:=Za p0
           have j0:(D.info? 295).map (·.size)=G cs.size:=by rw[<-p0];kernel_rfl
           have N0:=Za B0;have O0:=Za C0;have HN:=Za q0;have HZ:=Za j0
           have P0:H (cs.size=24):=by show _=_;rw[<-p0];rfl
           clear p0 B0 C0 q0 j0
           go_wp2_with (first|(refine wpList_load_row rfl 295 _ rfl (w.heap.size+1) rfl 295 cs (0,0) _ O0.o Tryz.underlying295 rfl HZ.o ?_)|(refine wpList_store_mid rfl 295 _ _ rfl w.heap.size 0 cs rfl rfl (by rw[P0.o];exact N0.o) HZ.o HN.o ?_))
           have P:Fr (fun k=>k=w.heap.size) M (M.setCells w.heap.size 0 cs.toList):=HW.o
           exact bodyPost_ret (v:=z1 cs) (results_cell_row rfl _ _ w.heap.size 295 cs (0,0) _ rfl HV.o Tryz.underlying295 rfl HZ.o) rfl ((Zo.ok (by unfold Wf;rw[Zh hA.o,Zh hB.o,Zh hC.o,Zh hD.o,Zh hE.o,Zh hF.o,Zh hG.o,Zh hH.o,Zh hI.o,Zh hJ.o])).2 ⟨⟨_,rfl,Y ma mn mk,Y ca cn ck,Y ra rn rk,congrArg Value.agg HK.o.symm,
            oS (oF HM.o P (fun k hk=>by omega)) (by omega),oS (oF HC.o P (fun k hk=>by omega)) (by omega),oS (oF HT.o P (fun k hk=>by omega)) (by omega)⟩,
            L0.o.fr P (fun k hk=>by omega),M0.o.monoNew P (fun k hk=>by omega)⟩)
def RE (base:Nat)(w:B)(x:Yk)(v:E):Prop:=
 match x with
 | .route r=>v=.iface 290 (Uz r)
 | .rule r=>∃a b c,v=.iface 295 (QL r a b c)/\w.ownsRow base 263 3 a r.mcc.length (Yb r.mcc)/\w.ownsRow base 263 3 b r.cur.length (Yb r.cur)/\w.ownsRow base 263 3 c r.act.routes.length (Yb r.act.routes)
theorem RE.fr {base a:Nat}{w w':B}{x:Yk}{v:E}{S:Nat->Prop}(h:RE base w x v)(b:Fr S w w')(c:∀k,S k->k<base)(d:a<=base):RE a w' x v:=by
 cases x with
 |route r=>exact h
 |rule r=>
  obtain⟨e,f,g,i,j,l,m⟩:=h;exact⟨e,f,g,i,oS (oF j b c) d,oS (oF l b c) d,oS (oF m b c) d⟩
theorem Gv (w:B)(p g cap:Nat)(ts:List Tk)(i:Nat)(h:Pa w p g cap ts i):
  N D 157 #[z4 (G ⟨p,0,Z⟩)] w (Zo (Z5 ts i) (fun x v w'=>RE w.heap.size w' x v) w p g cap ts):=by
 have t:=Za h;have Q:p<w.heap.size:=bL w _ h.c0;clear h
 cases n:Zq (Zs ts i) Wb with
 |true=>
  go_enter Tryz.func157,Tryz.ntmps157;go_wp2_with fail;refine(TX w p g cap ts i _ Wb t.o t.o.at n).mono ?_;rintro e K ⟨rfl,y,a⟩;have d:=Za a;have q:=Za y;clear y a;go_wp2_with fail;refine(Gu _ p g cap ts (i+1) q.o).mono ?_;intro e w2 f
  cases b:WE ts (i+1)with
  |error l=>
   obtain⟨m,a⟩:=(Zo.err b).1 f;unfold Zj at m;subst m;exact⟨rfl,(Zo.err (by unfold Z5;rw[if_pos n,Z9 b])).2 ⟨rfl,d.o.trans a⟩⟩
  |ok r=>
   obtain⟨r,C⟩:=r;obtain⟨⟨v,rfl,rfl⟩,j,a⟩:=(Zo.ok b).1 f;have c:=Za (d.o.trans a);have s:=Za j
   have E:H (Z5 ts i=.ok (.route r,C)):=by show _=_;unfold Z5;rw[if_pos n,Zh b]
   clear b f j a;generalize z:Uz r=v;have F:=Za z;clear z;go_wp2;go_ret;refine(Zo.ok E.o).2 ⟨⟨_,rfl,?_⟩,s.o,c.o⟩
   show _=_
   rw[F.o];rfl
 |false=>
  go_enter Tryz.func157,Tryz.ntmps157;go_wp2_with fail;refine(RA w p g cap ts i _ Wb t.o t.o.at n).mono ?_;rintro e K ⟨rfl,a⟩;have d:H (Fr (fun k=>k=p) w K):=a.mono (by simp);have q:=Za (t.o.fr a (by simp));clear a;go_wp2_with fail;refine(VQ _ p g cap ts i VP q.o).mono ?_;intro e w2 f
  cases b:ZG ts i VP with
  |error l=>
   obtain⟨m,a⟩:=(Zo.err b).1 f;unfold Zj at m;subst m;exact⟨rfl,(Zo.err (by unfold Z5;rw[if_neg (by simp[n]),Z9 b])).2 ⟨rfl,d.o.trans a⟩⟩
  |ok r=>
   obtain⟨u,C⟩:=r;obtain⟨⟨v,rfl,rfl⟩,j,a⟩:=(Zo.ok b).1 f;have c:=Za (d.o.trans a);have s:=Za j;have L:=Za b;clear b f j a;go_wp2_with fail;refine(Ek _ p g cap ts C s.o).mono ?_;intro e R f
   cases b:Wf ts C with
   |error l=>
    obtain⟨m,a⟩:=(Zo.err b).1 f;unfold Zj at m;subst m;exact⟨rfl,(Zo.err (by unfold Z5;rw[if_neg (by simp[n]),Zh L.o,Z9 b])).2 ⟨rfl,c.o.trans a⟩⟩
   |ok r=>
    obtain⟨r,S⟩:=r;obtain⟨⟨v,rfl,T,U,V,z,M,O,P⟩,A,a⟩:=(Zo.ok b).1 f;have I:=Za (c.o.trans a);have J:=Za A
    have E:H (Z5 ts i=.ok (.rule r,S)):=by show _=_;unfold Z5;rw[if_neg (by simp[n]),Zh L.o,Zh b]
    have F:H (RE w.heap.size R (.rule r) (.iface 295 v)):=⟨T,U,V,by rw[z],oS M c.o.size,oS O c.o.size,oS P c.o.size⟩;clear b f A a z M O P;go_wp2;go_ret;exact(Zo.ok E.o).2 ⟨⟨_,rfl,F.o⟩,J.o,I.o⟩
def YT (base:Nat)(w:B):List Yk->List E->Prop
 |[],[]=>True
 |x::xs,v::vs=>RE base w x v/\YT base w xs vs
 |_,_=>False
theorem YT.fr {base:Nat}{w w':B}{S:Nat->Prop}(a:Fr S w w')(b:∀k,S k->k<base):∀{c:List Yk}{d:List E},YT base w c d->YT base w' c d
 |[],[],_=>trivial
 |_::_,_::_,h=>⟨h.1.fr a b (F _),YT.fr a b h.2⟩
 |[],_::_,h=>h
 |_::_,[],h=>h
theorem YT.base {base a:Nat}{w:B}(b:a<=base):∀{c:List Yk}{d:List E},YT base w c d->YT a w c d
 |[],[],_=>trivial
 |_::_,_::_,h=>⟨h.1.fr (Fr.refl (fun _=>False) w) (by simp) b,YT.base b h.2⟩
 |[],_::_,h=>h
 |_::_,[],h=>h
theorem RE.iface {base:Nat}{w:B}{x:Yk}{v:E}(h:RE base w x v):∃T u,v=.iface T u:=by
 cases x with
 |route r=>exact⟨_,_,h⟩
 |rule r=>obtain⟨_,_,_,a,_⟩:=h;exact⟨_,_,a⟩
theorem YT.length {base:Nat}{w:B}:∀{a:List Yk}{b:List E},YT base w a b->a.length=b.length
 |[],[],_=>rfl
 |_::_,_::_,h=>by simp[YT.length h.2]
theorem YT.snoc {base:Nat}{w:B}{x:Yk}{v:E}(a:RE base w x v):∀{b:List Yk}{c:List E},YT base w b c->YT base w (b++[x]) (c++[v])
 |[],[],_=>⟨a,trivial⟩
 |_::_,_::_,h=>⟨h.1,YT.snoc a h.2⟩
theorem WW {w:B}{j l:Nat}{c d:TypeId}{o p:Nat}{v u:E}{n m:Nat}{q r:List E}(h:w.ownsRow j c o v n q)(k:w.ownsRow l d p u m r)(b:c≠d):v.ownBlock=Z\/v.ownBlock≠u.ownBlock:=by
 rcases h.2 with⟨rfl,_⟩|⟨g,cap,s,rfl,_,t,_⟩
 ·exact .inl rfl
 ·refine .inr fun e=>?_
  rcases k.2 with⟨rfl,_⟩|⟨x,f,i,rfl,_,a,_⟩
  ·simp[z3]at e
  ·simp[z3]at e
   subst e;rw[t]at a;injection a with a;injection a with _ a;exact b a
theorem RE.grown {base e m:Nat}{w w':B}{x:Yk}{v u:E}{f:List E}(h:RE base w x v)(k:w.ownsRow e 256 1 u m f)(a:w.grownBy w' u.ownBlock):RE base w' x v:=by
 cases x with
 |route r=>exact h
 |rule r=>
  obtain⟨g,i,j,l,b,c,d⟩:=h;exact⟨g,i,j,l,b.kept a (WW b k (by decide)),c.kept a (WW c k (by decide)),d.kept a (WW d k (by decide))⟩
theorem YT.grown {base d m:Nat}{w w':B}{u:E}{e:List E}(k:w.ownsRow d 256 1 u m e)(a:w.grownBy w' u.ownBlock):∀{b:List Yk}{c:List E},YT base w b c->YT base w' b c
 |[],[],_=>trivial
 |_::_,_::_,h=>⟨h.1.grown k a,YT.grown k a h.2⟩
 |[],_::_,h=>h
 |_::_,[],h=>h
theorem PS:(D.info? 256).map (fun i=>(i.zero,i.size,i.bytes))=G (G .nilIface,1,16):=by kernel_rfl
theorem Jr (a b c:E)(w:B):(Instr.field 263 (z1 #[a,b,c]) 0).run D w=.ok a w:=by kernel_rfl
def Wn (w:B)(ts:List Tk)(e:Ending)(w':B):Prop:=
 match Zu ts 0 []with
 | .ok (xs,_)=>(∃v a,e=M v/\w'.ownsRow w.heap.size 256 1 v xs.length a/\YT w.heap.size w' xs a/\xs.length<=4000)/\Below w.heap.size w w'
 | .error l=>e=Zj 3 l/\Below w.heap.size w w'
theorem Gw (w:B)(g cap:Nat)(ts:List Tk)(c:∀j t,ts[j]?=G t->w.cell? ⟨g,j*3,Z⟩=G (I J t.sort)/\w.cell? ⟨g,j*3+1,Z⟩=G (V t.text)/\w.cell? ⟨g,j*3+2,Z⟩=G (I J t.line))
  (y:g<w.heap.size)(h0:0<ts.length)(S:ts.length<=4000)(n:(ts.getLastD ⟨3,ByteArray.empty,0⟩).sort=3):
  N D 103 #[Y (G ⟨g,0,Z⟩) ts.length cap] w (Wn w ts):=by
 have HP:H (Pa (w.alloc (O #[Y (G ⟨g,0,Z⟩) ts.length cap,I J 0] 260)) w.heap.size g cap ts 0):=by
  refine⟨by simp[go_sem],by simp[go_sem],by simp[go_sem],fun j t hj=>?_,by omega,by simp;omega,h0,S,n⟩;rw[C _ _ _ (by exact y),C _ _ _ (by exact y),C _ _ _ (by exact y)];exact c j t hj
 obtain⟨ii,hi,k0,l0,m0⟩:=info_parts PS;have y0:=Jr;clear c n h0;go_enter Tryz.func103,Tryz.ntmps103;go_wp2_with fail
 go_loopg [4] ts.length (fun m l wr=>∃j h L,m=ts.length-j/\H (Pa wr w.heap.size g cap ts j)/\H (Below w.heap.size w wr)/\H (wr.ownsRow (w.heap.size+1) 256 1 l h.length L)/\H (YT (w.heap.size+1) wr h L)/\H (h.length<=j)/\H (Zu ts 0 []=Zu ts j h))
 case atStart=>exact⟨0,[],[],rfl,HP.o,(Below.refl _ _).alloc (F _) _,oZ _ _ _ _,trivial,z6 _,rfl⟩
 case round=>
  obtain⟨j,h,L,rfl,d,HB,HO,HV,HL,HR⟩:=hrel;have U:w.heap.size<wr.heap.size:=bL wr _ d.o.c0;by_cases h3:(Zs ts j).sort=3
  ·go_wp2_with fail
   refine(Vr wr w.heap.size g cap ts j _ d.o d.o.at).mono ?_;rintro e w1 ⟨rfl,a⟩;have HF:=Za a
   have f:H (Wn w ts (M u4) w1):=by
    show Wn w ts (M u4) w1
    unfold Wn;rw[HR.o.trans (X1 h3)];refine⟨⟨u4,L,rfl,oS (oF HO.o a (by simp)) (by omega),?_,?_⟩,HB.o.trans (a.below (by omega) (by simp))⟩
    ·exact YT.base (by omega) (YT.fr a (by simp) HV.o)
    ·have:=HL.o;have:=d.o.lt;omega
   clear a;simp only[SY,h3];clear h3 U;go_wp2;go_ret;exact f.o
  ·have z0:(((Zs ts j).sort:Int) !=3)=true:=by simp;omega
   have H3:=Za h3;clear h3;go_wp2_with fail;refine(Vr wr w.heap.size g cap ts j _ d.o d.o.at).mono ?_;rintro e w1 ⟨rfl,a⟩;have z:=Za (d.o.fr a (by simp));have A:=Za (HB.o.trans (a.below (by omega) (by simp)));have W:=Za (oF HO.o a (by simp));have X:=Za (YT.fr a (by simp) HV.o);have a0:w.heap.size<w1.heap.size:=nL U a.size;clear a d HB HO HV;simp only[SY];go_wp2_with fail;refine(Gv _ w.heap.size g cap ts j z.o).mono ?_;intro e w2 E
   cases P:Z5 ts j with
   |error l=>
    obtain⟨he,a⟩:=(Zo.err P).1 E;unfold Zj at he;subst he
    have f:Wn w ts (Zj 3 l) w2:=by
     unfold Wn;rw[HR.o.trans (Y2 H3.o P)];exact⟨rfl,A.o.trans (a.below (by omega) (fun k i=>by omega))⟩
    exact⟨rfl,f⟩
   |ok r=>
    obtain⟨x,j2⟩:=r;obtain⟨⟨v,rfl,hx⟩,b0,a⟩:=(Zo.ok P).1 E;obtain⟨T,u,rfl⟩:=hx.iface;have HX:H (RE (w.heap.size+1) w2 x (.iface T u)):=hx.fr (Fr.refl (fun _=>False) w2) (by simp) (by omega);have d0:=Za b0;have e0:=Za (A.o.trans (a.below (by omega) (fun k i=>by omega)));have p:=Za (oF W.o a (fun k i=>by omega));have f0:=Za (YT.fr a (fun k i=>by omega) X.o);have g0:w.heap.size<w2.heap.size:=nL a0 a.size;have HM:=Za P;have A0:=Vc P;have w0:=HL.o;have hj:=z.o.lt;clear P E b0 a hx z A W X a0
    go_wp2_with (at_builtin;refine wpList_append_lies _ rfl (.tmp 12) (.tmp 15) 191 rfl (w.heap.size+1) 256 ii _ 1 16 Tryz.underlying191 hi k0 l0 m0 rfl (by decide) u4 h.length L rfl ?h1 ⟨w2.heap.size,0,Z⟩ 1 1 [.iface T u] rfl rfl ?h2 ?h3 (by decide) ?h4 ?h5 ?h6 _ rfl ?h7)
    case h1=>exact p.o.alloc _
    case h2=>exact World.news_of_block (aN w2 _)
    case h3=>simp[z2]
    case h4=>unfold maxLen;omega
    case h5=>omega
    case h6=>simp;omega
    case h7=>
     intro g2 x0 w3 s b _ _;have K:F0 w2 (w2.alloc (O #[.iface T u] 256)):=(Fr.refl _ _).alloc _
     have c:∀k,u4.ownBlock=G k->w.heap.size+1<=k:=fun k i=>(p.o.lt k i).1
     have n0:=Za s;have o0:=Za (YT.snoc ((HX.o.fr K (by simp) (F _)).grown (p.o.alloc _) b) (YT.grown (p.o.alloc _) b (YT.fr K (by simp) f0.o)));have q:Fr (fun k=>w.heap.size+1<=k) w2 w3:=(((Fr.refl _ _).alloc _).grown b (fun k i=>R (c k i)));have p0:=Za (d0.o.fr q (fun k i=>by omega));have i0:=Za (e0.o.trans (q.below (by omega) (fun k i=>by omega)));have B0:w.heap.size<w3.heap.size:=nL g0 q.size;clear K c s b q p f0 d0 e0 HX g0;go_wp2_with fail;refine(VQ _ w.heap.size g cap ts j2 WK p0.o).mono ?_;intro e w4 E
     cases Q:ZG ts j2 WK with
     |error l=>
      obtain⟨he,a⟩:=(Zo.err Q).1 E;unfold Zj at he;subst he
      have f:Wn w ts (Zj 3 l) w4:=by
       unfold Wn;rw[HR.o.trans (Xx H3.o HM.o Q)];exact⟨rfl,i0.o.trans (a.below (by omega) (fun k i=>by omega))⟩
      exact⟨rfl,f⟩
     |ok r=>
      obtain⟨u0,j4⟩:=r;obtain⟨⟨v,rfl,rfl⟩,j0,a⟩:=(Zo.ok Q).1 E;have q0:=Za j0;have r0:=Za (i0.o.trans (a.below (by omega) (fun k i=>by omega)));have s0:=Za (oF n0.o a (fun k i=>by omega));have t0:=Za (YT.fr a (fun k i=>by omega) o0.o);have v0:=Za (HR.o.trans (Wx H3.o HM.o Q));have C0:=YB Q;clear Q E j0 a;go_wp2;go_roundg (ts.length-j4)
      case measure=>omega
      case rel=>
       refine⟨j4,h++[x],L++[.iface T u],rfl,q0,r0,?_,t0,?_,v0⟩
       ·show World.ownsRow _ _ _ _ _ _ _
        rw[lA];exact s0.o
       ·show _<=_
        simp;omega
def Yt (l:List UInt8):Nat:=l.foldl (fun n c=>n*10+(c.toNat-48)) 0
theorem UA (l:List UInt8)(c:UInt8):Yt (l++[c])=Yt l*10+(c.toNat-48):=by simp[Yt]
def Dg (t:ByteArray):Prop:=t.size<=9/\∀k,k<t.size->48<=Zv t k/\Zv t k<=57
theorem El (s:ByteArray)(a:Dg s):∀k,k<=s.size->Yt (s.data.toList.take k)+1<=10^k:=by
 intro k
 induction k with
 |zero=>intro _;simp[Yt]
 |succ k b=>
  intro f;have g:=b (by omega);have c:=(a.2 k (by omega)).2;have d:=(a.2 k (by omega)).1;rw[A (by simp;omega),UA];have e:Zv s k=((s.data.toList[k]'(by simp;omega)).toNat:Int):=PH s k (by omega);rw[e]at c d;rw[Nat.pow_succ];omega
theorem T0 (s:ByteArray)(a:Dg s)(k:Nat)(b:k<=s.size):Yt (s.data.toList.take k)+1<=1000000000:=by
 have c:=El s a k b;have d:10^k<=10^9:=Nat.pow_le_pow_right (by decide) (by have:=a.1;omega);exact Nat.le_trans c d
theorem PT (s:ByteArray)(a:Dg s)(k:Nat)(b:k<s.size):(Yt (s.data.toList.take (k+1)):Int)=(Yt (s.data.toList.take k):Int)*10+(Zv s k-48):=by
 rw[A (by simp;omega),UA];have c:Zv s k=((s.data.toList[k]'(by simp;omega)).toNat:Int):=PH s k (by omega);have d:=(a.2 k b).1;rw[c]at d ⊢;omega
theorem SE (w:B)(e:TypeId)(s:ByteArray):F0 w (Lib.bytesWorld w e s):=
 ⟨by unfold Lib.bytesWorld z0;split<;>rfl,by unfold Lib.bytesWorld z0;split<;>rfl,by unfold Lib.bytesWorld z0;split<;>rfl,by rw[Lib.bytesWorld_size];omega,fun k a _=>Lib.bytesWorld_at_old w e s k a⟩
theorem Si (t:Tk)(w:B)(h:Dg t.text):
  N D 313 #[SY t] w fun e w'=>e=M (I J (Yt t.text.data.toList))/\F0 w w':=by
 have d:=Za h
 have f:=fun w=>Lib.run_convert_string_bytes (P:=D) w 9 50 5 t.text Tryz.underlying9 Tryz.underlying50 Tryz.underlying5
 clear h;unfold SY;go_enter Tryz.func313,Tryz.ntmps313;go_wp2_with fail;have l:H (Fr _ w (Lib.bytesWorld (w.alloc (O #[I J t.sort,V t.text,I J t.line] 263)) 5 t.text)):=((Fr.refl _ _).alloc _).trans (SE _ _ _)
 have a:∀j,j<t.text.size->(Lib.bytesWorld (w.alloc (O #[I J t.sort,V t.text,I J t.line] 263)) 5 t.text).cell? ⟨w.heap.size+1,j,Z⟩=G (I .u8 (Zv t.text j)):=fun j m=>by
  have:=Lib.bytesWorld_cell (w.alloc (O #[I J t.sort,V t.text,I J t.line] 263)) 5 t.text j m
  simpa[Zv]using this
 have p:=Za a;clear a f;have q:t.text.size<=9:=d.o.1;generalize Lib.bytesWorld (w.alloc (O #[I J t.sort,V t.text,I J t.line] 263)) 5 t.text=W at*;generalize grownCap _ _ _ _=cap at*
 go_loop [3,5,10] (fun n _ i=>∃k:Nat,k<=t.text.size/\i=I J k/\n=I J (Yt (t.text.data.toList.take k))) (fun _ _ i=>t.text.size-(intOf i).toNat)
 case atStart=>exact⟨0,z6 _,rfl,rfl⟩
 case round=>
  obtain⟨k,r,rfl,rfl⟩:=hrel;have v:=T0 t.text d.o k r;by_cases b:k<t.text.size
  ·have x:=p.o k b
   have g:H _:=PT t.text d.o k b;have s:=d.o.2 k b
   have u:(k:Int)<(t.text.size:Int):=by omega
   generalize Yt (t.text.data.toList.take k)=n at*;generalize Zv t.text k=c at*;go_wp2;refine⟨⟨k+1,by omega,by go_num,?_⟩,by simp[intOf];omega⟩;rw[g.o]
  ·go_wp2
   go_ret;exact⟨ZH (by rw[L (by simp;omega)]),l.o⟩
def Ze (t:Tk):Nat:=Yt t.text.data.toList
theorem QN (t:Tk)(a:Dg t.text):Ze t<=999999999:=by
 have:=T0 t.text a t.text.size (F _);rw[L (by simp)]at this;unfold Ze;omega
theorem Sj (t:Tk)(w:B)(a:Nat)(b:Int)(d:Dg t.text)(f:Ze t<=a)(g:b=a):
  N D 316 #[SY t,I J b] w fun e w'=>e=M (I J (Ze t))/\F0 w w':=by
 subst g
 have h:H (∀W,N D 313 #[z1 #[I J t.sort,V t.text,I J t.line]] W fun e w'=>e=M (I J (Ze t))/\F0 W w'):=fun W=>Si t W d
 have i:¬(a:Int)<(Ze t:Int):=by omega
 clear f;generalize Ze t=n at*;unfold SY;go_enter Tryz.func316,Tryz.ntmps316
 go_wp2_with (go_at_call 313;refine(h.o _).mono ?_;rintro e j ⟨rfl,c⟩;have k:H (F0 w j):=((Fr.refl _ _).alloc _).trans c;clear c)
 go_ret;exact⟨rfl,k.o⟩
theorem RF (t:Tk)(w:B)(a:Nat)(d:Int)(h:Dg t.text)(i:a<Ze t)(f:d=a):
  N D 316 #[SY t,I J d] w fun e w'=>e=Zj 5 t.line/\F0 w w':=by
 subst f
 have j:H (∀W,N D 313 #[z1 #[I J t.sort,V t.text,I J t.line]] W fun e w'=>e=M (I J (Ze t))/\F0 W w'):=fun W=>Si t W h
 have k:(a:Int)<(Ze t:Int):=by omega
 clear i;generalize Ze t=n at*;unfold SY;go_enter Tryz.func316,Tryz.ntmps316;go_wp2_with fail;refine(j.o _).mono ?_;rintro e m ⟨rfl,b⟩;have l:=Za (((Fr.refl _ _).alloc _).trans b);have c:=b.whole (aN w _) (by simp);have p:=bC c 0 _ rfl;have f:=bC c 1 _ rfl;have q:=bC c 2 _ rfl;clear c b;go_wp2_with fail;refine(YC t 5 _ _ (by rfl)).mono ?_;rintro e r ⟨g,b⟩;unfold Zj at g;subst g;exact⟨rfl,rfl,l.o.trans b⟩
theorem Gx (a b:Tk)(w:B)(c:a.text.size<=6)(d:b.text.size=a.text.size):
  N D 317 #[Uy (a,b)] w fun e w'=>e=M (I J a.text.size)/\F0 w w':=by
 have f:¬(6:Int)<(a.text.size:Int):=by omega
 have g:((b.text.size:Int) !=(a.text.size:Int))=false:=by simp;omega
 clear c d;unfold Uy;go_enter Tryz.func317,Tryz.ntmps317;go_wp2;go_ret;exact⟨rfl,(Fr.refl _ _).alloc _⟩
theorem LH (a b:Tk)(w:B)(d:6<a.text.size):
  N D 317 #[Uy (a,b)] w fun e w'=>e=Zj 5 a.line/\F0 w w':=by
 have g:(6:Int)<(a.text.size:Int):=by omega
 clear d;unfold Uy;go_enter Tryz.func317,Tryz.ntmps317;go_wp2_with fail;refine(YC a 5 _ _ (by rfl)).mono ?_;rintro e h ⟨c,f⟩;unfold Zj at c;subst c;exact⟨rfl,rfl,((Fr.refl _ _).alloc _).trans f⟩
theorem MK (a b:Tk)(w:B)(d:a.text.size<=6)(f:b.text.size≠a.text.size):
  N D 317 #[Uy (a,b)] w fun e w'=>e=Zj 5 b.line/\F0 w w':=by
 have h:¬(6:Int)<(a.text.size:Int):=by omega
 have i:((b.text.size:Int) !=(a.text.size:Int))=true:=by simp;omega
 clear d f;unfold Uy;go_enter Tryz.func317,Tryz.ntmps317;go_wp2_with fail;refine(YC b 5 _ _ (by rfl)).mono ?_;rintro e j ⟨c,g⟩;unfold Zj at c;subst c;exact⟨rfl,rfl,((Fr.refl _ _).alloc _).trans g⟩
def RG (x y:Nat):E:=z1 #[I J x,I J y]
def Vu (x y a:Nat)(e:Ending):Prop:=if x<=y then e=M (RG x y)else e=Zj 5 a
theorem Vu.ok {x y a:Nat}{e:Ending}(h:x<=y):Vu x y a e↔e=M (RG x y):=by unfold Vu;rw[if_pos h]
theorem Vu.bad {x y a:Nat}{e:Ending}(h:¬x<=y):Vu x y a e↔e=Zj 5 a:=by unfold Vu;rw[if_neg h]
theorem LI (a b:Tk)(w:B)(ha:Dg a.text)(hb:Dg b.text):
  N D 320 #[Uy (a,b)] w fun e w'=>Vu (Ze a) (Ze b) b.line e/\F0 w w':=by
 have HA:H (∀W,N D 313 #[z1 #[I J a.sort,V a.text,I J a.line]] W fun e w'=>e=M (I J (Ze a))/\F0 W w'):=fun W=>Si a W ha
 have Q:H (∀W,N D 313 #[z1 #[I J b.sort,V b.text,I J b.line]] W fun e w'=>e=M (I J (Ze b))/\F0 W w'):=fun W=>Si b W hb
 clear ha hb;generalize Ze a=x at*;generalize Ze b=y at*;unfold Uy;go_enter Tryz.func320,Tryz.ntmps320;go_wp2_with fail;have T:H (F0 w ((w.alloc (O #[I J a.sort,V a.text,I J a.line,I J b.sort,V b.text,I J b.line] 293)).alloc (O #[I J 0,I J 0] 118))):=((Fr.refl _ _).alloc _).alloc _;have c:H (((w.alloc (O #[I J a.sort,V a.text,I J a.line,I J b.sort,V b.text,I J b.line] 293)).alloc (O #[I J 0,I J 0] 118)).heap[w.heap.size]?=_):=((Fr.refl (fun _=>False) _).alloc _).whole (aN w _) (by simp);have U:H (((w.alloc (O #[I J a.sort,V a.text,I J a.line,I J b.sort,V b.text,I J b.line] 293)).alloc (O #[I J 0,I J 0] 118)).heap[w.heap.size+1]?=_):=Vt w _ _;generalize(w.alloc (O #[I J a.sort,V a.text,I J a.line,I J b.sort,V b.text,I J b.line] 293)).alloc (O #[I J 0,I J 0] 118)=t at*
 go_cut [3] (fun s wc=>∃X,s=z4 (G ⟨X,0,Z⟩)/\H (wc.heap[X]?=G (O #[I J x,I J y] 118))/\H (F0 t wc))
 case first=>
  have b0:=bC c.o 0 _ rfl;have b1:=bC c.o 1 _ rfl;have b2:=bC c.o 2 _ rfl;have b3:=bC c.o 3 _ rfl;have b4:=bC c.o 4 _ rfl;have b5:=bC c.o 5 _ rfl;refine wp_region_held_drew (S:=fun w'=>F0 t w') (by kernel_rfl) (Fr.refl _ _).drew (fun f=>?_);generalize t.drew=Y at*;clear b0 b1 b2 b3 b4 b5;refine Uq 0 (v:=?v0) ?y0 f ?r0
  case y0=>intro w' h;have g0:=bC (h.whole c.o (by simp)) 0 _ rfl;have g1:=bC (h.whole c.o (by simp)) 1 _ rfl;have g2:=bC (h.whole c.o (by simp)) 2 _ rfl;have g3:=bC (h.whole c.o (by simp)) 3 _ rfl;have g4:=bC (h.whole c.o (by simp)) 4 _ rfl;have g5:=bC (h.whole c.o (by simp)) 5 _ rfl;clear h;go_simp;with_reducible rfl
  go_frame;refine Uq 1 (v:=?v1) ?y1 f ?r1
  case y1=>intro w' h;have g0:=bC (h.whole c.o (by simp)) 0 _ rfl;have g1:=bC (h.whole c.o (by simp)) 1 _ rfl;have g2:=bC (h.whole c.o (by simp)) 2 _ rfl;have g3:=bC (h.whole c.o (by simp)) 3 _ rfl;have g4:=bC (h.whole c.o (by simp)) 4 _ rfl;have g5:=bC (h.whole c.o (by simp)) 5 _ rfl;clear h;go_simp;with_reducible rfl
  go_frame;refine Uq 3 (v:=?v3) ?y3 f ?r3
  case y3=>intro w' h;have g0:=bC (h.whole c.o (by simp)) 0 _ rfl;have g1:=bC (h.whole c.o (by simp)) 1 _ rfl;have g2:=bC (h.whole c.o (by simp)) 2 _ rfl;have g3:=bC (h.whole c.o (by simp)) 3 _ rfl;have g4:=bC (h.whole c.o (by simp)) 4 _ rfl;have g5:=bC (h.whole c.o (by simp)) 5 _ rfl;clear h;go_simp;with_reducible rfl
  go_frame;refine Uq 4 (v:=?v4) ?y4 f ?r4
  case y4=>intro w' h;have g0:=bC (h.whole c.o (by simp)) 0 _ rfl;have g1:=bC (h.whole c.o (by simp)) 1 _ rfl;have g2:=bC (h.whole c.o (by simp)) 2 _ rfl;have g3:=bC (h.whole c.o (by simp)) 3 _ rfl;have g4:=bC (h.whole c.o (by simp)) 4 _ rfl;have g5:=bC (h.whole c.o (by simp)) 5 _ rfl;clear h;go_simp;with_reducible rfl
  go_frame;refine wpAnyH_ready (rs:=[2,7]) (by kernel_rfl) (by simp) ?_;refine Zb rfl (fun K g=>?_) ?_
  ·rw[if_pos (by rfl)]
   go_simp;refine(HA.o _).mono ?_;rintro e w1 ⟨rfl,l⟩;have d:=f.trans l;refine g.out _ _ d (fun f=>?_);clear g K d l
   try go_frame
   refine wpAnyH_ready (rs:=[5,7]) (by kernel_rfl) (by simp) ?_;refine Zb rfl (fun K g=>?_) ?_
   ·rw[if_pos (by rfl)]
    go_simp;refine(Q.o _).mono ?_;rintro e w2 ⟨rfl,l⟩;have d:=f.trans l;refine g.out _ _ d (fun f=>?_);clear g K d l
    try go_frame
    refine Zf 6 f ?_;go_frame;refine SX 7 (fun K g=>?_);go_simp;obtain⟨X,n⟩:∃X,X=w2.heap.size:=⟨_,rfl⟩
    have u:t.heap.size<=X:=by rw[n];exact f.size
    have j:H ((w2.alloc (O #[I J 0,I J 0] 118)).heap[X]?=G (O #[I J 0,I J 0] 118)):=by rw[n];exact aN _ _
    have d:=f.alloc (O #[I J 0,I J 0] 118);rw[<-n];refine g.out _ _ d (fun f=>?_);clear g K d
    try go_frame
    clear n;generalize z:w2.alloc (O #[I J 0,I J 0] 118)=q3 at*;clear z;have s0:=bC j.o 0 _ rfl;have s1:=bC j.o 1 _ rfl;have sf:=bF j.o;refine SX 8 (fun K g=>?_);go_simp;have A:Fr (fun k=>k=X) q3 ((q3.setCell ⟨X,0,Z⟩ (I J x)).setCell ⟨X,1,Z⟩ (I J y)):=((Fr.refl (fun k=>k=X) _).setCell (p:=⟨X,0,Z⟩) (R rfl) _).setCell (p:=⟨X,1,Z⟩) (R rfl) _;have m:=f.monoNew A (fun k F=>z5 (by omega));have i:H (((q3.setCell ⟨X,0,Z⟩ (I J x)).setCell ⟨X,1,Z⟩ (I J y)).heap[X]?=G (O #[I J x,I J y] 118)):=Yl (Yl j.o 0 _) 1 _;refine g.out _ _ m (fun f=>?_);clear g K
    try go_frame
    refine wpAnyH_done (by kernel_rfl) ?_ _;go_wp2_with fail;go_meet
    case rel=>exact⟨X,rfl,i.o,m⟩
   refine Zb rfl (fun K g=>?_) AllReadyH.nil;rw[if_pos (by rfl)];go_simp;obtain⟨X,n⟩:∃X,X=w1.heap.size:=⟨_,rfl⟩
   have u:t.heap.size<=X:=by rw[n];exact f.size
   have j:H ((w1.alloc (O #[I J 0,I J 0] 118)).heap[X]?=G (O #[I J 0,I J 0] 118)):=by rw[n];exact aN _ _
   have d:=f.alloc (O #[I J 0,I J 0] 118);rw[<-n];refine g.out _ _ d (fun f=>?_);clear g K d
   try go_frame
   clear n;generalize z:w1.alloc (O #[I J 0,I J 0] 118)=q5 at*;clear z;refine SX 5 (fun K g=>?_);go_simp;refine(Q.o _).mono ?_;rintro e L ⟨rfl,l⟩;have d:=f.trans l;have i:H (L.heap[X]?=G (O #[I J 0,I J 0] 118)):=l.whole j.o (by simp);clear j;have j:=i;clear i;refine g.out _ _ d (fun f=>?_);clear g K d l
   try go_frame
   refine Zf 6 f ?_;go_frame;have s0:=bC j.o 0 _ rfl;have s1:=bC j.o 1 _ rfl;have sf:=bF j.o;refine SX 8 (fun K g=>?_);go_simp;have A:Fr (fun k=>k=X) L ((L.setCell ⟨X,0,Z⟩ (I J x)).setCell ⟨X,1,Z⟩ (I J y)):=((Fr.refl (fun k=>k=X) _).setCell (p:=⟨X,0,Z⟩) (R rfl) _).setCell (p:=⟨X,1,Z⟩) (R rfl) _;have m:=f.monoNew A (fun k F=>z5 (by omega));have i:H (((L.setCell ⟨X,0,Z⟩ (I J x)).setCell ⟨X,1,Z⟩ (I J y)).heap[X]?=G (O #[I J x,I J y] 118)):=Yl (Yl j.o 0 _) 1 _;refine g.out _ _ m (fun f=>?_);clear g K
   try go_frame
   refine wpAnyH_done (by kernel_rfl) ?_ _;go_wp2_with fail;go_meet
   case rel=>exact⟨X,rfl,i.o,m⟩
  refine Zb rfl (fun K g=>?_) AllReadyH.nil;rw[if_pos (by rfl)];go_simp;obtain⟨X,n⟩:∃X,X=Y.heap.size:=⟨_,rfl⟩
  have u:t.heap.size<=X:=by rw[n];exact f.size
  have j:H ((Y.alloc (O #[I J 0,I J 0] 118)).heap[X]?=G (O #[I J 0,I J 0] 118)):=by rw[n];exact aN _ _
  have d:=f.alloc (O #[I J 0,I J 0] 118);rw[<-n];refine g.out _ _ d (fun f=>?_);clear g K d
  try go_frame
  clear n;generalize z:Y.alloc (O #[I J 0,I J 0] 118)=q8 at*;clear z;refine SX 2 (fun K g=>?_);go_simp;refine(HA.o _).mono ?_;rintro e w9 ⟨rfl,l⟩;have d:=f.trans l;have i:H (w9.heap[X]?=G (O #[I J 0,I J 0] 118)):=l.whole j.o (by simp);clear j;have j:=i;clear i;refine g.out _ _ d (fun f=>?_);clear g K d l
  try go_frame
  refine SX 5 (fun K g=>?_);go_simp;refine(Q.o _).mono ?_;rintro e q ⟨rfl,l⟩;have d:=f.trans l;have i:H (q.heap[X]?=G (O #[I J 0,I J 0] 118)):=l.whole j.o (by simp);clear j;have j:=i;clear i;refine g.out _ _ d (fun f=>?_);clear g K d l
  try go_frame
  refine Zf 6 f ?_;go_frame;have s0:=bC j.o 0 _ rfl;have s1:=bC j.o 1 _ rfl;have sf:=bF j.o;refine SX 8 (fun K g=>?_);go_simp;have A:Fr (fun k=>k=X) q ((q.setCell ⟨X,0,Z⟩ (I J x)).setCell ⟨X,1,Z⟩ (I J y)):=((Fr.refl (fun k=>k=X) _).setCell (p:=⟨X,0,Z⟩) (R rfl) _).setCell (p:=⟨X,1,Z⟩) (R rfl) _;have m:=f.monoNew A (fun k F=>z5 (by omega));have i:H (((q.setCell ⟨X,0,Z⟩ (I J x)).setCell ⟨X,1,Z⟩ (I J y)).heap[X]?=G (O #[I J x,I J y] 118)):=Yl (Yl j.o 0 _) 1 _;refine g.out _ _ m (fun f=>?_);clear g K
  try go_frame
  refine wpAnyH_done (by kernel_rfl) ?_ _;go_wp2_with fail;go_meet
  case rel=>exact⟨X,rfl,i.o,m⟩
 case rest=>
  obtain⟨X,rfl,j,HF⟩:=hcut;have x0:=bC j.o 0 _ rfl;have x1:=bC j.o 1 _ rfl;have r:=HF.o.whole c.o (by simp);have P:=HF.o.whole U.o (by simp);have b3:=bC r 3 _ rfl;have b4:=bC r 4 _ rfl;have b5:=bC r 5 _ rfl;have r0:=bC P 0 _ rfl;have r1:=bC P 1 _ rfl;have rf:=bF P;have C:H (F0 w wc):=T.o.trans HF.o;clear r P;by_cases E:x<=y
  ·have hn:¬(y:Int)<(x:Int):=by omega
   go_wp2;have hW:Fr (fun k=>w.heap.size<=k) wc ((wc.setCell ⟨w.heap.size+1,0,Z⟩ (I J x)).setCell ⟨w.heap.size+1,1,Z⟩ (I J y)):=((Fr.refl (fun k=>w.heap.size<=k) wc).setCell (p:=⟨w.heap.size+1,0,Z⟩) (R (z7 _)) _).setCell (p:=⟨w.heap.size+1,1,Z⟩) (R (z7 _)) _;exact bodyPost_ret (v:=RG x y) (by simp[results,Tryz.results320,go_sem,RG, *]) rfl ⟨(Vu.ok E).2 rfl,C.o.monoNew hW (fun k F=>z5 F)⟩
  ·have hn:(y:Int)<(x:Int):=by omega
   go_wp2_with fail;refine(YC b 5 _ _ (by rfl)).mono ?_;rintro e w3 ⟨he,l⟩;unfold Zj at he;subst he;exact⟨rfl,(Vu.bad E).2 rfl,C.o.trans l⟩
