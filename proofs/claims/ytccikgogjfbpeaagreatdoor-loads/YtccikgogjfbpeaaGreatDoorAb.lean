import Derived.Test.YtccikgogjfbpeaaGreatDoorProg
import Derived.WalkKit
import Derived.WalkSpells
import Derived.WalkLawsBesides
import Derived.Test.YtccikgogjfbpeaaGreatDoorAa
import Derived.Deep.QuietTactic
import Derived.BigQuiet
import Derived.Deep.RegionHeld3
import Derived.Deep.AppendLies
import Derived.Maps.RangeWalk
import Derived.Deep.RegionWith
import Derived.Lib.Strings
import Derived.Deep.LoopGhost
open Option renaming none->I,some->J
open Go.Value renaming int->Y,string->U,pointer->D,bool->M,slice->z1,oneCell'->z6,agg->y9
open Go.IntKind renaming i64->Z,i64->y3
open Go.Proofs.Tryz renaming prog->O
open Go.Ending renaming returned->H
open Go renaming Calls->G,World->N,Value->z4
open Nat renaming le_refl->R,lt_or_ge->y0,mul_div_cancel_left->y2,pow_pos->y4,le_trans->y7,mul_comm->y8
open Go.RowKit renaming Hid->L
open Or renaming inl->X,inr->y1
open Go.Obj renaming cells->A
open Int renaming natCast_add->C
open _root_.ByteArray renaming empty->z0
open Go.World renaming news_of_block->z2,cell?_alloc_some->z3
open List renaming mem_cons_of_mem->z5,mem_cons_self->z7,getD_eq_getElem?_getD->z9,getElem?_eq_none->y5,mem_cons->y6
open Go.AllReadyH renaming nil->z8,cons->x0
namespace Go.Proofs.YtccikgogjfbpeaaGreatDoor
set_option maxRecDepth 30000
set_option maxHeartbeats 8000000
def ZJ (c:Int):Bool:=decide (97<=c/\c<=122)
def iD (c:Int):Bool:=decide (48<=c/\c<=57)
def Zq (c:Int):Bool:=ZJ c||iD c
def ZV (c:Int):Bool:=!decide (c=10)
def ZC (s:ByteArray)(k:Nat):Int:=((s.data.toList.getD k 0).toNat:Int)
theorem Nc (s k h):ZC s k=(s[k].toNat:Int):=by
 unfold ZC;rw[gD,gE (by simpa using h)];rfl
def X0 (p:Int->Bool):List UInt8->Nat
 |[]=>0
 |c::r=>if p (c.toNat:Int)then X0 p r+1 else 0
theorem DV (p l):X0 p l<=l.length:=by
 induction l with
 |nil=>simp[X0]
 |cons c r a=>simp only[X0];split<;>simp<;>omega
theorem Ne (p)(s:ByteArray)(k)(h:s.size<=k):X0 p (s.data.toList.drop k)=0:=by
 rw[dL (by simpa using h)];rfl
theorem Te (p s k)(h:k<s.size):
  X0 p (s.data.toList.drop k)=if p (ZC s k)then X0 p (s.data.toList.drop (k+1))+1 else 0:=by
 rw[dC (by simpa using h)];rw[Nc s k h];simp only[X0];rfl
def ZM (p:Int->Bool)(s:ByteArray)(k:Nat):Nat:=X0 p (s.data.toList.drop k)
theorem We (p s k)(h:k<=s.size):k+ZM p s k<=s.size:=by
 have:=DV p (s.data.toList.drop k);simp at this;unfold ZM;omega
theorem XH (p s k)(h:k<s.size)(a:p (ZC s k)=true):1<=ZM p s k:=by
 unfold ZM;rw[Te p s k h,if_pos a];omega
structure Tk where
 sort:Nat
 text:ByteArray
 line:Nat
def yC:List (List UInt8):=
 [[114,111,117,116,101],[114,117,108,101],[98,105,110],[109,99,99],[97,109,111,117,110,116],[99,117,114],[100,101,99,108,105,110,101],[99,104,101,97,112,101,115,116]]
def Y7 (t:ByteArray):Bool:=yC.contains t.toList
inductive Lx where
 |skip (at' line:Nat)
 |tok (t:Tk) (at':Nat)
 |bad
def P5 (s:ByteArray)(k:Nat)(a b:Int):Bool:=decide (k+2<=s.size)&&decide (ZC s k=a)&&decide (ZC s (k+1)=b)
def G0 (t m:ByteArray):Bool:=decide (m.size<=t.size)&&((t.extract 0 m.size).toList==m.toList)
def Zs (s:ByteArray)(k a:Nat):Lx:=
 if ZC s k=10 then .skip (k+1) (a+1)
 else if ZC s k=32\/ZC s k=9 then .skip (k+1) a
 else if ZC s k=35 then .skip (k+ZM ZV s k) a
 else if ZJ (ZC s k)then
  if Y7 (s.extract k (k+ZM Zq s k))then .tok ⟨2,s.extract k (k+ZM Zq s k),a⟩ (k+ZM Zq s k)
  else if 8<ZM Zq s k then .bad
  else .tok ⟨0,s.extract k (k+ZM Zq s k),a⟩ (k+ZM Zq s k)
 else if iD (ZC s k)then
  if 9<ZM iD s k then .bad
  else .tok ⟨1,s.extract k (k+ZM iD s k),a⟩ (k+ZM iD s k)
 else if ZC s k=59\/ZC s k=58\/ZC s k=44 then .tok ⟨2,s.extract k (k+1),a⟩ (k+1)
 else if P5 s k 46 46||P5 s k 45 62 then .tok ⟨2,s.extract k (k+2),a⟩ (k+2)
 else .bad
theorem X1 {s k a k' l'}(h:k<s.size)(b:Zs s k a=.skip k' l'):k<k'/\k'<=s.size/\a<=l'/\l'<=a+1:=by
 unfold Zs at b
 split at b
 ·injection b;omega
 split at b
 ·injection b;omega
 split at b
 ·rename_i c
  have:=We ZV s k (by omega);have:=XH ZV s k h (by simp[ZV,c]);injection b;omega
 repeat' (split at b)
 all_goals contradiction
theorem K7 {s k a b}(h:P5 s k a b=true):k+2<=s.size:=by
 simp[P5]at h;exact h.1.1
theorem WD {s k b k' t}(h:k<s.size)(a:Zs s k b=.tok t k'):k<k'/\k'<=s.size:=by
 unfold Zs at a
 split at a
 ·contradiction
 split at a
 ·contradiction
 split at a
 ·contradiction
 split at a
 ·rename_i d
  have:=We Zq s k (by omega);have:=XH Zq s k h (by simp[Zq,d])
  split at a
  ·injection a;omega
  split at a
  ·contradiction
  injection a;omega
 split at a
 ·rename_i e
  have:=We iD s k (by omega);have:=XH iD s k h e
  split at a
  ·contradiction
  injection a;omega
 split at a
 ·injection a;omega
 split at a
 ·rename_i c
  simp only[Bool.or_eq_true]at c
  have:k+2<=s.size:=by rcases c with c|c<;>exact K7 c
  injection a;omega
 contradiction
def ZK (s:ByteArray)(k a:Nat)(b:List Tk):Except Nat (List Tk):=
 if h:k<s.size then
  match _hs:Zs s k a with
  | .skip k' l'=>ZK s k' l' b
  | .tok t k'=>ZK s k' a (b++[t])
  | .bad=>.error a
 else .ok (b++[⟨3,z0,a⟩])
 termination_by s.size-k
 decreasing_by
  ·have:=X1 h _hs;omega
  ·have:=WD h _hs;omega
open Go.RowKit
theorem Tf (c:Int)(w):
  G O 150 #[Y .u8 c] w fun e w'=>e=H (M (ZJ c))/\w'=w:=by
 by_cases a:97<=c
 all_goals by_cases b:c<=122
 all_goals
  go_enter Tryz.func150,Tryz.ntmps150;go_wp2;go_ret;exact⟨by simp[ZJ,a,b],rfl⟩
theorem Tg (c:Int)(w):
  G O 188 #[Y .u8 c] w fun e w'=>e=H (M (iD c))/\w'=w:=by
 by_cases a:48<=c
 all_goals by_cases b:c<=57
 all_goals
  go_enter Tryz.func188,Tryz.ntmps188;go_wp2;go_ret;exact⟨by simp[iD,a,b],rfl⟩
theorem K8 (c:Int)(w):
  G O 196 #[Y .u8 c] w fun e w'=>e=H (M (ZV c))/\w'=w:=by
 go_enter Tryz.func196,Tryz.ntmps196;go_wp2;go_ret;exact⟨by simp[ZV,bne,BEq.beq],rfl⟩
theorem Nf (c:Int)(w):
  G O 152 #[Y .u8 c] w fun e w'=>e=H (M (Zq c))/\w'=w:=by
 cases h:ZJ c
 all_goals
  go_enter Tryz.func152,Tryz.ntmps152
  go_wp2_with (first|(go_at_call 150;refine(Tf _ _).mono ?_;rintro e w' ⟨rfl,rfl⟩)|(go_at_call 188;refine(Tg _ _).mono ?_;rintro e w' ⟨rfl,rfl⟩))
  go_ret;exact⟨by simp[Zq,h],rfl⟩
theorem VH {P t}(h:P.underlying t=J .string)(s)(k:Nat)(i:Int)(hi:i=k)(a:k<s.size)(w):
  (Instr.index t (.string s) (.int .i64 i)).run P w=.ok (.int .u8 (ZC s k)) w:=by
 subst hi;rw[run_index_string w t s .i64 k h,dif_pos (by omega),Nc s k a];simp
def Dr (w w':N):Prop:=∃d,w'=w.drewN d
theorem Dr.refl (w):Dr w w:=⟨0,rfl⟩
theorem Dr.next {w w'}(h:Dr w w')(n):Dr w (w'.drewN n):=by
 obtain⟨d,rfl⟩:=h;exact⟨d+n,by rw[World.drewN_drewN]⟩
theorem Dr.trans {a b c}(h:Dr a b)(k:Dr b c):Dr a c:=by
 obtain⟨d,rfl⟩:=k;exact h.next d
theorem Dr.cell {w w'}(h:Dr w w')(a):w'.cell? a=w.cell? a:=by
 obtain⟨d,rfl⟩:=h;simp
theorem ZO {k a b}(h:a=b):Ending.returned (Y k a)=H (Y k b):=by rw[h]
theorem wH (F K)(y:∀args W,(callFunc F args).run O W=.ok (.enter F args) W)(m:L (∀c w,G O F #[Y .u8 c] w fun e w'=>e=H (M (K c))/\w'=w))(b s)(a:Nat)(w)(p:s.size<=maxLen)(q:a<=s.size)(r:w.cell? ⟨b,0,I⟩=J (U s))(t:w.cell? ⟨b,1,I⟩=J (Y Z a)):
  G O 195 #[D (J ⟨b,0,I⟩),.func (.func F) #[] #[]] w fun e w'=>e=H (Y Z (X0 K (s.data.toList.drop a)))/\Dr w w':=by
 unfold maxLen at p;go_enter Tryz.func195,Tryz.ntmps195;go_wp2
 go_loopw [5] (fun n w'=>∃k:Nat,a+k<=s.size/\n=Y Z k/\L (X0 K (s.data.toList.drop a)=k+X0 K (s.data.toList.drop (a+k)))/\Dr w w') (fun n _=>s.size-(intOf n).toNat)
 case atStart=>exact⟨0,by omega,rfl,(by show _=_;simp),Dr.refl _⟩
 obtain⟨k,z,rfl,g,f⟩:=hrel;rw[<-f.cell]at r t;have u:y3.wrap ((a:Int)+(k:Int))=(a:Int)+(k:Int):=IntWalk.i64_in _ (by omega);by_cases d:a+k<s.size
 ·have h:=Te K s (a+k) d
  have i:=Za h
  have hi:(a:Int)+(k:Int)<(s.size:Int):=by omega
  have v:=fun w=>VH (P:=O) Tryz.underlying9 s (a+k) ((a:Int)+(k:Int)) (by omega) d w
  cases j:K (ZC s (a+k))
  all_goals
   go_wp2_with fail
   go_quiet ((exact Calls.quiet_of_same (m.o _ _)))
  ·go_wp2
   go_ret;exact⟨ZO (by rw[g.o,i.o,j];simp),f.next _⟩
  go_wp2
  go_roundw
  case rel=>
   refine⟨k+1,by omega,by go_num,?_,f.next _⟩;have l:=i.o;rw[j,if_pos rfl]at l
   have x:X0 K (s.data.toList.drop a)=(k+1)+X0 K (s.data.toList.drop (a+(k+1))):=by
    rw[g.o,l,Nat.add_assoc a k 1];omega
   exact x
  simp[intOf];omega
 have A:decide ((a:Int)+k<s.size)=false:=by simp;omega
 go_wp2_with fail
 go_quiet (fail)
 go_wp2;go_ret;exact⟨ZO (by rw[g.o,Ne _ _ _ (by omega)];simp),f.next _⟩
theorem RB (t:ByteArray)(w:N):
  G O 151 #[U t] w fun e w'=>e=H (M (Y7 t))/\w'=w:=by
 go_enter Tryz.func151,Tryz.ntmps151;go_wp2
 all_goals
  go_ret;refine⟨?_,rfl⟩
  simp_all [Y7,yC]
theorem SH (t:ByteArray)(w:N):
  G O 128 #[U t] w fun e w'=>e=H (M (Y7 t))/\w'=w:=by
 go_enter Tryz.func128,Tryz.ntmps128;go_wp2
 all_goals
  go_ret;refine⟨?_,rfl⟩
  simp_all [Y7,yC]
theorem Ng (t m w)(d:t.size<=9223372036854775807)(f:m.size<=9223372036854775807):
  G O 239 #[U t,U m] w fun e w'=>e=H (M (G0 t m))/\w'=w:=by
 have b:(t.size:Int)<=9223372036854775807:=by omega
 have c:(m.size:Int)<=9223372036854775807:=by omega
 by_cases a:m.size<=t.size
 ·go_enter Tryz.func239,Tryz.ntmps239
  go_wp2;go_ret;exact⟨by simp[G0,a],rfl⟩
 go_enter Tryz.func239,Tryz.ntmps239
 go_wp2;go_ret;exact⟨by simp[G0,a],rfl⟩
theorem Lo (t m w)(a:t.size<=maxLen)(b:m.size<=maxLen):
  G O 203 #[U t,U m] w fun e w'=>e=H (M (G0 t m))/\w'=w:=by
 go_enter Tryz.func203,Tryz.ntmps203
 go_wp2_with (go_at_call 239;refine(Ng _ _ _ a b).mono ?_;rintro e w' ⟨rfl,rfl⟩)
 go_ret;exact⟨rfl,rfl⟩
theorem DW (b s m)(a:Nat)(w)(c:s.size<=maxLen)(d:m.size<=maxLen)(f:a<=s.size)(j:w.cell? ⟨b,0,I⟩=J (U s))(k:w.cell? ⟨b,1,I⟩=J (Y Z a)):
  G O 199 #[D (J ⟨b,0,I⟩),U m] w fun e w'=>e=H (M (G0 (s.extract a s.size) m))/\Dr w w':=by
 have hi:(a:Int)<=(s.size:Int):=by omega
 have g:(s.extract a s.size).size<=maxLen:=by simp;omega
 have h:=Za g;have i:=Za d;unfold maxLen at c;go_enter Tryz.func199,Tryz.ntmps199;go_wp2
 go_quiet ((go_at_call 203;exact Calls.quiet_of_same (Lo _ _ _ h.o i.o)))
 go_wp2;go_ret;exact⟨rfl,(Dr.refl w).next _⟩
def BX:List Oper->Nat->Option Oper
 |[],_=>I
 |o::_,0=>J o
 |_::r,n+1=>BX r n
theorem K9 (l i):l.toArray[i]?=BX l i:=by
 rw[List.getElem?_toArray]
 induction l generalizing i with
 |nil=>rfl
 |cons o r a=>cases i with
  |zero=>rfl
  |succ i=>simpa[BX]using a i
theorem TF {P l Q f S}(i){e v d b a w}(hi:BX l i=J e)(g:Region.noSelect l.toArray=true)(j:Region.free f l.toArray b i=true)(k:(Region.ready f l.toArray b).contains i=true)(m:∀c a w,Q (.panic c) (a.put e.dst v) w->Q (.panic c) a w)(n:Region.wanted e (yielded l.toArray a.tmps)=true)(o:∀w,S w->(execOp a.eval e).run P w=.ok (.value v) w)(p:S w)(h:wpAnyH P f l.toArray Q S d (b.setIfInBounds i true) (a.put e.dst v) w):wpAnyH P f l.toArray Q S (d+1) b a w:=
 wpAnyH_take ((K9 l i).trans hi) g j k m (X ⟨n,o⟩) p h
theorem UP {P:Program}{l:List Oper}{Q:Exit->Act->N->Prop}{f:Region.Mode}{S:N->Prop}(i:Nat){e:Oper}{v:z4}{d:Nat}{b:Array Bool}{a:Act}{w:N}(g:∀w,S w->(execOp a.eval e).run P w=.ok (.value v) w)(j:S w)
  (h:wpAnyH P f l.toArray Q S d (b.setIfInBounds i true) (a.put e.dst v) w)(hi:BX l i=J e:=by rfl)(k:Region.noSelect l.toArray=true:=by kernel_rfl)(m:Region.free f l.toArray b i=true:=by kernel_rfl)(n:(Region.ready f l.toArray b).contains i=true:=by kernel_rfl)
  (o:∀c a w,Q (.panic c) (a.put e.dst v) w->Q (.panic c) a w:=by exact fun _ _ _ h=>h)(p:Region.wanted e (yielded l.toArray a.tmps)=true:=by rfl):wpAnyH P f l.toArray Q S (d+1) b a w:=
 TF i hi k m n o p g j h
theorem Zb {P l Q d S c b a w i o rs}(f:BX l i=J o)(h:∀e:Act->N->Prop,Shut (∀a w,S w->(S w->wpAnyH P d l.toArray Q S c (b.setIfInBounds i true) a w)->e a w)->if Region.wanted o (yielded l.toArray a.tmps)=true then Oper.wp P o a w e Q else e (a.put o.dst undef) w)(g:AllReadyH P d l.toArray Q S c b a w rs):AllReadyH P d l.toArray Q S c b a w (i::rs):=
 x0 ((K9 l i).trans f) h g
theorem ZX {P l Q f S}(i){e v d b a w}(j:S w)(h:wpAnyH P f l.toArray Q S d (b.setIfInBounds i true) (a.put e.dst v) w)(hi:BX l i=J e:=by rfl)(k:Region.noSelect l.toArray=true:=by kernel_rfl)(m:Region.free f l.toArray b i=true:=by kernel_rfl)(n:(Region.ready f l.toArray b).contains i=true:=by kernel_rfl)(o:∀c a w,Q (.panic c) (a.put e.dst v) w->Q (.panic c) a w:=by exact fun _ _ _ h=>h)(g:Region.wanted e (yielded l.toArray a.tmps)=true:=by rfl)(p:∀w,S w->(execOp a.eval e).run P w=.ok (.value v) w:=by(intro w g;(try dsimp only at g);go_simp;with_reducible rfl)):wpAnyH P f l.toArray Q S (d+1) b a w:=
 TF i hi k m n o g p j h
theorem Xz (rs:List Nat){P e d Q S c b a w}(h:AllReadyH P e d Q S c b a w rs)(g:Region.ready e d b=rs:=by kernel_rfl)(f:rs≠[]:=by simp):wpAnyH P e d Q S (c+1) b a w:=wpAnyH_ready g f h
theorem Vv {P l Q d S}(i){o c b a w}(h:∀e:Act->N->Prop,Shut (∀a w,S w->(S w->wpAnyH P d l.toArray Q S c (b.setIfInBounds i true) a w)->e a w)->Oper.wp P o a w e Q)(f:BX l i=J o:=by rfl)(g:Region.ready d l.toArray b=[i]:=by kernel_rfl)(j:Region.wanted o (yielded l.toArray a.tmps)=true:=by rfl):wpAnyH P d l.toArray Q S (c+1) b a w:=
 wpAnyH_ready g (by simp) (Zb f (fun K k=>by rw[if_pos j];exact h K k) z8)
def OY (t:Tk):List z4:=[Y Z t.sort,U t.text,Y Z t.line]
def Yr (ts:List Tk):List z4:=ts.flatMap OY
theorem T4 (ts t):Yr (ts++[t])=Yr ts++OY t:=by simp[Yr]
structure Sc (w:N)(b:Nat)(s:ByteArray)(k line:Nat)(v:z4)(ts:List Tk):Prop where
 c0:w.cell? ⟨b,0,I⟩=J (U s)
 c1:w.cell? ⟨b,1,I⟩=J (Y Z k)
 c2:w.cell? ⟨b,2,I⟩=J (Y Z line)
 c3:w.cell? ⟨b,3,I⟩=J v
 fz:∀o,w.frozen? ⟨b,o,I⟩=false
 Yq:w.ownsRow (b+1) 263 3 v ts.length (Yr ts)
 few:ts.length<=k
 at':k<=s.size
 ln:line<=k+1
 sz:s.size<=3000
theorem UQ:(O.info? 263).map (fun i=>(i.zero,i.size,i.bytes))=J (J (y9 #[Y Z 0,U z0,Y Z 0]),3,32):=by kernel_rfl
theorem Ps {w h f b n v i}(Yq:w.ownsRow (b+1) 263 3 v n i)(g:b<w.heap.size)(d:Below w.heap.size w h)(a:h.grownBy f v.ownBlock):
  (∀o,f.cell? ⟨b,o,I⟩=w.cell? ⟨b,o,I⟩)/\(∀o,f.frozen? ⟨b,o,I⟩=w.frozen? ⟨b,o,I⟩)/\Below b w f:=by
 have c:∀j,j<=b->J j≠v.ownBlock:=fun j l e=>by have:=Yq.lt j e.symm;omega
 refine⟨fun o=>?_,fun o=>?_,?_⟩
 ·exact(a.cell_far ⟨b,o,I⟩ (nL g d.size) (c b (R _))).trans (d.cell (p:=⟨b,o,I⟩) g)
 ·exact(a.frozen_far ⟨b,o,I⟩ (nL g d.size) (c b (R _))).trans (d.frozen (p:=⟨b,o,I⟩) g)
 exact(d.mono (by omega)).trans ⟨a.os,a.tape,a.output,a.size,fun k m=>a.block k (nL (by omega) d.size) (c k (by omega))⟩
theorem EP {w c b s}{k a k':Nat}{V ts}(g:c.cell? ⟨b,0,I⟩=J (U s))(c1:c.cell? ⟨b,1,I⟩=J (Y Z k))(h:c.cell? ⟨b,2,I⟩=J (Y Z a))(d:∃v,c.cell? ⟨b,3,I⟩=J v)(i:∀o,c.frozen? ⟨b,o,I⟩=false)(Yq:c.ownsRow (b+1) 263 3 V ts.length (Yr ts))(e:Below b w c)(few:ts.length<=k')(f:k'<=s.size)(j:a<=k'+1)(l:s.size<=3000):
  Sc ((c.setCell ⟨b,3,I⟩ V).setCell ⟨b,1,I⟩ (Y Z k')) b s k' a V ts/\Below b w ((c.setCell ⟨b,3,I⟩ V).setCell ⟨b,1,I⟩ (Y Z k')):=by
 obtain⟨v,d⟩:=d;refine⟨⟨?_,?_,?_,?_,fun o=>by simp[i o],?_,few,f,j,l⟩,?_⟩
 ·rw[cO _ _ _ _ (by simp),cO _ _ _ _ (by simp)];exact g
 ·exact cS _ _ _ (u:=Y Z k) (by rw[cO _ _ _ _ (by simp)];exact c1)
 ·rw[cO _ _ _ _ (by simp),cO _ _ _ _ (by simp)];exact h
 ·rw[cO _ _ _ _ (by simp)];exact cS _ _ _ d
 ·exact oB (oB Yq (by simp) _) (by simp) _
 exact(e.setCell (by simp) _).setCell (by simp) _
theorem BY (b s k d v ts w)(f a m:Nat)(P:Sc w b s k d v ts)(hl:a<=m)(h1:1<=a)(hk:k+a<=s.size)(Q:m<=3000):
  G O 198 #[D (J ⟨b,0,I⟩),Y Z f,Y Z a,Y Z m] w fun e w'=>e=H (.tuple #[])/\
   (∃v',Sc w' b s (k+a) d v' (ts++[⟨f,s.extract k (k+a),d⟩]))/\Below b w w':=by
 obtain⟨y,c1,M,x,N,Yq,few,b0,ln,sz⟩:=P;have hb:=bL w _ y;have f0:y3.wrap ((k:Int)+(a:Int))=(k:Int)+(a:Int):=IntWalk.i64_in _ (by omega)
 have g0:¬(m:Int)<(a:Int):=by omega
 have h0:(k:Int)<=(k:Int)+(a:Int):=by omega
 have i0:(k:Int)+(a:Int)<=(s.size:Int):=by omega
 obtain⟨i,hi,z,B,E⟩:=info_parts UQ;go_enter Tryz.func198,Tryz.ntmps198;go_wp2;refine wp_region_held_drew (S:=fun w'=>w'.cell? ⟨b,0,I⟩=J (U s)/\w'.cell? ⟨b,1,I⟩=J (Y Z k)/\w'.cell? ⟨b,2,I⟩=J (Y Z d)) (by kernel_rfl) ?_ (fun c=>?_)
 ·simp[*]
 refine ZX 0 c ?_;go_frame;refine ZX 1 c ?_;go_frame;refine ZX 2 c ?_;go_frame;refine ZX 3 c ?_;go_frame;refine ZX 5 c ?_;go_frame;refine ZX 6 c ?_;go_frame;refine ZX 7 c ?_;go_frame;refine ZX 8 c ?_;go_frame;refine ZX 9 c ?_;go_frame;refine ZX 10 c ?_;go_frame;refine ZX 11 c ?_;go_frame;refine ZX 12 c ?_;go_frame;refine ZX 13 c ?_;go_frame;refine ZX 14 c ?_;go_frame;refine ZX 15 c ?_;go_frame;refine ZX 16 c ?_;go_frame;refine ZX 17 c ?_;go_frame;refine ZX 18 c ?_;go_frame;refine ZX 19 c ?_;go_frame;refine ZX 20 c ?_;go_frame;refine ZX 21 c ?_;go_frame;refine ZX 22 c ?_;go_frame;refine ZX 23 c ?_;go_frame;refine ZX 24 c ?_;go_frame;refine ZX 25 c ?_;go_frame;refine Xz [4,26] ?_;refine Zb rfl (fun K h=>?_) ?_
 ·rw[if_pos (by rfl)]
  go_simp;refine h.out _ _ c (fun _=>?_);clear h K
  try go_frame
  refine Vv 26 (fun K h=>?_);go_simp;refine h.out _ _ ?_ (fun c=>?_)
  ·simp[*,z3]
  clear h K
  try go_frame
  refine Xz [27] ?_;refine Zb rfl (fun K h=>?_) z8;refine step_append_lies _ rfl (.tmp 21) (.tmp 43) 193 rfl (b+1) 263 i _ 3 32 Tryz.underlying193 hi z B E rfl (by decide) v ts.length (Yr ts) rfl ?h1 ⟨w.heap.size,0,I⟩ 1 1 [Y Z f,U (s.extract k ((k:Int)+(a:Int)).toNat),Y Z d] rfl rfl ?h2 ?h3 (by decide) ?h4 ?h5 ?h6 _ rfl ?_
  case h1=>exact(Yq.alloc _).drew
  case h2=>exact z2 (aN w _)
  case h3=>simp[z6]
  case h4=>unfold maxLen;omega
  case h5=>omega
  case h6=>simp;omega
  intro g cap T l j _ _;obtain⟨n,F,p⟩:=Ps Yq hb ((Below.refl _ _).alloc (R _) _).drew j;have q:=(n 0).trans y;have r:=(n 1).trans c1;have t:=(n 2).trans M;have W:=(n 3).trans x
  have X:∀o,T.frozen? ⟨b,o,I⟩=false:=fun o=>(F o).trans (N o)
  have HO:=Za l;have HB:=Za p;clear n F j l p y c1 M x N Yq;refine h.out _ _ ⟨q,r,t⟩ (fun c=>?_);clear h K;go_frame;refine ZX 28 c ?_;go_frame;refine ZX 29 c ?_;go_frame;refine Vv 30 (fun K h=>?_);go_simp;refine h.out _ _ ?_ (fun c=>?_)
  ·refine⟨?_,?_,?_⟩
   ·rw[cO _ _ _ _ (by simp)];exact q
   ·rw[cO _ _ _ _ (by simp)];exact r
   rw[cO _ _ _ _ (by simp)];exact t
  clear h K
  try go_frame
  refine wpAnyH_done (by kernel_rfl) ?_ _;obtain⟨e0,e1,e2⟩:=c;go_wp2
  go_end0
  have et:((k:Int)+(a:Int)).toNat=k+a:=by omega
  have L:=HO.o;rw[et]at L;have u:=EP (k':=k+a) (ts:=ts++[⟨f,s.extract k (k+a),d⟩]) (V:=z1 (J ⟨g,0,I⟩) (ts.length+1) cap) q r t ⟨_,W⟩ X (by rw[T4,lA];exact L) HB.o (by simp;omega) hk (by omega) sz;rw[C]at u;exact⟨rfl,⟨_,u.1⟩,u.2⟩
 refine Zb rfl (fun K h=>?_) z8
 rw[if_pos (by rfl)];go_simp;refine h.out _ _ ?_ (fun c=>?_)
 ·simp[*,z3]
 clear h K
 try go_frame
 refine Vv 4 (fun K h=>?_)
 have a0:(w.alloc (A #[Y Z f,U (s.extract k ((k:Int)+(a:Int)).toNat),Y Z d] 263)).cell? ⟨b,3,I⟩=J v:=by rw[z3 _ _ _ (by simp[x])];exact x
 go_simp;refine h.out _ _ c (fun _=>?_);clear h K a0
 try go_frame
 refine Xz [27] ?_;refine Zb rfl (fun K h=>?_) z8;refine step_append_lies _ rfl (.tmp 21) (.tmp 43) 193 rfl (b+1) 263 i _ 3 32 Tryz.underlying193 hi z B E rfl (by decide) v ts.length (Yr ts) rfl ?h1 ⟨w.heap.size,0,I⟩ 1 1 [Y Z f,U (s.extract k ((k:Int)+(a:Int)).toNat),Y Z d] rfl rfl ?h2 ?h3 (by decide) ?h4 ?h5 ?h6 _ rfl ?_
 case h1=>exact(Yq.alloc _).drew
 case h2=>exact z2 (aN w _)
 case h3=>simp[z6]
 case h4=>unfold maxLen;omega
 case h5=>omega
 case h6=>simp;omega
 intro g cap T l j _ _;obtain⟨n,F,p⟩:=Ps Yq hb ((Below.refl _ _).alloc (R _) _).drew j;have q:=(n 0).trans y;have r:=(n 1).trans c1;have t:=(n 2).trans M;have W:=(n 3).trans x
 have X:∀o,T.frozen? ⟨b,o,I⟩=false:=fun o=>(F o).trans (N o)
 have HO:=Za l;have HB:=Za p;clear n F j l p y c1 M x N Yq;refine h.out _ _ ⟨q,r,t⟩ (fun c=>?_);clear h K;go_frame;refine ZX 28 c ?_;go_frame;refine ZX 29 c ?_;go_frame;refine Vv 30 (fun K h=>?_);go_simp;refine h.out _ _ ?_ (fun c=>?_)
 ·refine⟨?_,?_,?_⟩
  ·rw[cO _ _ _ _ (by simp)];exact q
  ·rw[cO _ _ _ _ (by simp)];exact r
  rw[cO _ _ _ _ (by simp)];exact t
 clear h K
 try go_frame
 refine wpAnyH_done (by kernel_rfl) ?_ _;obtain⟨e0,e1,e2⟩:=c;go_wp2
 go_end0
 have et:((k:Int)+(a:Int)).toNat=k+a:=by omega
 have L:=HO.o;rw[et]at L;have u:=EP (k':=k+a) (ts:=ts++[⟨f,s.extract k (k+a),d⟩]) (V:=z1 (J ⟨g,0,I⟩) (ts.length+1) cap) q r t ⟨_,W⟩ X (by rw[T4,lA];exact L) HB.o (by simp;omega) hk (by omega) sz;rw[C]at u;exact⟨rfl,⟨_,u.1⟩,u.2⟩
def Zj (a b:Nat):Ending:=.panicked [{v:=.iface 111 (y9 #[Y Z a,Y Z b]),recovered:=false}]
theorem DX (b s k c v ts w)(f d a:Nat)(g:Sc w b s k c v ts)(j:a<d):
  G O 198 #[D (J ⟨b,0,I⟩),Y Z f,Y Z d,Y Z a] w fun e w'=>e=Zj 2 c/\w'=w:=by
 obtain⟨l,c1,m,n,o,Yq,few,h,p,q⟩:=g
 have i:(a:Int)<(d:Int):=by omega
 go_enter Tryz.func198,Tryz.ntmps198;go_wp2;exact⟨rfl,rfl,rfl⟩
def EQ (s:ByteArray)(k a n:Nat):Lx:=if Y7 (s.extract k (k+n))then .tok ⟨2,s.extract k (k+n),a⟩ (k+n)else if 8<n then .bad else .tok ⟨0,s.extract k (k+n),a⟩ (k+n)
def Qx (x:Lx)(w:N)(b:Nat)(s:ByteArray)(a:Nat)(ts:List Tk)(e:Ending)(w':N):Prop:=
 match x with
 | .skip k' l'=>e=H (.tuple #[])/\(∃v',Sc w' b s k' l' v' ts)/\Below b w w'
 | .tok t k'=>e=H (.tuple #[])/\(∃v',Sc w' b s k' a v' (ts++[t]))/\Below b w w'
 | .bad=>e=Zj 2 a/\Below b w w'
section
variable {x y:Lx} {w W w':N} {b:Nat} {s:ByteArray} {k line:Nat} {v:z4} {ts:List Tk} {e:Ending}
theorem Qx.fin (h:Qx x w b s line ts e w'):e=H (.tuple #[])\/e=Zj 2 line:=by
 cases x<;>first|exact .inl h.1|exact .inr h.1
theorem Qx.pre (h:Qx x W b s line ts e w')(a:Below b w W)(c:y=x):Qx y w b s line ts e w':=by
 subst c
 cases y<;>first|exact⟨h.1,h.2.1,a.trans h.2.2⟩|exact⟨h.1,a.trans h.2⟩
theorem Sc.dr {w w' b s k a v ts}(h:Sc w b s k a v ts)(e:Dr w w'):Sc w' b s k a v ts:=by
 obtain⟨d,rfl⟩:=e;obtain⟨f,c1,g,i,j,Yq,few,c,l,m⟩:=h;exact⟨by simpa using f,by simpa using c1,by simpa using g,by simpa using i,by simpa using j,Yq,few,c,l,m⟩
theorem Dr.below {w w'}(a:Dr w w')(B):Below B w w':=by
 obtain⟨d,rfl⟩:=a;exact⟨rfl,rfl,rfl,R _,fun _ _=>rfl⟩
theorem TG (d a c:Nat)(i j l:Int)(g:Sc w b s k line v ts)(m:1<=a)(n:k+a<=s.size)(f:c<=3000)(o:i=d)(p:j=a)(q:l=c):
  G O 198 #[D (J ⟨b,0,I⟩),Y Z i,Y Z j,Y Z l] w (Qx (if c<a then .bad else .tok ⟨d,s.extract k (k+a),line⟩ (k+a)) w b s line ts):=by
 subst o p q
 split
 ·exact(DX b s k line v ts w d a c g (by omega)).mono fun e w' h=>⟨h.1,h.2▸Below.refl _ _⟩
 exact BY b s k line v ts w d a c g (by omega) m n f
theorem G1 {F K}(f:∀args W,(callFunc F args).run O W=.ok (.enter F args) W)(g:L (∀c w,G O F #[Y .u8 c] w fun e w'=>e=H (M (K c))/\w'=w))(a:Sc w b s k line v ts)(W)(d:Dr w W):
  G O 195 #[D (J ⟨b,0,I⟩),.func (.func F) #[] #[]] W fun e w'=>e=H (Y Z (ZM K s k))/\Dr W w':=
 wH F K f g b s k W (by have:=a.sz;unfold maxLen;omega) a.at' (a.dr d).c0 (a.dr d).c1
theorem BZ (a:Sc w b s k line v ts)(p:k<s.size)(g:ZJ (ZC s k)=true):
  G O 197 #[D (J ⟨b,0,I⟩)] w (Qx (EQ s k line (ZM Zq s k)) w b s line ts):=by
 have l:=XH Zq s k p (by simp[Zq,g]);have c:=We Zq s k (by omega);have q:=Za (G1 (F:=152) (fun _ _=>by kernel_rfl) Nf a w (Dr.refl w));have f:=Za a;have r:=a.sz;generalize ZM Zq s k=n at*;have t:y3.wrap ((k:Int)+(n:Int))=(k:Int)+(n:Int):=IntWalk.i64_in _ (by omega)
 have z:((k:Int)+(n:Int)).toNat=k+n:=by omega
 have u:(k:Int)<=(k:Int)+(n:Int):=by omega
 have x:(k:Int)+(n:Int)<=(s.size:Int):=by omega
 cases d:Y7 (s.extract k (k+n))
 all_goals
  go_enter Tryz.func197,Tryz.ntmps197
  go_wp2_with (go_at_call 195;refine DU q.o fun A i=>?_;have j:=Za i;have B:=(f.o.dr i).c0;have c1:=(f.o.dr i).c1)
  go_big_quiet ((go_at_call 151;exact Calls.quiet_of_same (RB _ _)))
  simp only[d];go_wp2_with fail
  first|refine(TG 2 n n _ _ _ ((f.o.dr j.o).dr ⟨_,rfl⟩) l c (by omega) (by rfl) (by rfl) (by rfl)).mono ?_|refine(TG 0 n 8 _ _ _ ((f.o.dr j.o).dr ⟨_,rfl⟩) l c (by omega) (by rfl) (by rfl) (by rfl)).mono ?_
  intro e w2 h;have h:=h.pre (y:=EQ s k line n) ((j.o.next _).below b) (by simp[EQ,d]);rcases h.fin with rfl|m
  ·go_wp2_with fail
   go_end0
   exact h
  unfold Zj at m
  subst m;exact⟨rfl,h⟩
end
theorem Sc.move {w b s k a v ts}(h:Sc w b s k a v ts)(k':Nat)(l:k<=k')(c:k'<=s.size):
  Sc (w.setCell ⟨b,1,I⟩ (Y Z k')) b s k' a v ts/\Below b w (w.setCell ⟨b,1,I⟩ (Y Z k')):=by
 obtain⟨d,c1,e,f,g,Yq,few,i,m,j⟩:=h;refine⟨⟨?_,?_,?_,?_,fun o=>by simp[g o],?_,by omega,c,by omega,j⟩,?_⟩
 ·rw[cO _ _ _ _ (by simp)];exact d
 ·exact cS _ _ _ c1
 ·rw[cO _ _ _ _ (by simp)];exact e
 ·rw[cO _ _ _ _ (by simp)];exact f
 ·exact oB Yq (by simp) _
 exact(Below.refl _ _).setCell (by simp) _
theorem Sc.line {w b s k a v ts}(h:Sc w b s k a v ts)(k':Nat)(l:k<k')(c:k'<=s.size):
  Sc ((w.setCell ⟨b,2,I⟩ (Y Z (a+1:Nat))).setCell ⟨b,1,I⟩ (Y Z k')) b s k' (a+1) v ts/\
   Below b w ((w.setCell ⟨b,2,I⟩ (Y Z (a+1:Nat))).setCell ⟨b,1,I⟩ (Y Z k')):=by
 obtain⟨d,c1,e,f,g,Yq,few,i,m,j⟩:=h;refine⟨⟨?_,?_,?_,?_,fun o=>by simp[g o],?_,by omega,c,by omega,j⟩,?_⟩
 ·rw[cO _ _ _ _ (by simp),cO _ _ _ _ (by simp)];exact d
 ·exact cS _ _ _ (u:=Y Z k) (by rw[cO _ _ _ _ (by simp)];exact c1)
 ·rw[cO _ _ _ _ (by simp)];exact cS _ _ _ e
 ·rw[cO _ _ _ _ (by simp),cO _ _ _ _ (by simp)];exact f
 ·exact oB (oB Yq (by simp) _) (by simp) _
 exact((Below.refl _ _).setCell (by simp) _).setCell (by simp) _
theorem Dr.drew {w w'}(h:Dr w w'):Dr w w'.drew:=h.trans ⟨1,rfl⟩
theorem B1 (s k a b):G0 (s.extract k s.size) ⟨#[a,b]⟩=P5 s k (a.toNat:Int) (b.toNat:Int):=by
 unfold G0 P5 ZC;have d:(⟨#[a,b]⟩:ByteArray).size=2:=rfl;by_cases h:k+2<=s.size
 ·rw[ByteArray.toList_eq,ByteArray.toList_eq,Lib.extract_data,Lib.extract_data,d]
  have c:(s.data.toList.drop k).length=s.size-k:=by simp
  have g0:s.data.toList.getD k 0=(s.data.toList.drop k).getD 0 0:=by simp[z9]
  have g1:s.data.toList.getD (k+1) 0=(s.data.toList.drop k).getD 1 0:=by simp[z9]
  rw[g0,g1];generalize s.data.toList.drop k=l at*
  match l,c with
  |[],c=>simp at c;omega
  |[_],c=>simp at c;omega
  |x::y::r,c=>
   obtain⟨n,f⟩:∃n,s.size-k=n+2:=⟨s.size-k-2,by omega⟩;rw[f]
   have e:∀u v:UInt8,(u==v)=decide ((u.toNat:Int)=(v.toNat:Int)):=by
    intro u v;rw[Bool.eq_iff_iff];simp only[beq_iff_eq,decide_eq_true_eq];rw[<-UInt8.toNat_inj];omega
   simp[h,e];omega
 simp[d,h]
 omega
theorem B3 (b s k a v ts w)(d:Sc w b s k a v ts)(N:k<s.size):
  G O 159 #[D (J ⟨b,0,I⟩)] w (Qx (Zs s k a) w b s a ts):=by
 have a0:=fun w=>VH (P:=O) Tryz.underlying9 s k (k:Int) rfl N w
 have b0:(k:Int)<(s.size:Int):=by omega
 have t:=We ZV s k (by omega);have u:=We iD s k (by omega);have V:=Za (XH iD s k N);have z:=Za (G1 (F:=196) (fun _ _=>by kernel_rfl) K8 d);have A:=Za (G1 (F:=188) (fun _ _=>by kernel_rfl) Tg d)
 have X:L (∀(x y:UInt8)(c:Bool) W,P5 s k (x.toNat:Int) (y.toNat:Int)=c->Dr w W->G O 199 #[D (J ⟨b,0,I⟩),U ⟨#[x,y]⟩] W fun e w'=>e=H (M c)/\Dr W w'):=
  fun x y c W i f=>(DW b s ⟨#[x,y]⟩ k W (by have:=d.sz;unfold maxLen;omega) (by unfold maxLen;show 2<=_;decide) (by omega) (d.dr f).c0 (d.dr f).c1).mono fun e w' h=>by rw[B1,i]at h;exact h
 have j:=Za d;obtain⟨c0,c1,c2,c3,fz,Yq,few,Q,ln,sz⟩:=d
 have l:∀c:Int,ZC s k≠c->(ZC s k==c)=false:=fun c h=>by simp[h]
 obtain⟨n,en⟩:∃n,ZM ZV s k=n:=⟨_,rfl⟩;obtain⟨m,R⟩:∃m,ZM iD s k=m:=⟨_,rfl⟩;rw[en]at t z;rw[R]at u A V;have S:y3.wrap ((k:Int)+(n:Int))=(k:Int)+(n:Int):=IntWalk.i64_in _ (by omega);clear Yq few Q c3;obtain⟨x,B⟩:∃x,Zs s k a=x:=⟨_,rfl⟩;rw[B];unfold Zs at B;rw[en,R]at B;have K:=Za B;clear B en R;rcases(by omega:ZC s k=10\/ZC s k=32\/ZC s k=9\/ZC s k=35\/(ZC s k≠10/\ZC s k≠32/\ZC s k≠9/\ZC s k≠35))with i|i|i|i|⟨h1,h2,h3,h4⟩
 iterate 3
  ·clear S
   go_enter Tryz.func159,Tryz.ntmps159;go_wp2_with fail
   go_big_quiet ((fail))
   go_wp2
   go_end0
   have p:=(j.o.dr ⟨nq,rfl⟩).line (k+1) (by omega) (by omega);have T:=(j.o.dr ⟨nq,rfl⟩).move (k+1) (by omega) (by omega);rw[C]at T;rw[C,C]at p;have e:=K.o;simp[i]at e;subst e
   first|exact⟨rfl,⟨v,p.1⟩,(Dr.below ⟨nq,rfl⟩ b).trans p.2⟩|exact⟨rfl,⟨v,T.1⟩,(Dr.below ⟨nq,rfl⟩ b).trans T.2⟩
 ·go_enter Tryz.func159,Tryz.ntmps159
  go_wp2_with fail
  go_big_quiet ((fail))
  go_wp2_with fail
  go_region_with (go_at_call 195;refine(z.o _ (by exact((Dr.refl w).next nq).drew)).mono ?_;rintro e w1 ⟨rfl,f⟩;have g:=Za ((((Dr.refl w).next nq).drew).trans f);have e1:=(j.o.dr g.o).c1;have ef:=(j.o.dr g.o).fz;clear f)
  all_goals
   go_wp2
   go_end0
   have p:=(j.o.dr g.o).move (k+n) (by omega) t;rw[C]at p;have e:=K.o;simp[i]at e;subst e;exact⟨rfl,⟨v,p.1⟩,(g.o.below b).trans p.2⟩
 have n1:=l _ h1;have n2:=l _ h2;have n3:=l _ h3;have n4:=l _ h4
 cases q:ZJ (ZC s k)
 case' true=>have HC:=Za (fun W (f:Dr w W)=>BZ (j.o.dr f) N q)
 case' false=>cases r:iD (ZC s k)
 case' false.false=>rcases(by omega:ZC s k=59\/ZC s k=58\/ZC s k=44\/(ZC s k≠59/\ZC s k≠58/\ZC s k≠44))with i|i|i|⟨h5,h6,h7⟩
 case' false.false.inl|false.false.inr.inl|false.false.inr.inr.inl=>rw[i]at q r
 case' false.false.inr.inr.inr=>
  have n5:=l _ h5;have n6:=l _ h6;have n7:=l _ h7
  cases Y:P5 s k 46 46
 case' false.false.inr.inr.inr.false=>cases E:P5 s k 45 62
 all_goals
  go_enter Tryz.func159,Tryz.ntmps159;go_wp2_with fail
  go_big_quiet ((fail))
  go_wp2_with (first|(go_at_call 150;refine(Tf _ _).mono ?_;rintro e w' ⟨rfl,rfl⟩;simp only[q])|(go_at_call 188;refine(Tg _ _).mono ?_;rintro e w' ⟨rfl,rfl⟩;simp only[r]))
  try
   first|refine(A.o _ ⟨_,rfl⟩).mono ?_|refine(X.o 46 46 _ _ Y ⟨_,rfl⟩).mono ?_
   rintro e w1 ⟨rfl,f⟩;have g:=Za ((Dr.refl w|>.next nq).trans f);clear f;go_wp2_with fail
  try
   refine(X.o 45 62 _ _ E g.o).mono ?_;rintro e w2 ⟨rfl,f⟩;replace g:=Za (g.o.trans f);clear f;have e2:=(j.o.dr g.o).c2;go_wp2_with fail
 ·exact⟨rfl,(show Qx .bad w b s a ts _ _ from⟨rfl,g.o.below b⟩).pre (Below.refl _ _) (by rw[<-K.o];simp[*])⟩
 iterate 2 (refine(TG 2 2 2 _ _ _ (j.o.dr g.o) (by omega) (by first|exact K7 Y|exact K7 E) (by omega) (by rfl) (by rfl) (by rfl)).mono ?_;rotate_left)
 iterate 3 (refine(TG 2 1 1 _ _ _ (j.o.dr ⟨_,rfl⟩) (by omega) (by omega) (by omega) (by rfl) (by rfl) (by rfl)).mono ?_;rotate_left)
 refine(TG 1 m 9 _ _ _ (j.o.dr g.o) (V.o r) u (by omega) (by rfl) (by rfl) (by rfl)).mono ?_
 rotate_left
 refine(HC.o _ ⟨_,rfl⟩).mono ?_
 all_goals
  intro e w3 h;replace h:=h.pre (y:=x) (by first|exact g.o.below b|exact Dr.below ⟨_,rfl⟩ b) (by rw[<-K.o];simp[*,EQ]);rcases h.fin with rfl|Z
  ·go_wp2_with fail
   go_end0
   exact h
  unfold Zj at Z
  subst Z;exact⟨rfl,h⟩
def Vk (w:N)(s:ByteArray)(e:Ending)(w':N):Prop:=
 match ZK s 0 1 []with
 | .ok ts=>(∃v,e=H v/\w'.ownsRow w.heap.size 263 3 v ts.length (Yr ts)/\ts.length<=s.size+1)/\Below w.heap.size w w'
 | .error l=>e=Zj 2 l/\Below w.heap.size w w'
theorem YH {s k a k' l' ts}(b:k<s.size)(c:Zs s k a=.skip k' l'):ZK s k a ts=ZK s k' l' ts:=by
 rw[ZK,dif_pos b]
 split<;>simp_all
theorem WE {s k a k' t ts}(b:k<s.size)(c:Zs s k a=.tok t k'):ZK s k a ts=ZK s k' a (ts++[t]):=by
 rw[ZK,dif_pos b]
 split<;>simp_all
theorem Xp {s k a ts}(b:k<s.size)(c:Zs s k a=.bad):ZK s k a ts=.error a:=by
 rw[ZK,dif_pos b]
 split<;>simp_all
theorem WF {s k a ts}(b:¬k<s.size):ZK s k a ts=.ok (ts++[⟨3,z0,a⟩]):=by
 rw[ZK,dif_neg b]
theorem wI (w:N)(s)(a:s.size<=3000):Sc (w.alloc (A #[U s,Y Z 0,Y Z 1,z1 I 0 0] 268)) w.heap.size s 0 1 (z1 I 0 0) []:=by
 refine⟨?_,?_,?_,?_,?_,oZ _ _ _ _,by simp,by simp,by simp,a⟩
 all_goals simp[go_sem]
theorem B4 (s w)(P:s.size<=3000):G O 104 #[U s] w (Vk w s):=by
  obtain⟨i,hi,x,y,z⟩:=info_parts UQ;go_enter Tryz.func104,Tryz.ntmps104;go_wp2
  go_loopg [18] s.size (fun m _ wr=>∃k a v ts,m=s.size-k/\L (Sc wr w.heap.size s k a v ts)/\L (Below w.heap.size w wr)/\L (ZK s 0 1 []=ZK s k a ts))
  case atStart=>exact⟨0,1,z1 I 0 0,[],rfl,wI w s P,(Below.refl _ _).alloc (R _) _,rfl⟩
  obtain⟨k,a,v,ts,rfl,q,H,r⟩:=hrel;have Q:=q.o.c0;have c1:=q.o.c1;by_cases b:k<s.size
  · have S:decide ((k:Int)<(s.size:Int))=true:=by simp;omega
    go_wp2_with fail
    go_big_quiet ((fail))
    go_wp2_with fail;have j:=Za (H.o.trans (Dr.below ⟨nq,rfl⟩ _));refine(B3 w.heap.size s k a v ts _ (q.o.dr ⟨nq,rfl⟩) b).mono ?_;intro e w2 h
    cases d:Zs s k a with
    | skip k' l'=>
      rw[d]at h;obtain⟨rfl,⟨v',A⟩,l⟩:=h;have B:=X1 b d;go_wp2;go_roundg (s.size-k')
      case measure=>omega
      exact⟨k',l',v',ts,rfl,A,j.o.trans l,r.o.trans (YH b d)⟩
    | tok t k'=>
      rw[d]at h;obtain⟨rfl,⟨v',A⟩,l⟩:=h;have B:=WD b d;go_wp2;go_roundg (s.size-k')
      case measure=>omega
      exact⟨k',a,v',ts++[t],rfl,A,j.o.trans l,r.o.trans (WE b d)⟩
    | bad=>
      rw[d]at h;obtain⟨K,l⟩:=h;unfold Zj at K;subst K
      have n:Vk w s (Zj 2 a) w2:=by
        unfold Vk;rw[r.o.trans (Xp b d)];exact⟨rfl,j.o.trans l⟩
      exact⟨rfl,n⟩
  have S:decide ((k:Int)<(s.size:Int))=false:=by simp;omega
  go_wp2_with fail
  go_big_quiet ((fail))
  go_wp2_with fail;have C:=q.o.dr (w':=wr.drewN nq) ⟨nq,rfl⟩;have j:=Za (H.o.trans (Dr.below ⟨nq,rfl⟩ _));generalize wr.drewN nq=u at*;obtain⟨Q,c1,M,T,fz,Yq,few,V,ln,sz⟩:=C;have D:w.heap.size<u.heap.size:=bL u _ M
  go_region_held3 (fun w'=>w'.cell? ⟨w.heap.size,2,I⟩=J (Y Z a)/\w'.cell? ⟨w.heap.size,3,I⟩=J v) (go_keep)
    ((refine step_append_lies _ rfl (.tmp 22) (.tmp 28) 193 rfl (w.heap.size+1) 263 i _ 3 32 Tryz.underlying193 hi x y z rfl (by decide) v ts.length (Yr ts) rfl (by exact(Yq.alloc _).drew) ⟨u.heap.size,0,I⟩ 1 1 [Y Z 3,U z0,Y Z a] rfl rfl (by exact z2 (heap_alloc_new u _)) (by simp[z6]) (by decide) (by unfold maxLen;omega) (by omega) (by simp;omega) _ rfl (fun g cap w1 f c _ _=>?_)
      obtain⟨E,_,p⟩:=Ps Yq D ((Below.refl _ _).alloc (R _) _).drew c;have d2:=(E 2).trans M;have d3:=(E 3).trans T;have W:=Za f;have X:=Za p
      clear E c f p))
  go_wp2;go_ret;unfold Vk;rw[r.o.trans (WF b)];refine⟨⟨_,rfl,?_,by simp;omega⟩,j.o.trans X.o⟩;have N:=W.o;rw[T4,lA];exact⟨N.1,N.2.imp id (fun⟨g,cap,F,h1,h2,h3⟩=>⟨g,cap,F,h1,by omega,h3⟩)⟩
def Zn (t:Tk)(m:ByteArray):Bool:=decide (t.sort=2)&&(t.text.toList==m.toList)
def Zo (ts:List Tk)(i:Nat):Tk:=ts.getD i ⟨3,z0,0⟩
def ZE (ts:List Tk)(i:Nat)(m:ByteArray):Except Nat (Unit×Nat):=if Zn (Zo ts i) m then .ok ((),i+1)else .error (Zo ts i).line
def Z8 (ts:List Tk)(i a:Nat):Except Nat (Tk×Nat):=if(Zo ts i).sort=a then .ok (Zo ts i,i+1)else .error (Zo ts i).line
def WU:ByteArray:=⟨#[114,111,117,116,101]⟩
def Ub:ByteArray:=⟨#[114,117,108,101]⟩
def RD:ByteArray:=⟨#[98,105,110]⟩
def W7:ByteArray:=⟨#[109,99,99]⟩
def Z6:ByteArray:=⟨#[97,109,111,117,110,116]⟩
def Vw:ByteArray:=⟨#[99,117,114]⟩
def YL:ByteArray:=⟨#[100,101,99,108,105,110,101]⟩
def Yi:ByteArray:=⟨#[99,104,101,97,112,101,115,116]⟩
def Va:ByteArray:=⟨#[59]⟩
def Tv:ByteArray:=⟨#[58]⟩
def Y1:ByteArray:=⟨#[44]⟩
def V8:ByteArray:=⟨#[46,46]⟩
def T5:ByteArray:=⟨#[45,62]⟩
def UR (ts:List Tk)(i:Nat):Except Nat ((Tk×Tk)×Nat):=
 match Z8 ts i 1 with
 | .error l=>.error l
 | .ok (a,i1)=>match ZE ts i1 V8 with
  | .error l=>.error l
  | .ok (_,i2)=>match Z8 ts i2 1 with
   | .error l=>.error l
   | .ok (b,i3)=>.ok ((a,b),i3)
theorem Um {ts i m}(h:Zn (Zo ts i) m=true):i<ts.length:=by
 rcases y0 i ts.length with a|a
 ·exact a
 exfalso
 unfold Zn Zo at h;rw[gD,y5 a]at h;simp at h
theorem Ys {ts i a t b}(h:Z8 ts i a=.ok (t,b)):t=Zo ts i/\t.sort=a/\b=i+1:=by
 unfold Z8 at h
 split at h
 ·injection h with h;injection h with c d;subst c d;exact⟨rfl,‹_›,rfl⟩
 cases h
def XT (ts:List Tk)(i a:Nat)(b:List Tk):Except Nat (List Tk×Nat):=
 if _h:Zn (Zo ts i) Y1=true then
  match _ht:Z8 ts (i+1) a with
  | .error l=>.error l
  | .ok (t,i')=>XT ts i' a (b++[t])
 else .ok (b,i)
 termination_by ts.length-i
 decreasing_by
  have c:=Um _h;have d:=(Ys _ht).2.2;omega
def Xk (ts:List Tk)(i a:Nat):Except Nat (List Tk×Nat):=
 match Z8 ts i a with
 | .error l=>.error l
 | .ok (t,i1)=>XT ts i1 a [t]
structure Fr (S:Nat->Prop)(w w':N):Prop where
 os:w'.os=w.os
 tape:w'.tape=w.tape
 output:w'.output=w.output
 size:w.heap.size<=w'.heap.size
 block:∀k,k<w.heap.size->¬S k->w'.heap[k]?=w.heap[k]?
abbrev F0:N->N->Prop:=Fr (fun(_:Nat)=>False)
theorem Fr.refl (S w):Fr S w w:=⟨rfl,rfl,rfl,R _,fun _ _ _=>rfl⟩
theorem Fr.trans {S a b c}(h:Fr S a b)(k:Fr S b c):Fr S a c:=
 ⟨k.os.trans h.os,k.tape.trans h.tape,k.output.trans h.output,y7 h.size k.size,fun i hi d=>(k.block i (nL hi h.size) d).trans (h.block i hi d)⟩
theorem Zt {S w}:Fr S w w:=Fr.refl _ _
theorem Fr.mono {S T w w'}(h:Fr S w w')(a:∀k,S k->T k:=by simp):Fr T w w':=⟨h.os,h.tape,h.output,h.size,fun k b c=>h.block k b fun d=>c (a k d)⟩
theorem Fr.monoNew {S T a w w'}(h:Fr S a w)(k:Fr T w w')(c:∀i,T i->S i\/a.heap.size<=i):Fr S a w':=
 ⟨k.os.trans h.os,k.tape.trans h.tape,k.output.trans h.output,y7 h.size k.size,fun i hi b=>
  (k.block i (nL hi h.size) fun d=>(c i d).elim b (fun e=>by omega)).trans (h.block i hi b)⟩
theorem Fr.of_below {S w w'}(h:Below w.heap.size w w'):Fr S w w':=⟨h.os,h.tape,h.output,h.size,fun k a _=>h.block k a⟩
theorem Fr.alloc {S a w}(h:Fr S a w)(o):Fr S a (w.alloc o):=
 h.trans (Fr.of_below ((Below.refl _ _).alloc (R _) o))
theorem Fr.drew {S a w}(h:Fr S a w):Fr S a w.drew:=h.trans ⟨rfl,rfl,rfl,R _,fun _ _ _=>rfl⟩
theorem Fr.setCell {S a w}(h:Fr S a w){p}(c:S p.block\/a.heap.size<=p.block)(u):Fr S a (w.setCell p u):=
 ⟨h.os,h.tape,h.output,by simpa using h.size,fun k d b=>by
  rw[Below.heap_setCell _ _ _ _ (fun e=>by subst e;exact c.elim b (fun f=>by omega))]
  exact h.block k d b⟩
theorem Fr.cell {S w w'}(h:Fr S w w'){p}(a:p.block<w.heap.size)(b:¬S p.block:=by simp):w'.cell? p=w.cell? p:=World.cell?_of_block (w:=w) (h.block p.block a b)
theorem Fr.frozen {S w w'}(h:Fr S w w'){p}(a:p.block<w.heap.size)(b:¬S p.block:=by simp):w'.frozen? p=w.frozen? p:=World.frozen?_of_block (w:=w) (h.block p.block a b)
theorem Fr.below {S w w'}(h:Fr S w w'){B}(c:B<=w.heap.size)(a:∀k,S k->B<=k:=by simp):Below B w w':=
 ⟨h.os,h.tape,h.output,h.size,fun k d=>h.block k (by omega) fun b=>by have:=a k b;omega⟩
def R8 (t:Tk):z4:=y9 #[Y Z t.sort,U t.text,Y Z t.line]
structure Pa (w:N)(p g cap:Nat)(ts:List Tk)(i:Nat):Prop where
 c0:w.cell? ⟨p,0,I⟩=J (z1 (J ⟨g,0,I⟩) ts.length cap)
 c1:w.cell? ⟨p,1,I⟩=J (Y Z i)
 fz:∀o,w.frozen? ⟨p,o,I⟩=false
 row:∀j t,ts[j]?=J t->w.cell? ⟨g,j*3,I⟩=J (Y Z t.sort)/\w.cell? ⟨g,j*3+1,I⟩=J (U t.text)/\w.cell? ⟨g,j*3+2,I⟩=J (Y Z t.line)
 ne:g≠p
 gl:g<w.heap.size
 lt:i<ts.length
 few:ts.length<=4000
 last:(ts.getLastD ⟨3,z0,0⟩).sort=3
theorem VI (w p g cap ts i t)(h:Pa w p g cap ts i)(b:ts[i]?=J t):
  G O 156 #[D (J ⟨p,0,I⟩)] w fun e w'=>e=H (R8 t)/\F0 w w':=by
 obtain⟨c,c1,f,row,j,k,l,few,a⟩:=h;obtain⟨m,n,o⟩:=row i t b;have d:=bL w _ c
 have q:(i:Int)<(ts.length:Int):=by omega
 clear row a;go_enter Tryz.func156,Tryz.ntmps156;go_wp2_with fail
 go_region_held3 (fun w'=>w'.cell? ⟨p,0,I⟩=J (z1 (J ⟨g,0,I⟩) ts.length cap)/\w'.cell? ⟨p,1,I⟩=J (Y Z i)/\w'.cell? ⟨g,i*3,I⟩=J (Y Z t.sort)/\w'.cell? ⟨g,i*3+1,I⟩=J (U t.text)/\w'.cell? ⟨g,i*3+2,I⟩=J (Y Z t.line)) (go_keep) (fail)
 go_wp2;exact bodyPost_ret (v:=R8 t) (by simp[results,Tryz.results156,go_sem,R8]) rfl ⟨rfl,((Fr.refl _ _).alloc _).drew⟩
theorem Pa.fr {w w' p g cap ts i S}(h:Pa w p g cap ts i)(d:Fr S w w')(r:∀k,S k->k≠p/\k≠g:=by simp):Pa w' p g cap ts i:=by
 obtain⟨s,c1,u,row,v,m,x,few,l⟩:=h;have f:=bL w _ s
 have n:¬S p:=fun e=>(r p e).1 rfl
 have q:¬S g:=fun e=>(r g e).2 rfl
 refine⟨?_,?_,fun o=>?_,fun j t y=>?_,v,nL m d.size,x,few,l⟩
 ·rw[d.cell (p:=⟨p,0,I⟩) f n];exact s
 ·rw[d.cell (p:=⟨p,1,I⟩) f n];exact c1
 ·rw[d.frozen (p:=⟨p,o,I⟩) f n];exact u o
 obtain⟨a,b,c⟩:=row j t y
 rw[d.cell (p:=⟨g,j*3,I⟩) m q,d.cell (p:=⟨g,j*3+1,I⟩) m q,d.cell (p:=⟨g,j*3+2,I⟩) m q];exact⟨a,b,c⟩
theorem Pa.next {w p g cap ts i t}(h:Pa w p g cap ts i)(f:ts[i]?=J t)(k:t.sort≠3):
  Pa (w.setCell ⟨p,1,I⟩ (Y Z (i+1:Nat))) p g cap ts (i+1):=by
 obtain⟨l,c1,m,row,c,n,s,few,a⟩:=h;refine⟨?_,?_,fun o=>by simp[m o],fun j t q=>?_,c,by simpa using n,?_,few,a⟩
 ·rw[cO _ _ _ _ (by simp)];exact l
 ·exact cS _ _ _ c1
 ·have b:∀o,(⟨p,1,I⟩:Addr)≠⟨g,o,I⟩:=fun o e=>c (by injection e with r;exact r.symm)
  rw[cO _ _ _ _ (b _),cO _ _ _ _ (b _),cO _ _ _ _ (b _)];exact row j t q
 rcases y0 (i+1) ts.length with d|d
 ·exact d
 exfalso
 apply k
 have e:i=ts.length-1:=by omega
 rw[List.getLastD_eq_getLast?,List.getLast?_eq_getElem?,<-e,f]at a;exact a
theorem SI (w p g cap ts i t m)(h:Pa w p g cap ts i)(f:ts[i]?=J t)(b:Zn t m=true):
  G O 191 #[D (J ⟨p,0,I⟩),U m] w fun e w'=>e=H (M true)/\Pa w' p g cap ts (i+1)/\Fr (fun k=>k=p) w w':=by
 unfold Zn at b;rw[Bool.and_eq_true,decide_eq_true_eq]at b;obtain⟨n,u⟩:=b;have c:=Za h;have d:=bL w _ h.c0
 have hi:i<=4000:=by have:=h.lt;have:=h.few;omega
 have q:=Za (VI w p g cap ts i t h f);go_enter Tryz.func191,Tryz.ntmps191;go_wp2_with fail;refine q.o.mono ?_;rintro e r ⟨rfl,a⟩;have c1:=(c.o.fr a).c1;have v:=(c.o.fr a).fz;have s:p<r.heap.size:=nL d a.size;have j:=Za a;simp only[R8];simp only[n];go_wp2;go_ret;have l:=((c.o.fr j.o).next f (by omega)).fr (S:=fun _=>False) ((Fr.refl _ _).alloc (A #[Y Z 2,U t.text,Y Z t.line] 263));rw[C]at l;exact⟨rfl,l,((j.o.mono (T:=fun k=>k=p)).setCell (X rfl) _).alloc _⟩
theorem Qy (w p g cap ts i t m)(h:Pa w p g cap ts i)(l:ts[i]?=J t)(n:Zn t m=false):
  G O 191 #[D (J ⟨p,0,I⟩),U m] w fun e w'=>e=H (M false)/\F0 w w':=by
 unfold Zn at n;by_cases q:t.sort=2
 ·have r:(t.text.toList==m.toList)=false:=by simpa[q]using n
  have c:=Za h;have b:=bL w _ h.c0
  have hi:i<=4000:=by have:=h.lt;have:=h.few;omega
  have d:=Za (VI w p g cap ts i t h l);go_enter Tryz.func191,Tryz.ntmps191;go_wp2_with fail;refine d.o.mono ?_;rintro e f ⟨rfl,a⟩;have c1:=(c.o.fr a).c1;have s:=(c.o.fr a).fz;have j:p<f.heap.size:=nL b a.size;have k:=Za a;simp only[R8];simp only[q];go_wp2;go_ret;exact⟨rfl,k.o.alloc _⟩
 have r:((t.sort:Int) !=2)=true:=by simp;omega
 have c:=Za h;have b:=bL w _ h.c0
 have hi:i<=4000:=by have:=h.lt;have:=h.few;omega
 have d:=Za (VI w p g cap ts i t h l);go_enter Tryz.func191,Tryz.ntmps191;go_wp2_with fail;refine d.o.mono ?_;rintro e f ⟨rfl,a⟩;have c1:=(c.o.fr a).c1;have s:=(c.o.fr a).fz;have j:p<f.heap.size:=nL b a.size;have k:=Za a;simp only[R8];go_wp2;go_ret;exact⟨rfl,k.o.alloc _⟩
theorem YD (t)(a:Nat)(b:Int)(w)(c:b=a):
  G O 194 #[R8 t,Y Z b] w fun e w'=>e=Zj a t.line/\F0 w w':=by
 subst c;unfold R8;go_enter Tryz.func194,Tryz.ntmps194;go_wp2;exact⟨rfl,rfl,(Fr.refl _ _).alloc _⟩
theorem G2 (w p g cap ts i t m)(h:Pa w p g cap ts i)(a:ts[i]?=J t)(b:Zn t m=true):
  G O 158 #[D (J ⟨p,0,I⟩),U m] w fun e w'=>e=H (.tuple #[])/\Pa w' p g cap ts (i+1)/\Fr (fun k=>k=p) w w':=by
 go_enter Tryz.func158,Tryz.ntmps158
 go_wp2_with (go_at_call 191;refine(SI w p g cap ts i t m h a b).mono ?_;rintro e f ⟨rfl,c,d⟩)
 go_end0
 exact⟨rfl,c,d⟩
theorem DY (w p g cap ts i t m)(h:Pa w p g cap ts i)(b:ts[i]?=J t)(j:Zn t m=false):
  G O 158 #[D (J ⟨p,0,I⟩),U m] w fun e w'=>e=Zj 3 t.line/\F0 w w':=by
 have c:=Za h;go_enter Tryz.func158,Tryz.ntmps158
 go_wp2_with (go_at_call 191;refine(Qy w p g cap ts i t m c.o b j).mono ?_;rintro e l ⟨rfl,a⟩;have d:=Za a)
 refine(VI _ p g cap ts i t (c.o.fr d.o) b).mono ?_;rintro e w2 ⟨rfl,a⟩;have k:=Za (d.o.trans a);go_wp2_with fail;refine(YD t 3 _ _ (by rfl)).mono ?_;rintro e n ⟨f,a⟩;unfold Zj at f;subst f;exact⟨rfl,rfl,k.o.trans a⟩
theorem B5 (w p g cap ts i t a)(m:Int)(h:Pa w p g cap ts i)(j:ts[i]?=J t)(q:t.sort=a)(z:a≠3)(r:m=a):
    G O 229 #[D (J ⟨p,0,I⟩),Y Z m] w fun e w'=>e=H (R8 t)/\Pa w' p g cap ts (i+1)/\Fr (fun k=>k=p) w w':=by
  subst r;have d:=Za h;have l:=bL w _ h.c0
  have hi:i<=4000:=by have:=h.lt;have:=h.few;omega
  have B:=Za (VI w p g cap ts i t h j);go_enter Tryz.func229,Tryz.ntmps229;go_wp2_with fail;refine(VI _ p g cap ts i t (d.o.fr (S:=fun _=>False) ((Fr.refl _ _).alloc _)) j).mono ?_;rintro e b ⟨rfl,c⟩;have f:=Za (((Fr.refl _ _).alloc _).trans c);have c1:=(d.o.fr f.o).c1;have E:=(d.o.fr f.o).fz;have s:p<b.heap.size:=nL l f.o.size
  have F:w.heap.size<b.heap.size:=by have:=c.size;simp at this;omega
  have K:b.cell? ⟨w.heap.size,0,I⟩=J (Y Z 0):=by rw[c.cell (p:=⟨w.heap.size,0,I⟩) (by simp)];simp[go_sem]
  have L:b.cell? ⟨w.heap.size,1,I⟩=J (U z0):=by rw[c.cell (p:=⟨w.heap.size,1,I⟩) (by simp)];simp[go_sem];rfl
  have M:b.cell? ⟨w.heap.size,2,I⟩=J (Y Z 0):=by rw[c.cell (p:=⟨w.heap.size,2,I⟩) (by simp)];simp[go_sem]
  have N:∀o,b.frozen? ⟨w.heap.size,o,I⟩=false:=fun o=>by rw[c.frozen (p:=⟨w.heap.size,o,I⟩) (by simp)];simp[go_sem]
  have u:¬p=w.heap.size:=by omega
  have x:¬w.heap.size=p:=by omega
  simp only[R8,q];go_wp2;have y:=d.o.gl;have n:=((d.o.fr f.o).next j (by omega)).fr (S:=fun k=>k=w.heap.size)
    (((((Fr.refl (fun k=>k=w.heap.size) _).setCell (p:=⟨w.heap.size,0,I⟩) (X rfl) (Y Z a)).setCell (p:=⟨w.heap.size,1,I⟩) (X rfl) (U t.text)).setCell (p:=⟨w.heap.size,2,I⟩) (X rfl) (Y Z t.line)).alloc (A #[Y Z a,U t.text,Y Z t.line] 263)) (fun k P=>by omega)
  rw[C]at n
  exact bodyPost_ret (v:=R8 t) (by simp[results,Tryz.results229,go_sem,R8, *]) rfl ⟨rfl,n,
    (((((f.o.mono (T:=fun k=>k=p)).setCell (X rfl) _).setCell (y1 (R _)) _).setCell (y1 (R _)) _).setCell (y1 (R _)) _).alloc _⟩
theorem yD (w p g cap ts i t a)(c:Int)(h:Pa w p g cap ts i)(f:ts[i]?=J t)(n:t.sort≠a)(j:c=a):
  G O 229 #[D (J ⟨p,0,I⟩),Y Z c] w fun e w'=>e=Zj 3 t.line/\F0 w w':=by
 subst j
 have q:((t.sort:Int) !=(a:Int))=true:=by simp;omega
 have k:=Za h;have l:=bL w _ h.c0;go_enter Tryz.func229,Tryz.ntmps229;go_wp2_with fail;refine(VI _ p g cap ts i t (k.o.fr (S:=fun _=>False) ((Fr.refl _ _).alloc _)) f).mono ?_;rintro e r ⟨rfl,b⟩;have m:=Za (((Fr.refl _ _).alloc _).trans b);simp only[R8];go_wp2_with fail;refine(YD t 3 _ _ (by rfl)).mono ?_;rintro e s ⟨d,b⟩;unfold Zj at d;subst d;exact⟨rfl,rfl,(m.o.alloc _).trans b⟩
def Zm {α:Type}(r:Except Nat (α×Nat))(b:α->z4->N->Prop)(w:N)(p g cap:Nat)(ts:List Tk)(e:Ending)(w':N):Prop:=
 match r with
 | .ok (a,i)=>(∃v,e=H v/\b a v w')/\Pa w' p g cap ts i/\Fr (fun k=>k=p) w w'
 | .error l=>e=Zj 3 l/\Fr (fun k=>k=p) w w'
theorem Zm.ok {α r b w p g cap ts e w'}{a:α}{i}(c:r=.ok (a,i)):
  Zm r b w p g cap ts e w'↔(∃v,e=H v/\b a v w')/\Pa w' p g cap ts i/\Fr (fun k=>k=p) w w':=by subst c;exact Iff.rfl
theorem Zm.err {α}{r:Except Nat (α×Nat)}{a w p g cap ts e w' l}(b:r=.error l):
  Zm r a w p g cap ts e w'↔e=Zj 3 l/\Fr (fun k=>k=p) w w':=by subst b;exact Iff.rfl
theorem Pa.at {w p g cap ts i}(h:Pa w p g cap ts i):ts[i]?=J (Zo ts i):=by
 unfold Zo;rw[gD,gE h.lt];rfl
theorem VJ (w p g cap ts)(i a:Nat)(c:Int)(h:Pa w p g cap ts i)(j:a≠3)(f:c=a):
  G O 229 #[D (J ⟨p,0,I⟩),Y Z c] w (Zm (Z8 ts i a) (fun t v _=>v=R8 t) w p g cap ts):=by
 by_cases d:(Zo ts i).sort=a
 ·exact(B5 w p g cap ts i (Zo ts i) a c h h.at d j f).mono fun e w' b=>(Zm.ok (by unfold Z8;rw[if_pos d])).2 ⟨⟨_,b.1,rfl⟩,b.2⟩
 exact(yD w p g cap ts i (Zo ts i) a c h h.at d f).mono fun e w' b=>(Zm.err (by unfold Z8;rw[if_neg d])).2 ⟨b.1,b.2.mono⟩
theorem Uc (w p g cap ts i m)(h:Pa w p g cap ts i):
  G O 158 #[D (J ⟨p,0,I⟩),U m] w (Zm (ZE ts i m) (fun _ v _=>v=.tuple #[]) w p g cap ts):=by
 cases b:Zn (Zo ts i) m with
 |true=>exact(G2 w p g cap ts i (Zo ts i) m h h.at b).mono fun e w' a=>(Zm.ok (by unfold ZE;rw[if_pos b])).2 ⟨⟨_,a.1,rfl⟩,a.2⟩
 |false=>exact(DY w p g cap ts i (Zo ts i) m h h.at b).mono fun e w' a=>(Zm.err (by unfold ZE;rw[b];rfl)).2 ⟨a.1,a.2.mono⟩
theorem bC {w:N}{g a t}(h:w.heap[g]?=J (A a t))(j v)(b:a[j]?=J v):w.cell? ⟨g,j,I⟩=J v:=by
 rw[cell_of_row w g j a t (0,0) h];exact b
theorem Zc {w:N}{g a t}(h:w.heap[g]?=J (A a t))(j){v}(b:a[j]?=J v:=by exact rfl):w.cell? ⟨g,j,I⟩=J v:=bC h j v b
theorem bF {w:N}{g a t}(h:w.heap[g]?=J (A a t))(j):w.frozen? ⟨g,j,I⟩=false:=by
 simp[World.frozen?,h]
theorem Fr.whole {S w w'}(h:Fr S w w'){g o}(b:w.heap[g]?=J o)(c:¬S g:=by simp):w'.heap[g]?=J o:=by
 have a:g<w.heap.size:=(iA.1 b).1;rw[h.block g a c];exact b
def US (a:Tk×Tk):z4:=y9 #[Y Z a.1.sort,U a.1.text,Y Z a.1.line,Y Z a.2.sort,U a.2.text,Y Z a.2.line]
theorem Ib (w p g cap ts i)(h:Pa w p g cap ts i):
  G O 230 #[D (J ⟨p,0,I⟩)] w (Zm (UR ts i) (fun ab v _=>v=US ab) w p g cap ts):=by
 have HP:=Za h;have L:p<w.heap.size:=bL w _ h.c0;go_enter Tryz.func230,Tryz.ntmps230;go_wp2_with fail;refine(VJ _ p g cap ts i 1 _ (HP.o.fr (S:=fun _=>False) (Zt.alloc _)) (by decide) (by rfl)).mono ?_;intro e f n
 cases C:Z8 ts i 1 with
 |error l=>
  obtain⟨q,b⟩:=(Zm.err C).1 n;unfold Zj at q;subst q;exact⟨rfl,(Zm.err (by unfold UR;rw[C])).2 ⟨rfl,(Zt.alloc _).trans b⟩⟩
 |ok r=>
  obtain⟨a,i1⟩:=r;obtain⟨⟨v,rfl,rfl⟩,M,b⟩:=(Zm.ok C).1 n;have N:=Za M;have t:=Za ((Zt.alloc _).trans b);have P:=Za (b.whole (aN w _) (by omega));have f0:p<f.heap.size:=nL L t.o.size
  have g0:w.heap.size<f.heap.size:=by have:=b.size;simp at this;omega
  have x:=Za C;simp only[R8];go_wp2_with fail;refine(Uc _ p g cap ts i1 V8 (N.o.fr (S:=fun _=>False) (Zt.alloc _))).mono ?_;intro e w2 n
  cases E:ZE ts i1 V8 with
  |error l=>
   obtain⟨q,b⟩:=(Zm.err E).1 n;unfold Zj at q;subst q;exact⟨rfl,(Zm.err (by unfold UR;rw[x.o];simp only;rw[E])).2 ⟨rfl,t.o.trans ((Zt.alloc _).trans b)⟩⟩
  |ok r=>
   obtain⟨u,i2⟩:=r;obtain⟨⟨v,rfl,rfl⟩,Q,b⟩:=(Zm.ok E).1 n;have R:=Za Q;have z:=Za (t.o.trans ((Zt.alloc _).trans b));have F:=Za (b.whole (aN f _) (by omega));have T:=Za (b.whole (((Fr.refl (fun _=>False) _).alloc _).whole P.o) (by omega));have A:=Za E;have a0:=Zc F.o 0;have a1:=Zc F.o 1;have a2:=Zc F.o 2;go_wp2_with fail;refine wp_region_held_drew (S:=fun w'=>w'.cell? ⟨f.heap.size,0,I⟩=J (Y Z a.sort)/\w'.cell? ⟨f.heap.size,1,I⟩=J (U a.text)/\w'.cell? ⟨f.heap.size,2,I⟩=J (Y Z a.line)) (by kernel_rfl) ?_ (fun s=>?_)
   ·exact⟨by simpa using a0,by simpa using a1,by simpa using a2⟩
   refine ZX 0 s ?_;go_frame;refine ZX 1 s ?_;go_frame;refine Vv 2 (fun K V=>?_);go_simp;refine(VJ _ p g cap ts i2 1 _ (R.o.fr (S:=fun _=>False) Zt.drew) (by decide) (by rfl)).mono ?_;intro e W n
   cases m:Z8 ts i2 1 with
   |error l=>
    obtain⟨q,b⟩:=(Zm.err m).1 n;unfold Zj at q;subst q;exact⟨rfl,(Zm.err (by unfold UR;rw[x.o];simp only;rw[A.o];simp only;rw[m])).2 ⟨rfl,z.o.trans (Zt.drew.trans b)⟩⟩
   |ok r=>
    obtain⟨c,i3⟩:=r;obtain⟨⟨v,rfl,rfl⟩,b0,b⟩:=(Zm.ok m).1 n;have d0:=Za b0;have e0:=Za (z.o.trans (Zt.drew.trans b));have y:=b.whole (g:=f.heap.size) F.o (by omega);have d:=b.whole (g:=w.heap.size) T.o (by omega);have B:=Za m;refine V.out _ _ ⟨Zc y 0,Zc y 1,Zc y 2⟩ (fun s=>?_);have r0:=Zc d 0;have r1:=Zc d 1;have r2:=Zc d 2;have r3:=Zc d 3;have r4:=Zc d 4;have r5:=Zc d 5;have rf:=bF d;simp only[R8]
    try go_frame
    refine ZX 3 s ?_;go_frame;refine Vv 4 (fun K V=>?_);go_simp;have H:=((((((Fr.refl (fun k=>k=w.heap.size) W).setCell (p:=⟨w.heap.size,0,I⟩) (X rfl) (Y Z a.sort)).setCell (p:=⟨w.heap.size,1,I⟩) (X rfl) (U a.text)).setCell (p:=⟨w.heap.size,2,I⟩) (X rfl) (Y Z a.line)).setCell (p:=⟨w.heap.size,3,I⟩) (X rfl) (Y Z c.sort)).setCell (p:=⟨w.heap.size,4,I⟩) (X rfl) (U c.text)).setCell (p:=⟨w.heap.size,5,I⟩) (X rfl) (Y Z c.line);have j:f.heap.size<W.heap.size:=bL W _ s.1;have HW:=Za H;refine V.out _ _ ⟨(H.cell (p:=⟨f.heap.size,0,I⟩) j (by simp;omega)).trans s.1,(H.cell (p:=⟨f.heap.size,1,I⟩) j (by simp;omega)).trans s.2.1,(H.cell (p:=⟨f.heap.size,2,I⟩) j (by simp;omega)).trans s.2.2⟩ (fun _=>?_)
    try go_frame
    refine wpAnyH_done (by kernel_rfl) ?_ _;go_wp2;have h0:=HP.o.gl;have hn:=d0.o.fr HW.o (fun k hk=>by omega);exact bodyPost_ret (v:=US (a,c)) (by simp[results,Tryz.results230,go_sem,US, *]) rfl ((Zm.ok (by unfold UR;rw[x.o];simp only;rw[A.o];simp only;rw[B.o])).2 ⟨⟨_,rfl,rfl⟩,hn,e0.o.monoNew HW.o (fun k hk=>by omega)⟩)
theorem oF {w w' S base e a v n f}(h:w.ownsRow base e a v n f)(i:Fr S w w')(j:∀k,S k->k<base:=by simp):w'.ownsRow base e a v n f:=by
 refine⟨h.1,?_⟩;rcases h.2 with l|⟨g,cap,c,rfl,m,d,b⟩
 ·exact .inl l
 refine .inr ⟨g,cap,c,rfl,m,?_,b⟩
 exact i.whole d (fun o=>by have:=j g o;omega)
theorem oS {w:N}{base a e b v n d}(h:w.ownsRow base e b v n d)(j:a<=base):w.ownsRow a e b v n d:=
 ⟨h.1,h.2.imp id (fun⟨g,cap,c,f,k,i⟩=>⟨g,cap,c,f,by omega,i⟩)⟩
theorem Fr.grown {S a w w' row}(h:Fr S a w)(b:w.grownBy w' row)(c:∀k,row=J k->S k\/a.heap.size<=k):Fr S a w':=
 h.monoNew (T:=fun k=>row=J k) ⟨b.os,b.tape,b.output,b.size,fun k d f=>b.block k d (fun e=>f e.symm)⟩ c
theorem Vx (w a):L (F0 w (w.alloc a))/\L ((w.alloc a).heap[w.heap.size]?=J a):=⟨Zt.alloc _,aN w _⟩
theorem sn (w a):∃W,L (w.alloc a=W)/\L (F0 w W)/\L (W.heap[w.heap.size]?=J a):=⟨_,rfl,Vx w a⟩
theorem SA (w a b):L (F0 w ((w.alloc a).alloc b))/\L (((w.alloc a).alloc b).heap[w.heap.size]?=J a)/\L (((w.alloc a).alloc b).heap[w.heap.size+1]?=J b):=
 ⟨(Vx w a).1.out.alloc _,(Vx _ b).1.out.whole (aN w _),by have e:=aN (w.alloc a) b;rw[show(w.alloc a).heap.size=w.heap.size+1 from by simp]at e;exact e⟩
theorem xS (w a b c):L (F0 w (((w.alloc a).alloc b).alloc c))/\L ((((w.alloc a).alloc b).alloc c).heap[w.heap.size]?=J a)/\L ((((w.alloc a).alloc b).alloc c).heap[w.heap.size+1]?=J b)/\L ((((w.alloc a).alloc b).alloc c).heap[w.heap.size+1+1]?=J c):=
 ⟨(SA w a b).1.out.alloc _,(Vx _ c).1.out.whole (SA w a b).2.1.out,(Vx _ c).1.out.whole (SA w a b).2.2.out,by have e:=(SA (w.alloc a) b c).2.2.out;rw[show(w.alloc a).heap.size=w.heap.size+1 from by simp]at e;exact e⟩
theorem Lp (w a):F0 w (w.alloc a)/\(w.alloc a).heap[w.heap.size]?=J a:=Vx w a
theorem Ic (w a b):F0 w ((w.alloc a).alloc b)/\((w.alloc a).alloc b).heap[w.heap.size]?=J a/\((w.alloc a).alloc b).heap[w.heap.size+1]?=J b:=SA w a b
theorem B7 (w a b c):F0 w (((w.alloc a).alloc b).alloc c)/\(((w.alloc a).alloc b).alloc c).heap[w.heap.size]?=J a/\(((w.alloc a).alloc b).alloc c).heap[w.heap.size+1]?=J b/\(((w.alloc a).alloc b).alloc c).heap[w.heap.size+1+1]?=J c:=xS w a b c
def uG:Nat->List Bool->Nat->Option Nat
 |_,[],_=>I
 |n,true::r,k=>uG n r (k+1)
 |0,false::_,k=>J k
 |n+1,false::r,k=>uG n r (k+1)
theorem YO {P l Q f S}(n){i e v d b a w}(j:S w)(h:wpAnyH P f l.toArray Q S d (b.setIfInBounds i true) (a.put e.dst v) w)(_:uG n b.toList 0=J i:=by rfl)(hi:BX l i=J e:=by rfl)(k:Region.noSelect l.toArray=true:=by kernel_rfl)(m:Region.free f l.toArray b i=true:=by kernel_rfl)(o:(Region.ready f l.toArray b).contains i=true:=by kernel_rfl)(p:∀c a w,Q (.panic c) (a.put e.dst v) w->Q (.panic c) a w:=by exact fun _ _ _ h=>h)(g:Region.wanted e (yielded l.toArray a.tmps)=true:=by rfl)(q:∀w,S w->(execOp a.eval e).run P w=.ok (.value v) w:=by(intro w g;(try dsimp only at g);go_simp;with_reducible rfl)):wpAnyH P f l.toArray Q S (d+1) b a w:=
 TF i hi k m o p g q j h
theorem wJ {P l Q e S}(n){i f d b a w}(g:S w)(h:wpAnyH P e l.toArray Q S d (b.setIfInBounds i true) (a.put f.dst undef) w)(_:uG n b.toList 0=J i:=by rfl)(hi:BX l i=J f:=by rfl)(j:Region.noSelect l.toArray=true:=by kernel_rfl)(k:Region.free e l.toArray b i=true:=by kernel_rfl)(m:(Region.ready e l.toArray b).contains i=true:=by kernel_rfl)(o:∀c a w,Q (.panic c) (a.put f.dst undef) w->Q (.panic c) a w:=by exact fun _ _ _ h=>h)(p:Region.wanted f (yielded l.toArray a.tmps)=false:=by rfl):wpAnyH P e l.toArray Q S (d+1) b a w:=
 wpAnyH_take ((K9 l i).trans hi) j k m o (y1 ⟨p,rfl⟩) g h
theorem B8 {ts i a b}(h:Zn (Zo ts i) Y1=false):XT ts i a b=.ok (b,i):=by
 rw[XT,dif_neg (by simp[h])]
theorem DZ {ts i a b l}(h:Zn (Zo ts i) Y1=true)(c:Z8 ts (i+1) a=.error l):XT ts i a b=.error l:=by
 rw[XT,dif_pos h];split<;>simp_all
theorem B9 {ts i a b t c}(h:Zn (Zo ts i) Y1=true)(d:Z8 ts (i+1) a=.ok (t,c)):XT ts i a b=XT ts c a (b++[t]):=by
 rw[XT,dif_pos h];split<;>simp_all
theorem Nh (w p g cap ts)(i b:Nat)(i1:Int)(h:Pa w p g cap ts i)(hw:b≠3)(e1:i1=b):
  G O 231 #[D (J ⟨p,0,I⟩),Y Z i1] w (Zm (Xk ts i b) (fun l v w'=>w'.ownsRow w.heap.size 263 3 v l.length (Yr l)) w p g cap ts):=by
 subst e1;have HP:=Za h;have n0:p<w.heap.size:=bL w _ h.c0;have k0:ts.length<=4000:=h.few;obtain⟨ii,hi,Q,R,T⟩:=info_parts UQ;go_enter Tryz.func231,Tryz.ntmps231;go_wp2_with fail;refine(VJ _ p g cap ts i b _ HP.o hw (by rfl)).mono ?_;intro e w1 y
 cases z:Z8 ts i b with
 |error l=>
  obtain⟨A,f⟩:=(Zm.err z).1 y;unfold Zj at A;subst A;exact⟨rfl,(Zm.err (by unfold Xk;rw[z])).2 ⟨rfl,f⟩⟩
 |ok r=>
  obtain⟨a,N⟩:=r;obtain⟨⟨v,rfl,rfl⟩,V,f⟩:=(Zm.ok z).1 y;have W:=Za V;have B:=Za f
  have a0:L (Xk ts i b=XT ts N b [a]):=by show _=_;unfold Xk;rw[z]
  have o0:=(Ys z).2.2
  have HJ:L (1<=N):=by show _<=_;omega
  simp only[R8];go_wp2_with fail
  go_loopg [5] (ts.length-N) (fun m l wr=>∃j d,m=ts.length-j/\L (Pa wr p g cap ts j)/\L (Fr (fun k=>k=p) w wr)/\L (wr.ownsRow w.heap.size 263 3 l d.length (Yr d))/\L (d.length<=j)/\L (Xk ts i b=XT ts j b d))
  case atStart=>
   refine⟨N,[a],rfl,W.o.fr (S:=fun _=>False) (Zt.alloc _),B.o.alloc _,?_,HJ.o,a0.o⟩;exact World.ownsRow_lit (base:=w.heap.size) w1 #[Y Z a.sort,U a.text,Y Z a.line] 1 B.o.size (by unfold maxLen;decide) rfl
  obtain⟨j,d,rfl,q,C,HO,HL,HR⟩:=hrel
  cases P:Zn (Zo ts j) Y1 with
  |false=>
   go_wp2_with fail;refine(Qy wr p g cap ts j _ Y1 q.o q.o.at P).mono ?_;rintro e w2 ⟨rfl,f⟩;have n:=Za f;go_wp2;go_ret;exact(Zm.ok (HR.o.trans (B8 P))).2 ⟨⟨_,rfl,oF HO.o n.o⟩,q.o.fr n.o,C.o.trans (n.o.mono)⟩
  |true=>
   go_wp2_with fail;refine(SI wr p g cap ts j _ Y1 q.o q.o.at P).mono ?_;rintro e w2 ⟨rfl,E,f⟩;have b0:=Za E;have n:=Za (C.o.trans f);have d0:=Za (oF HO.o f (fun k u=>by omega));have F:=Za P;have p0:j+1<ts.length:=E.lt;go_wp2_with fail;refine(VJ _ p g cap ts (j+1) b _ b0.o hw (by rfl)).mono ?_;intro e w3 y
   cases s:Z8 ts (j+1) b with
   |error l=>
    obtain⟨A,f⟩:=(Zm.err s).1 y;unfold Zj at A;subst A;exact⟨rfl,(Zm.err (HR.o.trans (DZ F.o s))).2 ⟨rfl,n.o.trans f⟩⟩
   |ok r=>
    obtain⟨c,j3⟩:=r;obtain⟨⟨v,rfl,rfl⟩,e0,f⟩:=(Zm.ok s).1 y;have f0:=Za e0;have H:=Za (n.o.trans f);have K:=Za (oF d0.o f (fun k u=>by omega));have q0:=(Ys s).2.2;have g0:=Za (HR.o.trans (B9 F.o s));have l0:=HL.o;simp only[R8]
    go_wp2_with (at_builtin;refine wpList_append_lies _ rfl (.tmp 12) (.tmp 16) 193 rfl w.heap.size 263 ii _ 3 32 Tryz.underlying193 hi Q R T rfl (by decide) _ d.length (Yr d) rfl ?h1 ⟨w3.heap.size,0,I⟩ 1 1 [Y Z c.sort,U c.text,Y Z c.line] rfl rfl ?h2 ?h3 (by decide) ?h4 ?h5 ?h6 _ rfl ?_)
    case h1=>exact K.o.alloc _
    case h2=>exact z2 (aN w3 _)
    case h3=>simp[z6]
    case h4=>unfold maxLen;omega
    case h5=>omega
    case h6=>simp;have:=H.o.size;omega
    intro g2 m0 w4 M t _ _;have h0:=Za M
    have x:∀k,u5.ownBlock=J k->w.heap.size<=k:=fun k u=>(K.o.lt k u).1
    have i0:=Za ((H.o.alloc _).grown t (fun k u=>y1 (x k u)));have r0:=HP.o.gl;have j0:=Za (f0.o.fr (S:=fun k=>w.heap.size<=k) ((Zt.alloc _).grown t (fun k u=>X (x k u))) (fun k u=>by omega));go_wp2;go_roundg (ts.length-j3)
    case measure=>omega
    refine⟨j3,d++[c],rfl,j0.o,i0.o,?_,?_,g0.o⟩
    ·show World.ownsRow _ _ _ _ _ _ _
     rw[T4,lA];exact h0.o
    show _<=_
    simp;omega
def YT {α β:Type}(r:Except Nat (α×Nat))(f:α->Nat->Except Nat (β×Nat)):Except Nat (β×Nat):=
 match r with
 | .error l=>.error l
 | .ok (a,i)=>f a i
theorem Zh {α β r}{f:α->Nat->Except Nat (β×Nat)}{a i}(h:r=.ok (a,i)):YT r f=f a i:=by rw[h];rfl
theorem Yb {α β r}{f:α->Nat->Except Nat (β×Nat)}{l}(h:r=.error l):YT r f=.error l:=by rw[h];rfl
structure Ni where
 name:Tk
 base:Tk
 rate:Tk
structure D0 where
 decline:Bool
 cheapest:Bool
 routes:List Tk
structure Qz where
 name:Tk
 rank:Tk
 bin:Tk×Tk
 mcc:List Tk
 amount:Option (Tk×Tk)
 cur:List Tk
 act:D0
inductive Vr where
 |route (r:Ni)
 |rule (r:Qz)
def WG (ts:List Tk)(i:Nat):Except Nat (Ni×Nat):=
 YT (Z8 ts i 0) fun name i=>YT (Z8 ts i 1) fun base i=>YT (Z8 ts i 1) fun a i=>.ok (⟨name,base,a⟩,i)
def Xg (ts:List Tk)(i:Nat)(kw:ByteArray):Except Nat (List Tk×Nat):=if Zn (Zo ts i) kw then Xk ts (i+1) 1 else .ok ([],i)
def Wp (ts:List Tk)(i:Nat)(kw:ByteArray):Except Nat (Option (Tk×Tk)×Nat):=if Zn (Zo ts i) kw then YT (UR ts (i+1)) fun a i=>.ok (J a,i)else .ok (I,i)
def Xh (ts:List Tk)(i:Nat):Except Nat (D0×Nat):=
 if Zn (Zo ts i) YL then .ok (⟨true,false,[]⟩,i+1)
 else if Zn (Zo ts i) Yi then YT (Xk ts (i+1) 0) fun l i=>.ok (⟨false,true,l⟩,i)
 else YT (Xk ts i 0) fun l i=>.ok (⟨false,false,l⟩,i)
def Wg (ts:List Tk)(i:Nat):Except Nat (Qz×Nat):=
 YT (Z8 ts i 0) fun name i=>YT (Z8 ts i 1) fun b i=>YT (ZE ts i Tv) fun _ i=>YT (ZE ts i RD) fun _ i=>
 YT (UR ts i) fun c i=>YT (Xg ts i W7) fun d i=>YT (Wp ts i Z6) fun a i=>YT (Xg ts i Vw) fun e i=>
 YT (ZE ts i T5) fun _ i=>YT (Xh ts i) fun f i=>.ok (⟨name,b,c,d,a,e,f⟩,i)
def ZU (ts:List Tk)(i:Nat):Except Nat (Vr×Nat):=
 if Zn (Zo ts i) WU then YT (WG ts (i+1)) fun r i=>.ok (.route r,i)
 else YT (ZE ts i Ub) fun _ i=>YT (Wg ts i) fun r i=>.ok (.rule r,i)
theorem Yl {w:N}{g a t}(h:w.heap[g]?=J (A a t))(j u):(w.setCell ⟨g,j,I⟩ u).heap[g]?=J (A (a.setIfInBounds j u) t):=by
 simp[World.setCell,Array.getElem?_modify,h]
theorem SJ (w:N)(a b):((w.alloc a).alloc b).heap[w.heap.size+1]?=J b:=by
 have h:(w.alloc a).heap.size=w.heap.size+1:=by simp
 rw[<-h];exact aN _ _
def UE (w:N)(g j:Nat)(t:Tk):N:=((w.setCell ⟨g,j,I⟩ (Y Z t.sort)).setCell ⟨g,j+1,I⟩ (U t.text)).setCell ⟨g,j+2,I⟩ (Y Z t.line)
theorem Wq (w g j t):Fr (fun k=>k=g) w (UE w g j t):=
  (((Fr.refl (fun k=>k=g) w).setCell (p:=⟨g,j,I⟩) (X rfl) _).setCell (p:=⟨g,j+1,I⟩) (X rfl) _).setCell (p:=⟨g,j+2,I⟩) (X rfl) _
theorem Vy {w g a t}(h:w.heap[g]?=J (A a t))(j x):
  (UE w g j x).heap[g]?=J (A (((a.setIfInBounds j (Y Z x.sort)).setIfInBounds (j+1) (U x.text)).setIfInBounds (j+2) (Y Z x.line)) t):=
 Yl (Yl (Yl h j _) (j+1) _) (j+2) _
def UT (r:Ni):z4:=y9 #[Y Z r.name.sort,U r.name.text,Y Z r.name.line,Y Z r.base.sort,U r.base.text,Y Z r.base.line,Y Z r.rate.sort,U r.rate.text,Y Z r.rate.line]
def ER:Array z4:=#[Y Z 0,U ⟨#[]⟩,Y Z 0,Y Z 0,U ⟨#[]⟩,Y Z 0,Y Z 0,U ⟨#[]⟩,Y Z 0]
theorem D2 (w p g cap ts i)(h:Pa w p g cap ts i):
    G O 192 #[D (J ⟨p,0,I⟩)] w (Zm (WG ts i) (fun r v _=>v=UT r) w p g cap ts):=by
  have HP:L (Pa w p g cap ts i):=h;have i0:p<w.heap.size:=bL w _ h.c0;have j0:g<w.heap.size:=h.gl;go_enter Tryz.func192,Tryz.ntmps192;go_wp2_with fail;refine(VJ _ p g cap ts i 0 _ (HP.o.fr (S:=fun _=>False) ((Zt.alloc _).alloc _)) (by decide) (by rfl)).mono ?_;intro e s u
  cases m:Z8 ts i 0 with
  | error l=>
    obtain⟨x,j⟩:=(Zm.err m).1 u;unfold Zj at x;subst x;exact⟨rfl,(Zm.err (by unfold WG;rw[Yb m])).2 ⟨rfl,((Zt.alloc _).alloc _).trans j⟩⟩
  | ok r=>
    obtain⟨a,y⟩:=r;obtain⟨⟨v,rfl,rfl⟩,F,j⟩:=(Zm.ok m).1 u;have H:L (Pa s p g cap ts y):=F;have K:L (Fr (fun k=>k=p) w s):=((Zt.alloc _).alloc _).trans j;have M:L (s.heap[w.heap.size]?=J (A ER 290)):=j.whole (((Fr.refl (fun _=>False) _).alloc _).whole (aN w _)) (by omega);have n:L (s.heap[w.heap.size+1]?=J (A ER 290)):=j.whole (SJ w _ _) (by omega);have N:L (Z8 ts i 0=.ok (a,y)):=m;have e0:=Zc n.o 0;have e1:=Zc n.o 1;have e2:=Zc n.o 2;have ef:=bF n.o;simp only[R8];go_wp2_with fail
    change G _ _ _ (UE s (w.heap.size+1) 0 a) _
    have P:L (Pa (UE s (w.heap.size+1) 0 a) p g cap ts y):=H.o.fr (Wq _ _ _ _) (fun k t=>by omega);have B:L (Fr (fun k=>k=p) w (UE s (w.heap.size+1) 0 a)):=K.o.monoNew (Wq _ _ _ _) (fun k t=>by omega);have Q:L ((UE s (w.heap.size+1) 0 a).heap[w.heap.size+1]?=J (A #[Y Z a.sort,U a.text,Y Z a.line,Y Z 0,U ⟨#[]⟩,Y Z 0,Y Z 0,U ⟨#[]⟩,Y Z 0] 290)):=Vy n.o 0 a;have R:L ((UE s (w.heap.size+1) 0 a).heap[w.heap.size]?=J (A ER 290)):=(Wq _ _ _ _).whole M.o (by omega);generalize UE s (w.heap.size+1) 0 a=k0 at*;refine(VJ _ p g cap ts y 1 _ P.o (by decide) (by rfl)).mono ?_;intro e w2 u
    cases m:Z8 ts y 1 with
    | error l=>
      obtain⟨x,j⟩:=(Zm.err m).1 u;unfold Zj at x;subst x;exact⟨rfl,(Zm.err (by unfold WG;rw[Zh N.o,Yb m])).2 ⟨rfl,B.o.trans j⟩⟩
    | ok r=>
      obtain⟨b,z⟩:=r;obtain⟨⟨v,rfl,rfl⟩,T,j⟩:=(Zm.ok m).1 u;have V:L (Pa w2 p g cap ts z):=T;have W:L (Fr (fun k=>k=p) w w2):=B.o.trans j;have X:L (w2.heap[w.heap.size]?=_):=j.whole R.o (by omega);have q:L (w2.heap[w.heap.size+1]?=_):=j.whole Q.o (by omega);have hB:L (Z8 ts y 1=.ok (b,z)):=m;have e3:=Zc q.o 3;have e4:=Zc q.o 4;have e5:=Zc q.o 5;have ef:=bF q.o;simp only[R8];go_wp2_with fail
      change G _ _ _ (UE w2 (w.heap.size+1) 3 b) _
      have a0:L (Pa (UE w2 (w.heap.size+1) 3 b) p g cap ts z):=V.o.fr (Wq _ _ _ _) (fun k t=>by omega);have C:L (Fr (fun k=>k=p) w (UE w2 (w.heap.size+1) 3 b)):=W.o.monoNew (Wq _ _ _ _) (fun k t=>by omega);have b0:L ((UE w2 (w.heap.size+1) 3 b).heap[w.heap.size+1]?=J (A #[Y Z a.sort,U a.text,Y Z a.line,Y Z b.sort,U b.text,Y Z b.line,Y Z 0,U ⟨#[]⟩,Y Z 0] 290)):=Vy q.o 3 b;have d0:L ((UE w2 (w.heap.size+1) 3 b).heap[w.heap.size]?=J (A ER 290)):=(Wq _ _ _ _).whole X.o (by omega);generalize UE w2 (w.heap.size+1) 3 b=l0 at*;refine(VJ _ p g cap ts z 1 _ a0.o (by decide) (by rfl)).mono ?_;intro e E u
      cases m:Z8 ts z 1 with
      | error l=>
        obtain⟨x,j⟩:=(Zm.err m).1 u;unfold Zj at x;subst x;exact⟨rfl,(Zm.err (by unfold WG;rw[Zh N.o,Zh hB.o,Yb m])).2 ⟨rfl,C.o.trans j⟩⟩
      | ok r=>
        obtain⟨c,i3⟩:=r;obtain⟨⟨v,rfl,rfl⟩,f0,j⟩:=(Zm.ok m).1 u;have g0:L (Pa E p g cap ts i3):=f0;have h0:L (Fr (fun k=>k=p) w E):=C.o.trans j;have d:=j.whole d0.o (by omega);have f:=j.whole b0.o (by omega);have hC:L (Z8 ts z 1=.ok (c,i3)):=m;have e0:=bC f 0 _ rfl;have r0:=bC d 0 _ rfl;have e1:=bC f 1 _ rfl;have r1:=bC d 1 _ rfl;have e2:=bC f 2 _ rfl;have r2:=bC d 2 _ rfl;have e3:=bC f 3 _ rfl;have r3:=bC d 3 _ rfl;have e4:=bC f 4 _ rfl;have r4:=bC d 4 _ rfl;have e5:=bC f 5 _ rfl;have r5:=bC d 5 _ rfl;have e6:=bC f 6 _ rfl;have r6:=bC d 6 _ rfl;have e7:=bC f 7 _ rfl;have r7:=bC d 7 _ rfl;have e8:=bC f 8 _ rfl;have r8:=bC d 8 _ rfl;have ef:=bF f;have rf:=bF d;simp only[R8]
        have m0:¬w.heap.size+1=w.heap.size:=by omega
        go_wp2
        have hW:Fr (fun k=>w.heap.size<=k) E (UE (UE (UE (UE E (w.heap.size+1) 6 c) w.heap.size 0 a) w.heap.size 3 b) w.heap.size 6 c):=
          ((((Wq E (w.heap.size+1) 6 c).mono (fun k t=>by omega)).trans ((Wq _ w.heap.size 0 a).mono (fun k t=>by omega))).trans ((Wq _ w.heap.size 3 b).mono (fun k t=>by omega))).trans ((Wq _ w.heap.size 6 c).mono (fun k t=>by omega))
        exact bodyPost_ret (v:=UT ⟨a,b,c⟩) (by simp[results,Tryz.results192,go_sem,UT, *]) rfl ((Zm.ok (by unfold WG;rw[Zh N.o,Zh hB.o,Zh hC.o])).2 ⟨⟨_,rfl,rfl⟩,g0.o.fr hW (fun k t=>by omega),h0.o.monoNew hW (fun k t=>by omega)⟩)
theorem QA (w p g cap ts i m)(h:Pa w p g cap ts i):
  G O 191 #[D (J ⟨p,0,I⟩),U m] w fun e w'=>e=H (M (Zn (Zo ts i) m))/\Pa w' p g cap ts (if Zn (Zo ts i) m then i+1 else i)/\Fr (fun k=>k=p) w w':=by
 cases b:Zn (Zo ts i) m with
 |true=>exact(SI w p g cap ts i _ m h h.at b).mono fun e w' a=>a
 |false=>exact(Qy w p g cap ts i _ m h h.at b).mono fun e w' a=>⟨a.1,h.fr a.2,a.2.mono⟩
theorem ZB {w:N}{base e b v n d}(h:w.ownsRow base e b v n d):∃a n c,v=z1 a n c:=by
 rcases h.2 with⟨rfl,_⟩|⟨g,cap,f,rfl,_⟩
 ·exact⟨_,_,_,rfl⟩
 exact⟨_,_,_,rfl⟩
theorem Nj {a:Array z4}{j u}(h:a[j]?=J u):a.setIfInBounds j u=a:=by
 apply Array.ext
 ·simp
 intro k d f
 by_cases e:j=k
 ·subst e
  obtain⟨b,c⟩:=iA.1 h;simp[c]
 rw[Array.getElem_setIfInBounds_ne _ e]
def RE (r:Except Nat (D0×Nat))(w:N)(p g cap:Nat)(ts:List Tk)(E:Nat)(b:Array z4)(e:Ending)(w':N):Prop:=
 match r with
 | .ok (a,i)=>e=H (.tuple #[])/\(∃v,w'.heap[E]?=J (A (((b.setIfInBounds 21 (M a.decline)).setIfInBounds 22 (M a.cheapest)).setIfInBounds 23 v) 295)/\w'.ownsRow w.heap.size 263 3 v a.routes.length (Yr a.routes))/\Pa w' p g cap ts i/\Fr (fun k=>k=p\/k=E) w w'
 | .error l=>e=Zj 3 l/\Fr (fun k=>k=p\/k=E) w w'
theorem RE.ok {r w p g cap ts E b e w' a i}(c:r=.ok (a,i)):
  RE r w p g cap ts E b e w'↔e=H (.tuple #[])/\(∃v,w'.heap[E]?=J (A (((b.setIfInBounds 21 (M a.decline)).setIfInBounds 22 (M a.cheapest)).setIfInBounds 23 v) 295)/\w'.ownsRow w.heap.size 263 3 v a.routes.length (Yr a.routes))/\Pa w' p g cap ts i/\Fr (fun k=>k=p\/k=E) w w':=by subst c;exact Iff.rfl
theorem RE.err {r w p g cap ts E a e w' l}(b:r=.error l):
  RE r w p g cap ts E a e w'↔e=Zj 3 l/\Fr (fun k=>k=p\/k=E) w w':=by subst b;exact Iff.rfl
theorem G3 (w p g cap ts i E b)(h:Pa w p g cap ts i)(hE:w.heap[E]?=J (A b 295))(m:E≠p)(f0:E≠g)(N:b[21]?=J (M false))(P:b[22]?=J (M false))(Q:b[23]?=J (z1 I 0 0)):
  G O 232 #[D (J ⟨p,0,I⟩),D (J ⟨E,0,I⟩)] w (RE (Xh ts i) w p g cap ts E b):=by
 have y:=Za h;have g0:p<w.heap.size:=bL w _ h.c0;have h0:g<w.heap.size:=h.gl;have HE:=Za hE;have z:=Za N;have B:=Za P;have C:=Za Q;have i0:E<w.heap.size:=(iA.1 hE).1
 cases H:Zn (Zo ts i) YL with
 |true=>
  go_enter Tryz.func232,Tryz.ntmps232;go_wp2_with fail;refine(SI w p g cap ts i _ YL y.o y.o.at H).mono ?_;rintro e F ⟨rfl,R,c⟩;have n:=Za R;have q:=Za c;have d:=Za (c.whole HE.o m);have j0:=bC d.o 21 _ z.o;have ef:=bF d.o;go_wp2;refine bodyPost_ret (results_none rfl _ _ _) rfl ?_;have f:Fr (fun k=>k=E) F (F.setCell ⟨E,21,I⟩ (M true)):=(Fr.refl (fun k=>k=E) F).setCell (p:=⟨E,21,I⟩) (X rfl) _;refine(RE.ok (by unfold Xh;rw[if_pos H])).2 ⟨rfl,⟨z1 I 0 0,?_,oZ _ _ _ _⟩,n.o.fr f (fun k a=>by omega),(q.o.mono (fun k a=>X a)).trans (f.mono (fun k a=>y1 a))⟩;have S:((b.setIfInBounds 21 (M true)).setIfInBounds 22 (M false))=b.setIfInBounds 21 (M true):=Nj (by rw[Array.getElem?_setIfInBounds_ne (by decide)];exact B.o);have e2:((b.setIfInBounds 21 (M true)).setIfInBounds 23 (z1 I 0 0))=b.setIfInBounds 21 (M true):=Nj (by rw[Array.getElem?_setIfInBounds_ne (by decide)];exact C.o)
  show _=J (Obj.cells (((b.setIfInBounds 21 (M true)).setIfInBounds 22 (M false)).setIfInBounds 23 (z1 I 0 0)) _)
  rw[S,e2];exact Yl d.o 21 _
 |false=>
  have hM:L (Xh ts i=YT (Xk ts (if Zn (Zo ts i) Yi then i+1 else i) 0) fun l k=>.ok (⟨false,Zn (Zo ts i) Yi,l⟩,k)):=by
   show _=_
   unfold Xh;rw[if_neg (by simp[H])]
   cases Zn (Zo ts i) Yi<;>rfl
  go_enter Tryz.func232,Tryz.ntmps232;go_wp2_with fail;refine(Qy w p g cap ts i _ YL y.o y.o.at H).mono ?_;rintro e F ⟨rfl,c⟩;have n:=Za (y.o.fr c);have q:=Za c;have d:=Za (c.whole HE.o);go_wp2_with fail;refine(QA F p g cap ts i Yi n.o).mono ?_;rintro e w2 ⟨rfl,T,c⟩;generalize Zn (Zo ts i) Yi=x at*;generalize(if x=true then i+1 else i)=i2 at*;have U:=Za T;have V:=Za ((q.o.mono).trans c);have s:=Za (c.whole d.o m);have k0:=bC s.o 22 _ B.o;have ef:=bF s.o;go_wp2_with fail;have f:Fr (fun k=>k=E) w2 (w2.setCell ⟨E,22,I⟩ (M x)):=(Fr.refl (fun k=>k=E) w2).setCell (p:=⟨E,22,I⟩) (X rfl) _;have W:=Za (U.o.fr f (fun k a=>by omega));have t:=Za ((V.o.mono (fun k a=>X a)).trans (f.mono (fun k a=>y1 a)));have Y:L ((w2.setCell ⟨E,22,I⟩ (M x)).heap[E]?=J (A (b.setIfInBounds 22 (M x)) 295)):=Yl s.o 22 _;generalize w2.setCell ⟨E,22,I⟩ (M x)=w3 at*;refine(Nh w3 p g cap ts i2 0 _ W.o (by decide) (by rfl)).mono ?_;intro e Z hT
  cases K:Xk ts i2 0 with
  |error l=>
   obtain⟨he,c⟩:=(Zm.err K).1 hT;unfold Zj at he;subst he;exact⟨rfl,(RE.err (hM.o.trans (Yb K))).2 ⟨rfl,t.o.trans (c.mono (fun k a=>X a))⟩⟩
  |ok r=>
   obtain⟨l,i4⟩:=r;obtain⟨⟨v,rfl,j⟩,a0,c⟩:=(Zm.ok K).1 hT;obtain⟨va,vn,vc,rfl⟩:=ZB j;have b0:=Za a0;have d0:=Za (t.o.trans (c.mono (fun k a=>X a)));have u:=Za (c.whole Y.o m);have HO:=Za j;have e0:=Za K;have l0:=bC u.o 23 (z1 I 0 0) (by rw[Array.getElem?_setIfInBounds_ne (by decide)];exact C.o);have ef:=bF u.o;have m0:=t.o.size;go_wp2
   go_end0
   have f:Fr (fun k=>k=E) Z (Z.setCell ⟨E,23,I⟩ (z1 va vn vc)):=(Fr.refl (fun k=>k=E) Z).setCell (p:=⟨E,23,I⟩) (X rfl) _;refine(RE.ok (hM.o.trans (Zh e0.o))).2 ⟨rfl,⟨z1 va vn vc,?_,?_⟩,b0.o.fr f (fun k a=>by omega),d0.o.trans (f.mono (fun k a=>y1 a))⟩
   ·have S:(b.setIfInBounds 21 (M false))=b:=Nj z.o
    show _=J (Obj.cells (((b.setIfInBounds 21 (M false)).setIfInBounds 22 (M x)).setIfInBounds 23 (z1 va vn vc)) _)
    rw[S];exact Yl u.o 23 _
   exact oS (oF HO.o f (fun k a=>by omega)) (by omega)
theorem bI {α β}{r:Except Nat (α×Nat)}{f}{b:β}{k}(h:YT r f=.ok (b,k)):∃a j,r=.ok (a,j)/\f a j=.ok (b,k):=by
 unfold YT at h
 split at h
 ·cases h
 exact⟨_,_,rfl,h⟩
theorem Yt {ts i m u a}(h:ZE ts i m=.ok (u,a)):a=i+1:=by
 unfold ZE at h
 split at h
 ·injection h with h;injection h with c b;exact b.symm
 cases h
theorem WH (ts i):UR ts i=YT (Z8 ts i 1) fun a i=>YT (ZE ts i V8) fun _ i=>YT (Z8 ts i 1) fun b i=>.ok ((a,b),i):=by
 unfold UR YT
 cases Z8 ts i 1 with
 |error l=>rfl
 |ok r=>
  obtain⟨a,c⟩:=r
  dsimp only
  cases ZE ts c V8 with
  |error l=>rfl
  |ok r=>
   obtain⟨u,d⟩:=r
   dsimp only
   cases Z8 ts d 1 with
   |error l=>rfl
   |ok r=>rfl
theorem Id {ts i c k}(h:UR ts i=.ok (c,k)):i<k:=by
 rw[WH]at h;obtain⟨a,g,d,h⟩:=bI h;obtain⟨_,j,e,h⟩:=bI h;obtain⟨b,l,f,h⟩:=bI h;have m:=(Ys d).2.2;have n:=Yt e;have o:=(Ys f).2.2;injection h with h;injection h with _ h;omega
theorem Aa {ts a}:∀n i b l k,ts.length-i=n->XT ts i a b=.ok (l,k)->i<=k:=by
 intro n
 induction n using Nat.strongRecOn with
 |ind n d=>
  intro i b l k m h;rw[XT]at h
  split at h
  ·rename_i f
   have g:=Um f
   split at h
   ·cases h
   rename_i t c j
   have e:=(Ys j).2.2;have:=d (ts.length-c) (by omega) c _ l k rfl h;omega
  injection h with h;injection h with _ h;omega
theorem Nk {ts i a l k}(h:Xk ts i a=.ok (l,k)):i<k:=by
 unfold Xk at h
 split at h
 ·cases h
 rename_i t b c
 have e:=(Ys c).2.2;have:=Aa _ b [t] l k rfl h;omega
theorem Nl {ts i kw l k}(h:Xg ts i kw=.ok (l,k)):i<=k:=by
 unfold Xg at h
 split at h
 ·have:=Nk h;omega
 injection h with h;injection h with _ h;omega
theorem G4 {ts i kw l k}(h:Wp ts i kw=.ok (l,k)):i<=k:=by
 unfold Wp at h
 split at h
 ·obtain⟨c,j,b,a⟩:=bI h
  have:=Id b;injection a with a;injection a with _ a;omega
 injection h with h;injection h with _ h;omega
theorem G5 {ts i a k}(h:Xh ts i=.ok (a,k)):i<k:=by
 unfold Xh at h
 split at h
 ·injection h with h;injection h with _ h;omega
 split at h
 ·obtain⟨l,j,c,b⟩:=bI h
  have:=Nk c;injection b with b;injection b with _ b;omega
 obtain⟨l,j,c,b⟩:=bI h
 have:=Nk c;injection b with b;injection b with _ b;omega
theorem D3 {ts i r k}(h:WG ts i=.ok (r,k)):i<k:=by
 unfold WG at h;obtain⟨a,g,d,h⟩:=bI h;obtain⟨b,j,e,h⟩:=bI h;obtain⟨c,l,f,h⟩:=bI h;have m:=(Ys d).2.2;have n:=(Ys e).2.2;have o:=(Ys f).2.2;injection h with h;injection h with _ h;omega
theorem Ab {ts i r k}(h:Wg ts i=.ok (r,k)):i<k:=by
 unfold Wg at h;obtain⟨a,x,j,h⟩:=bI h;obtain⟨b,y,l,h⟩:=bI h;obtain⟨_,z,m,h⟩:=bI h;obtain⟨_,A,n,h⟩:=bI h;obtain⟨c,B,o,h⟩:=bI h;obtain⟨d,C,p,h⟩:=bI h;obtain⟨f,D,q,h⟩:=bI h;obtain⟨g,E,s,h⟩:=bI h;obtain⟨_,F,t,h⟩:=bI h;obtain⟨u,v,e,h⟩:=bI h;have G:=(Ys j).2.2;have H:=(Ys l).2.2;have I:=Yt m;have J:=Yt n;have K:=Id o;have L:=Nl p;have M:=G4 q;have N:=Nl s;have O:=Yt t;have w:=G5 e;injection h with h;injection h with _ h;omega
theorem WV {ts i e k}(h:ZU ts i=.ok (e,k)):i<k:=by
 unfold ZU at h
 split at h
 ·obtain⟨r,j,b,a⟩:=bI h
  have:=D3 b;injection a with a;injection a with _ a;omega
 obtain⟨_,j,b,h⟩:=bI h
 obtain⟨r,c,a,h⟩:=bI h;have:=Yt b;have:=Ab a;injection h with h;injection h with _ h;omega
def Zr (ts:List Tk)(i:Nat)(a:List Vr):Except Nat (List Vr×Nat):=
 if _hs:(Zo ts i).sort=3 then .ok (a,i)
 else match _he:ZU ts i with
  | .error l=>.error l
  | .ok (e,j)=>match _hx:ZE ts j Va with
   | .error l=>.error l
   | .ok (_,k)=>Zr ts k (a++[e])
 termination_by ts.length-i
 decreasing_by
  have c:=WV _he;have d:=Yt _hx
  have f:i<ts.length:=by
   rcases y0 i ts.length with b|b
   ·exact b
   ·exfalso
    apply _hs;unfold Zo;rw[gD,y5 b];rfl
  omega
theorem XA {ts i a}(h:(Zo ts i).sort=3):Zr ts i a=.ok (a,i):=by
 rw[Zr,dif_pos h]
theorem YJ {ts i a l}(h:¬(Zo ts i).sort=3)(b:ZU ts i=.error l):Zr ts i a=.error l:=by
 rw[Zr,dif_neg h];split<;>simp_all
theorem Y8 {ts i a l e j}(h:¬(Zo ts i).sort=3)(b:ZU ts i=.ok (e,j))(c:ZE ts j Va=.error l):Zr ts i a=.error l:=by
 rw[Zr,dif_neg h]
 split
 ·simp_all
 split<;>simp_all
theorem X3 {ts i a e j u k}(h:¬(Zo ts i).sort=3)(b:ZU ts i=.ok (e,j))(c:ZE ts j Va=.ok (u,k)):Zr ts i a=Zr ts k (a++[e]):=by
 rw[Zr,dif_neg h]
 split
 ·simp_all
 split<;>simp_all
structure Z3 where
 d:Nat
 x:Nat
def Z3.longer (p:Z3)(k:Nat):Z3:=⟨p.d+1,p.x*10+k⟩
def Z3.holds (p q:Z3):Bool:=decide (p.d<=q.d)&&(q.x/10^(q.d-p.d)==p.x)
def So (a hi:Nat):Nat->Nat->Nat
 |0,k=>k
 |n+1,k=>if a/10^k % 10=0/\a+10^(k+1)<=hi+1 then So a hi n (k+1)else k
def SB (a hi:Nat):Nat:=So a hi 9 0
def Ym (d hi:Nat):Nat->Nat->List Z3
 |0,_=>[]
 |n+1,low=>if low<=hi then⟨d-SB low hi,low/10^SB low hi⟩::Ym d hi n (low+10^SB low hi)else[]
def YP (d lo hi:Nat):List Z3:=Ym d hi (hi+1-lo) lo
def ZH (q:Z3):List Z3->Nat
 |[]=>0
 |p::r=>if p.holds q then 2 else if q.holds p then 1 else ZH q r
def YQ (q:Z3)(c:Nat):Prop:=c/10^(6-q.d)=q.x
def RF (d lo hi c:Nat):Prop:=lo<=c/10^(6-d)/\c/10^(6-d)<=hi
theorem Y4 (c a b):c/10^(a+b)=c/10^a/10^b:=by rw[Nat.pow_add,Nat.div_div_eq_div_mul]
theorem UJ {p q:Z3}:p.holds q=true↔p.d<=q.d/\q.x/10^(q.d-p.d)=p.x:=by
 unfold Z3.holds;simp
theorem Ie {p q c}(h:p.holds q=true)(e:q.d<=6)(a:YQ q c):YQ p c:=by
 obtain⟨f,b⟩:=UJ.1 h;unfold YQ at*;rw[show 6-p.d=(6-q.d)+(q.d-p.d)from by omega,Y4,a,b]
theorem ub {p q c}(b:YQ p c)(e:YQ q c)(a:p.d<=q.d)(f:q.d<=6):p.holds q=true:=by
 refine UJ.2 ⟨a,?_⟩;unfold YQ at*;rw[<-e,<-Y4,show(6-q.d)+(q.d-p.d)=6-p.d from by omega];exact b
def yE (a hi k:Nat):Prop:=10^k∣a/\a+10^k<=hi+1
theorem If {a hi k}(h:yE a hi k)(c:a/10^k % 10=0)(e:a+10^(k+1)<=hi+1):yE a hi (k+1):=by
 refine⟨?_,e⟩;obtain⟨m,d⟩:=h.1;have b:0<10^k:=y4 (by omega)
 have f:a/10^k=m:=by rw[d,y2 _ b]
 rw[f]at c;obtain⟨j,g⟩:10∣m:=Nat.dvd_of_mod_eq_zero c;exact⟨j,by rw[d,g,Nat.pow_succ,Nat.mul_assoc]⟩
theorem LZ {a hi:Nat}:∀(n k:Nat),yE a hi k->yE a hi (So a hi n k)
 |0,_,h=>h
 |n+1,k,h=>by
  unfold So
  split
  ·rename_i b
   exact LZ n (k+1) (If h b.1 b.2)
  exact h
theorem OZ {a hi}(h:a<=hi):yE a hi (SB a hi):=LZ 9 0 ⟨by simp,by simp;omega⟩
theorem T6 {a b}(h:10^a<=10^b):a<=b:=(Nat.pow_le_pow_iff_right (by omega)).1 h
theorem Ac {a hi d}(h:a<=hi)(b:hi<10^d):SB a hi<=d:=by
 have c:=(OZ h).2;exact T6 (by omega)
theorem Ig {d a hi c}(h:a<=hi)(i:hi<10^d)(o:d<=6):YQ ⟨d-SB a hi,a/10^SB a hi⟩ c↔a<=c/10^(6-d)/\c/10^(6-d)<a+10^SB a hi:=by
 have p:=Ac h i;obtain⟨m,j⟩:=(OZ h).1;generalize SB a hi=k at*;unfold YQ;have b:0<10^k:=y4 (by omega)
 show c/10^(6-(d-k))=a/10^k↔_
 rw[show 6-(d-k)=(6-d)+k from by omega,Y4,j,y2 _ b];generalize c/10^(6-d)=y
 constructor
 ·intro e
  have f:=Nat.div_add_mod y (10^k);have g:=Nat.mod_lt y b;rw[e]at f;omega
 rintro⟨f,g⟩
 have l:=f
 have n:y<10^k*(m+1):=by rw[Nat.mul_add,Nat.mul_one];exact g
 apply Nat.le_antisymm
 ·exact Nat.le_of_lt_succ ((Nat.div_lt_iff_lt_mul b).2 (by rw[y8];exact n))
 exact(Nat.le_div_iff_mul_le b).2 (by rw[y8];exact l)
theorem Un {d hi c:Nat}(g:hi<10^d)(i:d<=6){p:Z3}:∀(n a:Nat),p∈Ym d hi n a->p.d<=d/\(YQ p c->a<=c/10^(6-d)/\c/10^(6-d)<=hi)
 |0,_,h=>by simp[Ym]at h
 |n+1,a,h=>by
  unfold Ym at h
  split at h
  ·rename_i j
   rcases y6.1 h with e|h
   ·subst e
    refine⟨Nat.sub_le _ _,fun b=>?_⟩;have f:=(Ig j g i).1 b;have l:=(OZ j).2;omega
   have f:=Un g i n _ h (c:=c)
   have k:0<10^SB a hi:=y4 (by omega);exact⟨f.1,fun b=>by have:=f.2 b;omega⟩
  cases h
theorem P6 {d hi c:Nat}(e:hi<10^d)(f:d<=6):∀(n a:Nat),hi+1-a<=n->a<=c/10^(6-d)->c/10^(6-d)<=hi->∃p,p∈Ym d hi n a/\YQ p c
 |0,a,hn,h1,h2=>by omega
 |n+1,a,hn,h1,h2=>by
  have g:a<=hi:=by omega
  unfold Ym;rw[if_pos g];have h:0<10^SB a hi:=y4 (by omega);by_cases i:c/10^(6-d)<a+10^SB a hi
  ·exact⟨_,z7,(Ig g e f).2 ⟨h1,i⟩⟩
  obtain⟨p,j,b⟩:=P6 e f n (a+10^SB a hi) (by omega) (by omega) h2
  exact⟨p,z5 _ j,b⟩
theorem L0 {q:Z3}:∀{a:List Z3},ZH q a=2->∃p,p∈a/\p.holds q=true
 |[],h=>by simp[ZH]at h
 |p::r,h=>by
  unfold ZH at h
  split at h
  ·rename_i b;exact⟨p,z7,b⟩
  split at h
  ·omega
  obtain⟨c,d,e⟩:=L0 h
  exact⟨c,z5 _ d,e⟩
theorem L4 {q:Z3}:∀{c:List Z3},ZH q c=1->∃p,p∈c/\q.d<p.d
 |[],h=>by simp[ZH]at h
 |p::r,h=>by
  unfold ZH at h
  split at h
  ·omega
  rename_i g
  split at h
  ·rename_i i
   refine⟨p,z7,?_⟩;obtain⟨f,a⟩:=UJ.1 i;rcases y0 q.d p.d with b|j
   ·exact b
   exfalso
   have e:q.d=p.d:=by omega
   apply g;refine UJ.2 ⟨by omega,?_⟩;rw[e,Nat.sub_self,Nat.pow_zero,Nat.div_one]at a ⊢;exact a.symm
  obtain⟨k,f,a⟩:=L4 h
  exact⟨k,z5 _ f,a⟩
theorem Nm {q:Z3}:∀{c:List Z3},ZH q c=0->∀p,p∈c->p.holds q=false/\q.holds p=false
 |[],_,_,b=>by cases b
 |p::r,h,p',a=>by
  unfold ZH at h
  split at h
  ·omega
  rename_i b
  split at h
  ·omega
  rename_i d
  rcases y6.1 a with e|a
  ·subst e;exact⟨by simpa using b,by simpa using d⟩
  exact Nm h p' a
theorem L5 (q:Z3):∀a:List Z3,ZH q a<=2
 |[]=>by simp[ZH]
 |p::r=>by
  unfold ZH
  split
  ·omega
  split
  ·omega
  exact L5 q r
theorem D4 {d lo hi q}(a:hi<10^d)(b:d<=6)(e:q.d<=6)(h:ZH q (YP d lo hi)=2){c}(f:YQ q c):RF d lo hi c:=by
 obtain⟨p,g,i⟩:=L0 h;exact(Un a b _ _ g).2 (Ie i e f)
theorem G6 {d lo hi q}(f:hi<10^d)(g:d<=6)(k:q.d<=6)(h:ZH q (YP d lo hi)=0){c}(i:YQ q c):¬RF d lo hi c:=by
 rintro⟨l,m⟩;obtain⟨p,j,b⟩:=P6 f g (hi+1-lo) lo (R _) l m;have e:=Nm h p j;have n:=(Un (c:=c) f g _ _ j).1;rcases Nat.le_total p.d q.d with a|a
 ·rw[ub b i a k]at e;exact absurd e.1 (by simp)
 rw[ub i b a (by omega)]at e;exact absurd e.2 (by simp)
theorem Nn {d lo hi q}(a:hi<10^d)(b:d<=6)(h:ZH q (YP d lo hi)=1):q.d<d:=by
 obtain⟨p,e,f⟩:=L4 h;have:=(Un (c:=0) a b _ _ e).1;omega
