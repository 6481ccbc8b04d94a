import Derived.Test.YtccikgogjfbpeaaGreatDoorProg
import Derived.WalkKit
import Derived.WalkSpells
import Derived.WalkLawsBesides
import Derived.Test.YtccikgogjfbpeaaGreatDoorAa
import Derived.Deep.QuietTactic
import Derived.BigQuiet
import Derived.Deep.RegionHeld3
import Derived.Deep.AppendLies
import Derived.Maps.RangeWalk
import Derived.Deep.RegionWith
import Derived.Lib.Strings
import Derived.Deep.LoopGhost
import Derived.Deep.DeepCutAuto
import Derived.Lib.ConvBytes
import Derived.Shelf.LaysM
import Derived.Shelf.Strconv.Clone
set_option linter.defProp false
set_option maxRecDepth 30000
set_option maxHeartbeats 8000000
open Go.Value renaming int->I,string->Y,slice->H,bool->G,pointer->C,oneCell'->y2,agg->y9,ownBlock->k7
open Go.IntKind renaming i64->J,i64->j0
open Option renaming none->Z,some->U
open Go.Proofs.Tryz renaming prog->O
open Go.Ending renaming returned->D
open Go.RowKit renaming Hid->M
open Go.Obj renaming cells->N
open Go renaming World->R,Calls->L,Value->A
open Or renaming inl->z1,inr->y7
open Nat renaming le_refl->z2,zero_le->x3,lt_or_ge->q6,mul_div_cancel_left->q7,le_succ->v2,pow_pos->v6,le_trans->v8,strongRecOn->k5,zero_add->k9,pow_succ->g6,mul_comm->g7
open Go.World renaming news_of_block->z6,cell?_alloc_some->z8,cell?_alloc_lt->x5,ownsRow->q4,freeze->k0
open _root_.ByteArray renaming empty->z7
open Int renaming natCast_add->y5
open List renaming eq_nil_of_length_eq_zero->y6,take_of_length_le->x2,take_succ_eq_append_getElem->x4,mem_cons_of_mem->x6,getElem?_take->x7,mem_cons_self->x8,getD_eq_getElem?_getD->x9,getElem?_eq_none->v7,getElem?_drop->k4,mem_append->k6,mem_cons->k8,take->g8
open Go.AllReadyH renaming nil->y8,cons->g9
namespace Go.Proofs.YtccikgogjfbpeaaGreatDoor
def ZM (c:Int):Bool:=decide (97<=c/\c<=122)
def iD (c:Int):Bool:=decide (48<=c/\c<=57)
def Zr (c:Int):Bool:=ZM c||iD c
def ZY (c:Int):Bool:=!decide (c=10)
def Zy (s:ByteArray)(k:Nat):Int:=((s.data.toList.getD k 0).toNat:Int)
def P8 (s k h):Zy s k=(s[k].toNat:Int):=by
 unfold Zy;rw[gD,gE (by simpa using h)];rfl
def Z5 (p:Int->Bool):List UInt8->Nat
 |[]=>0
 |c::r=>if p (c.toNat:Int)then Z5 p r+1 else 0
def KS (p l):Z5 p l<=l.length:=by
 induction l with
 |nil=>simp[Z5]
 |cons c r a=>simp only[Z5];split<;>simp<;>omega
def N0 (p)(s:ByteArray)(k)(h:s.size<=k):Z5 p (s.data.toList.drop k)=0:=by
 rw[dL (by simpa using h)];rfl
def Tu (p s k)(h:k<s.size):
  Z5 p (s.data.toList.drop k)=if p (Zy s k)then Z5 p (s.data.toList.drop (k+1))+1 else 0:=by
 rw[dC (by simpa using h)];rw[P8 s k h];simp only[Z5];rfl
def ZB (p:Int->Bool)(s:ByteArray)(k:Nat):Nat:=Z5 p (s.data.toList.drop k)
def Xz (p s k)(h:k<=s.size):k+ZB p s k<=s.size:=by
 have:=KS p (s.data.toList.drop k);simp at this;unfold ZB;omega
def XT (p s k)(h:k<s.size)(a:p (Zy s k)=true):1<=ZB p s k:=by
 unfold ZB;rw[Tu p s k h,if_pos a];omega
structure Tk where
 sort:Nat
 text:ByteArray
 line:Nat
def vA:List (List UInt8):=
 [[114,111,117,116,101],[114,117,108,101],[98,105,110],[109,99,99],[97,109,111,117,110,116],[99,117,114],[100,101,99,108,105,110,101],[99,104,101,97,112,101,115,116]]
def Xe (t:ByteArray):Bool:=vA.contains t.toList
inductive Lx where
 |skip (at' line:Nat)
 |tok (t:Tk) (at':Nat)
 |bad
def OS (s:ByteArray)(k:Nat)(a b:Int):Bool:=decide (k+2<=s.size)&&decide (Zy s k=a)&&decide (Zy s (k+1)=b)
def Ea (t m:ByteArray):Bool:=decide (m.size<=t.size)&&((t.extract 0 m.size).toList==m.toList)
def Zt (s:ByteArray)(k a:Nat):Lx:=
 if Zy s k=10 then .skip (k+1) (a+1)
 else if Zy s k=32\/Zy s k=9 then .skip (k+1) a
 else if Zy s k=35 then .skip (k+ZB ZY s k) a
 else if ZM (Zy s k)then
  if Xe (s.extract k (k+ZB Zr s k))then .tok ⟨2,s.extract k (k+ZB Zr s k),a⟩ (k+ZB Zr s k)
  else if 8<ZB Zr s k then .bad
  else .tok ⟨0,s.extract k (k+ZB Zr s k),a⟩ (k+ZB Zr s k)
 else if iD (Zy s k)then
  if 9<ZB iD s k then .bad
  else .tok ⟨1,s.extract k (k+ZB iD s k),a⟩ (k+ZB iD s k)
 else if Zy s k=59\/Zy s k=58\/Zy s k=44 then .tok ⟨2,s.extract k (k+1),a⟩ (k+1)
 else if OS s k 46 46||OS s k 45 62 then .tok ⟨2,s.extract k (k+2),a⟩ (k+2)
 else .bad
def We {s k a c d}(h:k<s.size)(b:Zt s k a=.skip c d):k<c/\c<=s.size/\a<=d/\d<=a+1:=by
 unfold Zt at b
 split at b
 ·injection b;omega
 split at b
 ·injection b;omega
 split at b
 ·rename_i e;have:=Xz ZY s k z;have:=XT ZY s k h (by simp[ZY,e]);injection b;omega
 repeat' (split at b)
 all_goals contradiction
def J1 {s k a b}(h:OS s k a b=true):k+2<=s.size:=by
 simp[OS]at h;exact h.1.1
def WJ {s k b d t}(h:k<s.size)(a:Zt s k b=.tok t d):k<d/\d<=s.size:=by
 unfold Zt at a
 split at a
 ·contradiction
 split at a
 ·contradiction
 split at a
 ·contradiction
 split at a
 ·rename_i e;have:=Xz Zr s k z;have:=XT Zr s k h (by simp[Zr,e])
  split at a
  ·injection a;omega
  split at a
  ·contradiction
  injection a;omega
 split at a
 ·rename_i f;have:=Xz iD s k z;have:=XT iD s k h f
  split at a
  ·contradiction
  injection a;omega
 split at a
 ·injection a;omega
 split at a
 ·rename_i c;simp only[Bool.or_eq_true]at c
  have:k+2<=s.size:=by rcases c with c|c<;>exact J1 c
  injection a;omega
 contradiction
def ZN (s:ByteArray)(k a:Nat)(b:List Tk):Except Nat (List Tk):=
 if h:k<s.size then
  match _hs:Zt s k a with
  | .skip c d=>ZN s c d b
  | .tok t c=>ZN s c a (b++[t])
  | .bad=>.error a
 else .ok (b++[⟨3,z7,a⟩])
 termination_by s.size-k
 decreasing_by
  ·have:=We h _hs;omega
  ·have:=WJ h _hs;omega
end Go.Proofs.YtccikgogjfbpeaaGreatDoor
namespace Go.Proofs.YtccikgogjfbpeaaGreatDoor
open Go.RowKit
def Tv (c:Int)(w):
  L O 150 #[I .u8 c] w fun e a=>e=D (G (ZM c))/\a=w:=by
 by_cases b:97<=c
 all_goals by_cases d:c<=122
 all_goals
  go_enter Tryz.func150,Tryz.ntmps150;go_wp2;go_ret;exact⟨by simp[ZM,b,d],rfl⟩
def Tw (c:Int)(w):
  L O 188 #[I .u8 c] w fun e a=>e=D (G (iD c))/\a=w:=by
 by_cases b:48<=c
 all_goals by_cases d:c<=57
 all_goals
  go_enter Tryz.func188,Tryz.ntmps188;go_wp2;go_ret;exact⟨by simp[iD,b,d],rfl⟩
def J3 (c:Int)(w):
  L O 196 #[I .u8 c] w fun e a=>e=D (G (ZY c))/\a=w:=by
 go_enter Tryz.func196,Tryz.ntmps196;go_wp2;go_ret;exact⟨by simp[ZY,bne,BEq.beq],rfl⟩
def N7 (c:Int)(w):
  L O 152 #[I .u8 c] w fun e a=>e=D (G (Zr c))/\a=w:=by
 cases h:ZM c
 all_goals
  go_enter Tryz.func152,Tryz.ntmps152
  go_wp2_with (first|(go_at_call 150;refine(Tv _ _).mono ?_;rintro e a ⟨rfl,rfl⟩)|(go_at_call 188;refine(Tw _ _).mono ?_;rintro e a ⟨rfl,rfl⟩))
  go_ret;exact⟨by simp[Zr,h],rfl⟩
end Go.Proofs.YtccikgogjfbpeaaGreatDoor
namespace Go.Proofs.YtccikgogjfbpeaaGreatDoor
open Go.RowKit
def Xf {P t}(h:P.underlying t=U .string)(s)(k:Nat)(i:Int)(a:i=k)(b:k<s.size)(w):
  (Instr.index t (.string s) (.int .i64 i)).run P w=.ok (.int .u8 (Zy s k)) w:=by
 subst a;rw[run_index_string w t s .i64 k h,dif_pos z,P8 s k b];simp
def Dr (w w':R):Prop:=∃d,w'=w.drewN d
def Dr.refl (w):Dr w w:=⟨0,rfl⟩
def Dr.next {w a}(h:Dr w a)(n):Dr w (a.drewN n):=by
 obtain⟨d,rfl⟩:=h;exact⟨d+n,by rw[World.drewN_drewN]⟩
def Dr.trans {a b c}(h:Dr a b)(k:Dr b c):Dr a c:=by
 obtain⟨d,rfl⟩:=k;exact h.next d
def Dr.cell {w w'}(h:Dr w w')(a):w'.cell? a=w.cell? a:=by
 obtain⟨d,rfl⟩:=h;simp
def ZQ {k a b}(h:a=b):Ending.returned (I k a)=D (I k b):=by rw[h]
def tL (F K)(A:∀d W,(callFunc F d).run O W=.ok (.enter F d) W)(q:M (∀c w,L O F #[I .u8 c] w fun e f=>e=D (G (K c))/\f=w))(b s)(a:Nat)(w)(r:s.size<=maxLen)(t:a<=s.size)(u:w.cell? ⟨b,0,Z⟩=U (Y s))(v:w.cell? ⟨b,1,Z⟩=U (I J a)):
  L O 195 #[C (U ⟨b,0,Z⟩),.func (.func F) #[] #[]] w fun e f=>e=D (I J (Z5 K (s.data.toList.drop a)))/\Dr w f:=by
 unfold maxLen at r;go_enter Tryz.func195,Tryz.ntmps195;go_wp2
 go_loopw [5] (fun n f=>∃k:Nat,a+k<=s.size/\n=I J k/\M (Z5 K (s.data.toList.drop a)=k+Z5 K (s.data.toList.drop (a+k)))/\Dr w f) (fun n _=>s.size-(intOf n).toNat)
 case atStart=>exact⟨0,az,rfl,(by show _=_;simp),Dr.refl _⟩
 obtain⟨k,B,rfl,i,h⟩:=hrel;rw[<-h.cell]at u v;have x:j0.wrap ((a:Int)+(k:Int))=(a:Int)+(k:Int):=IntWalk.i64_in _ az;by_cases g:a+k<s.size
 ·have j:=Tu K s (a+k) g;have l:=o j;have E:(a:Int)+(k:Int)<(s.size:Int):=az
  have y:=fun w=>Xf (P:=O) Tryz.underlying9 s (a+k) ((a:Int)+(k:Int)) az g w
  cases m:K (Zy s (a+k))
  all_goals
   go_wp2
   go_quiet ((exact Calls.quiet_of_same (q.o _ _)))
  ·go_wp2;go_ret;exact⟨ZQ (by rw[i.o,l.o,m];simp),h.next _⟩
  go_wp2
  go_roundw
  case rel=>
   refine⟨k+1,az,aE,?_,h.next _⟩;have p:=l.o;rw[m,if_pos rfl]at p
   have z:Z5 K (s.data.toList.drop a)=(k+1)+Z5 K (s.data.toList.drop (a+(k+1))):=by
    rw[i.o,p,Nat.add_assoc a k 1];omega
   exact z
  simp[intOf];omega
 have H:decide ((a:Int)+k<s.size)=false:=aF;go_wp2
 go_quiet (fail)
 go_wp2;go_ret;exact⟨ZQ (by rw[i.o,N0 _ _ _ az];simp),h.next _⟩
end Go.Proofs.YtccikgogjfbpeaaGreatDoor
namespace Go.Proofs.YtccikgogjfbpeaaGreatDoor
open Go.RowKit
def Qe (t:ByteArray)(w:R):
  L O 151 #[Y t] w fun e a=>e=D (G (Xe t))/\a=w:=by
 go_enter Tryz.func151,Tryz.ntmps151;go_wp2
 all_goals
  go_ret;refine⟨?_,rfl⟩
  simp_all [Xe,vA]
def Rg (t:ByteArray)(w:R):
  L O 128 #[Y t] w fun e a=>e=D (G (Xe t))/\a=w:=by
 go_enter Tryz.func128,Tryz.ntmps128;go_wp2
 all_goals
  go_ret;refine⟨?_,rfl⟩
  simp_all [Xe,vA]
def N8 (t m w)(f:t.size<=9223372036854775807)(g:m.size<=9223372036854775807):
  L O 239 #[Y t,Y m] w fun e b=>e=D (G (Ea t m))/\b=w:=by
 have c:(t.size:Int)<=9223372036854775807:=z;have d:(m.size:Int)<=9223372036854775807:=z;by_cases a:m.size<=t.size
 ·go_enter Tryz.func239,Tryz.ntmps239;go_wp2;go_ret;exact⟨by simp[Ea,a],rfl⟩
 go_enter Tryz.func239,Tryz.ntmps239;go_wp2;go_ret;exact⟨by simp[Ea,a],rfl⟩
def Kj (t m w)(b:t.size<=maxLen)(c:m.size<=maxLen):
  L O 203 #[Y t,Y m] w fun e a=>e=D (G (Ea t m))/\a=w:=by
 go_enter Tryz.func203,Tryz.ntmps203
 go_wp2_with (go_at_call 239;refine(N8 _ _ _ b c).mono ?_;rintro e a ⟨rfl,rfl⟩)
 go_ret;exact⟨rfl,rfl⟩
def Bq (b s m)(a:Nat)(w)(c:s.size<=maxLen)(d:m.size<=maxLen)(f:a<=s.size)(k:w.cell? ⟨b,0,Z⟩=U (Y s))(l:w.cell? ⟨b,1,Z⟩=U (I J a)):
  L O 199 #[C (U ⟨b,0,Z⟩),Y m] w fun e g=>e=D (G (Ea (s.extract a s.size) m))/\Dr w g:=by
 have n:(a:Int)<=(s.size:Int):=z;have h:(s.extract a s.size).size<=maxLen:=aF;have i:=o h;have j:=o d;unfold maxLen at c;go_enter Tryz.func199,Tryz.ntmps199;go_wp2
 go_quiet ((go_at_call 203;exact Calls.quiet_of_same (Kj _ _ _ i.o j.o)))
 go_wp2;go_ret;exact⟨rfl,(Dr.refl w).next _⟩
end Go.Proofs.YtccikgogjfbpeaaGreatDoor
namespace Go.Proofs.YtccikgogjfbpeaaGreatDoor
open Go.RowKit
def zP:List Oper->Nat->Option Oper
 |[],_=>Z
 |o::_,0=>U o
 |_::r,n+1=>zP r n
def J4 (l i):l.toArray[i]?=zP l i:=by
 rw[List.getElem?_toArray]
 induction l generalizing i with
 |nil=>rfl
 |cons o r a=>cases i with
  |zero=>rfl
  |succ i=>simpa[zP]using a i
def TY {P l Q f S}(i){e v d b a w}(g:zP l i=U e)(j:Region.noSelect l.toArray=true)(k:Region.free f l.toArray b i=true)(m:(Region.ready f l.toArray b).contains i=true)(n:∀c a w,Q (.panic c) (a.put e.dst v) w->Q (.panic c) a w)(o:Region.wanted e (yielded l.toArray a.tmps)=true)(p:∀w,S w->(execOp a.eval e).run P w=.ok (.value v) w)(q:S w)(h:wpAnyH P f l.toArray Q S d (b.setIfInBounds i true) (a.put e.dst v) w):wpAnyH P f l.toArray Q S (d+1) b a w:=
 wpAnyH_take ((J4 l i).trans g) j k m n (z1 ⟨o,p⟩) q h
def U0 {P:Program}{l:List Oper}{Q:Exit->Act->R->Prop}{f:Region.Mode}{S:R->Prop}(i:Nat){e:Oper}{v:A}{d:Nat}{b:Array Bool}{a:Act}{w:R}(g:∀w,S w->(execOp a.eval e).run P w=.ok (.value v) w)(j:S w)
  (h:wpAnyH P f l.toArray Q S d (b.setIfInBounds i true) (a.put e.dst v) w)(k:zP l i=U e:=by rfl)(m:Region.noSelect l.toArray=true:=by kernel_rfl)(n:Region.free f l.toArray b i=true:=by kernel_rfl)(o:(Region.ready f l.toArray b).contains i=true:=by kernel_rfl)
  (p:∀c a w,Q (.panic c) (a.put e.dst v) w->Q (.panic c) a w:=by exact fun _ _ _ h=>h)(q:Region.wanted e (yielded l.toArray a.tmps)=true:=by rfl):wpAnyH P f l.toArray Q S (d+1) b a w:=
 TY i k m n o p q g j h
def Zb {P l Q d S c b a w i o rs}(f:zP l i=U o)(h:∀e:Act->R->Prop,Shut (∀a w,S w->(S w->wpAnyH P d l.toArray Q S c (b.setIfInBounds i true) a w)->e a w)->if Region.wanted o (yielded l.toArray a.tmps)=true then Oper.wp P o a w e Q else e (a.put o.dst undef) w)(g:AllReadyH P d l.toArray Q S c b a w rs):AllReadyH P d l.toArray Q S c b a w (i::rs):=
 g9 ((J4 l i).trans f) h g
def ZJ {P l Q f S}(i){e v d b a w}(j:S w)(h:wpAnyH P f l.toArray Q S d (b.setIfInBounds i true) (a.put e.dst v) w)(k:zP l i=U e:=by rfl)(m:Region.noSelect l.toArray=true:=by kernel_rfl)(n:Region.free f l.toArray b i=true:=by kernel_rfl)(o:(Region.ready f l.toArray b).contains i=true:=by kernel_rfl)(p:∀c a w,Q (.panic c) (a.put e.dst v) w->Q (.panic c) a w:=by exact fun _ _ _ h=>h)(g:Region.wanted e (yielded l.toArray a.tmps)=true:=by rfl)(q:∀w,S w->(execOp a.eval e).run P w=.ok (.value v) w:=by(intro w g;(try dsimp only at g);go_simp;with_reducible rfl)):wpAnyH P f l.toArray Q S (d+1) b a w:=
 TY i k m n o p g q j h
def XA (e:List Nat){P f d Q S c b a w}(h:AllReadyH P f d Q S c b a w e)(i:Region.ready f d b=e:=by kernel_rfl)(g:e≠[]:=by simp):wpAnyH P f d Q S (c+1) b a w:=wpAnyH_ready i g h
def WI {P l Q d S}(i){o c b a w}(h:∀e:Act->R->Prop,Shut (∀a w,S w->(S w->wpAnyH P d l.toArray Q S c (b.setIfInBounds i true) a w)->e a w)->Oper.wp P o a w e Q)(f:zP l i=U o:=by rfl)(g:Region.ready d l.toArray b=[i]:=by kernel_rfl)(j:Region.wanted o (yielded l.toArray a.tmps)=true:=by rfl):wpAnyH P d l.toArray Q S (c+1) b a w:=
 wpAnyH_ready g y (Zb f (fun K k=>by rw[if_pos j];exact h K k) y8)
def NL (t:Tk):List A:=[I J t.sort,Y t.text,I J t.line]
def Yw (ts:List Tk):List A:=ts.flatMap NL
def Sp (ts t):Yw (ts++[t])=Yw ts++NL t:=by simp[Yw]
structure Sc (w:R)(b:Nat)(s:ByteArray)(k line:Nat)(v:A)(ts:List Tk):Prop where
 c0:w.cell? ⟨b,0,Z⟩=U (Y s)
 c1:w.cell? ⟨b,1,Z⟩=U (I J k)
 c2:w.cell? ⟨b,2,Z⟩=U (I J line)
 c3:w.cell? ⟨b,3,Z⟩=U v
 fz:∀o,w.frozen? ⟨b,o,Z⟩=false
 Yv:w.ownsRow (b+1) 263 3 v ts.length (Yw ts)
 few:ts.length<=k
 at':k<=s.size
 ln:line<=k+1
 sz:s.size<=3000
def U1:(O.info? 263).map (fun i=>(i.zero,i.size,i.bytes))=U (U (y9 #[I J 0,Y z7,I J 0]),3,32):=n
def P9 {w h f b n v i}(Yv:w.ownsRow (b+1) 263 3 v n i)(g:b<w.heap.size)(d:Below w.heap.size w h)(a:h.grownBy f v.ownBlock):
  (∀o,f.cell? ⟨b,o,Z⟩=w.cell? ⟨b,o,Z⟩)/\(∀o,f.frozen? ⟨b,o,Z⟩=w.frozen? ⟨b,o,Z⟩)/\Below b w f:=by
 have c:∀j,j<=b->U j≠v.ownBlock:=fun j l e=>aj (Yv.lt j e.symm)
 refine⟨fun o=>?_,fun o=>?_,?_⟩
 ·exact(a.cell_far ⟨b,o,Z⟩ (nL g d.size) (c b (z2 _))).trans (d.cell (p:=⟨b,o,Z⟩) g)
 ·exact(a.frozen_far ⟨b,o,Z⟩ (nL g d.size) (c b (z2 _))).trans (d.frozen (p:=⟨b,o,Z⟩) g)
 exact(d.mono z).trans ⟨a.os,a.tape,a.output,a.size,fun k m=>a.block k (nL z d.size) (c k z)⟩
def Cc {w c b s}{k a k':Nat}{V ts}(g:c.cell? ⟨b,0,Z⟩=U (Y s))(h:c.cell? ⟨b,1,Z⟩=U (I J k))(i:c.cell? ⟨b,2,Z⟩=U (I J a))(d:∃v,c.cell? ⟨b,3,Z⟩=U v)(j:∀o,c.frozen? ⟨b,o,Z⟩=false)(Yv:c.ownsRow (b+1) 263 3 V ts.length (Yw ts))(e:Below b w c)(few:ts.length<=k')(f:k'<=s.size)(l:a<=k'+1)(m:s.size<=3000):
  Sc ((c.setCell ⟨b,3,Z⟩ V).setCell ⟨b,1,Z⟩ (I J k')) b s k' a V ts/\Below b w ((c.setCell ⟨b,3,Z⟩ V).setCell ⟨b,1,Z⟩ (I J k')):=by
 obtain⟨v,d⟩:=d;refine⟨⟨?_,?_,?_,?_,fun o=>by simp[j o],?_,few,f,l,m⟩,?_⟩
 ·rw[cO _ _ _ _ y,cO _ _ _ _ y];exact g
 ·exact cS _ _ _ (u:=I J k) (by rw[cO _ _ _ _ y];exact h)
 ·rw[cO _ _ _ _ y,cO _ _ _ _ y];exact i
 ·rw[cO _ _ _ _ y];exact cS _ _ _ d
 ·exact oB (oB Yv y _) y _
 exact(e.setCell y _).setCell y _
def zQ (b s k d v ts w)(f a m:Nat)(T:Sc w b s k d v ts)(hl:a<=m)(h1:1<=a)(hk:k+a<=s.size)(W:m<=3000):
  L O 198 #[C (U ⟨b,0,Z⟩),I J f,I J a,I J m] w fun e y=>e=D (.tuple #[])/\
   (∃v',Sc y b s (k+a) d v' (ts++[⟨f,s.extract k (k+a),d⟩]))/\Below b w y:=by
 obtain⟨A,P,Q,z,R,Yv,few,b0,ln,sz⟩:=T;have hb:=bL w _ A;have f0:j0.wrap ((k:Int)+(a:Int))=(k:Int)+(a:Int):=IntWalk.i64_in _ az;have g0:=ai m a;have h0:(k:Int)<=(k:Int)+(a:Int):=az;have i0:(k:Int)+(a:Int)<=(s.size:Int):=az;obtain⟨i,hi,B,E,F⟩:=info_parts U1;go_enter Tryz.func198,Tryz.ntmps198;go_wp2;refine wp_region_held_drew (S:=fun y=>y.cell? ⟨b,0,Z⟩=U (Y s)/\y.cell? ⟨b,1,Z⟩=U (I J k)/\y.cell? ⟨b,2,Z⟩=U (I J d)) aC ?_ (fun c=>?_)
 ·simp[*]
 refine ZJ 0 c ?_;go_frame;refine ZJ 1 c ?_;go_frame;refine ZJ 2 c ?_;go_frame;refine ZJ 3 c ?_;go_frame;refine ZJ 5 c ?_;go_frame;refine ZJ 6 c ?_;go_frame;refine ZJ 7 c ?_;go_frame;refine ZJ 8 c ?_;go_frame;refine ZJ 9 c ?_;go_frame;refine ZJ 10 c ?_;go_frame;refine ZJ 11 c ?_;go_frame;refine ZJ 12 c ?_;go_frame;refine ZJ 13 c ?_;go_frame;refine ZJ 14 c ?_;go_frame;refine ZJ 15 c ?_;go_frame;refine ZJ 16 c ?_;go_frame;refine ZJ 17 c ?_;go_frame;refine ZJ 18 c ?_;go_frame;refine ZJ 19 c ?_;go_frame;refine ZJ 20 c ?_;go_frame;refine ZJ 21 c ?_;go_frame;refine ZJ 22 c ?_;go_frame;refine ZJ 23 c ?_;go_frame;refine ZJ 24 c ?_;go_frame;refine ZJ 25 c ?_;go_frame;refine XA [4,26] ?_;refine Zb rfl (fun K h=>?_) ?_
 ·rw[if_pos aD];go_simp;refine h.out _ _ c (fun _=>?_);clear h K
  try go_frame
  refine WI 26 (fun K h=>?_);go_simp;refine h.out _ _ ?_ (fun c=>?_)
  ·simp[*,z8]
  clear h K
  try go_frame
  refine XA [27] ?_;refine Zb rfl (fun K h=>?_) y8;refine step_append_lies _ rfl (.tmp 21) (.tmp 43) 193 rfl (b+1) 263 i _ 3 32 Tryz.underlying193 hi B E F rfl aB v ts.length (Yw ts) rfl ?h1 ⟨w.heap.size,0,Z⟩ 1 1 [I J f,Y (s.extract k ((k:Int)+(a:Int)).toNat),I J d] rfl rfl ?h2 ?h3 aB ?h4 ?h5 ?h6 _ rfl ?_
  case h1=>exact(Yv.alloc _).drew
  case h2=>exact z6 (aN w _)
  case h3=>simp[y2]
  case h4=>unfold maxLen;omega
  case h5=>omega
  case h6=>simp;omega
  intro g q X l j _ _;obtain⟨n,G,p⟩:=P9 Yv hb ((Below.refl _ _).alloc (z2 _) _).drew j;have r:=(n 0).trans A;have t:=(n 1).trans P;have u:=(n 2).trans Q;have d3:=(n 3).trans z
  have df:∀o,X.frozen? ⟨b,o,Z⟩=false:=fun o=>(G o).trans (R o)
  have HO:=Za l;have HB:=Za p;clear n G j l p A P Q z R Yv;refine h.out _ _ ⟨r,t,u⟩ (fun c=>?_);clear h K;go_frame;refine ZJ 28 c ?_;go_frame;refine ZJ 29 c ?_;go_frame;refine WI 30 (fun K h=>?_);go_simp;refine h.out _ _ ?_ (fun c=>?_)
  ·refine⟨?_,?_,?_⟩
   ·rw[cO _ _ _ _ aA];exact r
   ·rw[cO _ _ _ _ aA];exact t
   rw[cO _ _ _ _ aA];exact u
  clear h K
  try go_frame
  refine wpAnyH_done aC ?_ _;obtain⟨e0,e1,e2⟩:=c;go_wp2
  go_end0
  have et:((k:Int)+(a:Int)).toNat=k+a:=az;have M:=HO.o;rw[et]at M;have x:=Cc (k':=k+a) (ts:=ts++[⟨f,s.extract k (k+a),d⟩]) (V:=H (U ⟨g,0,Z⟩) (ts.length+1) q) r t u ⟨_,d3⟩ df (by rw[Sp,lA];exact M) HB.o aF hk az sz;rw[y5]at x;exact⟨rfl,⟨_,x.1⟩,x.2⟩
 refine Zb rfl (fun K h=>?_) y8;rw[if_pos aD];go_simp;refine h.out _ _ ?_ (fun c=>?_)
 ·simp[*,z8]
 clear h K
 try go_frame
 refine WI 4 (fun K h=>?_)
 have a0:(w.alloc (N #[I J f,Y (s.extract k ((k:Int)+(a:Int)).toNat),I J d] 263)).cell? ⟨b,3,Z⟩=U v:=by rw[z8 _ _ _ (by simp[z])];exact z
 go_simp;refine h.out _ _ c (fun _=>?_);clear h K a0
 try go_frame
 refine XA [27] ?_;refine Zb rfl (fun K h=>?_) y8;refine step_append_lies _ rfl (.tmp 21) (.tmp 43) 193 rfl (b+1) 263 i _ 3 32 Tryz.underlying193 hi B E F rfl aB v ts.length (Yw ts) rfl ?h1 ⟨w.heap.size,0,Z⟩ 1 1 [I J f,Y (s.extract k ((k:Int)+(a:Int)).toNat),I J d] rfl rfl ?h2 ?h3 aB ?h4 ?h5 ?h6 _ rfl ?_
 case h1=>exact(Yv.alloc _).drew
 case h2=>exact z6 (aN w _)
 case h3=>simp[y2]
 case h4=>unfold maxLen;omega
 case h5=>omega
 case h6=>simp;omega
 intro g q X l j _ _;obtain⟨n,G,p⟩:=P9 Yv hb ((Below.refl _ _).alloc (z2 _) _).drew j;have r:=(n 0).trans A;have t:=(n 1).trans P;have u:=(n 2).trans Q;have d3:=(n 3).trans z
 have df:∀o,X.frozen? ⟨b,o,Z⟩=false:=fun o=>(G o).trans (R o)
 have HO:=Za l;have HB:=Za p;clear n G j l p A P Q z R Yv;refine h.out _ _ ⟨r,t,u⟩ (fun c=>?_);clear h K;go_frame;refine ZJ 28 c ?_;go_frame;refine ZJ 29 c ?_;go_frame;refine WI 30 (fun K h=>?_);go_simp;refine h.out _ _ ?_ (fun c=>?_)
 ·refine⟨?_,?_,?_⟩
  ·rw[cO _ _ _ _ aA];exact r
  ·rw[cO _ _ _ _ aA];exact t
  rw[cO _ _ _ _ aA];exact u
 clear h K
 try go_frame
 refine wpAnyH_done aC ?_ _;obtain⟨e0,e1,e2⟩:=c;go_wp2
 go_end0
 have et:((k:Int)+(a:Int)).toNat=k+a:=az;have M:=HO.o;rw[et]at M;have x:=Cc (k':=k+a) (ts:=ts++[⟨f,s.extract k (k+a),d⟩]) (V:=H (U ⟨g,0,Z⟩) (ts.length+1) q) r t u ⟨_,d3⟩ df (by rw[Sp,lA];exact M) HB.o aF hk az sz;rw[y5]at x;exact⟨rfl,⟨_,x.1⟩,x.2⟩
end Go.Proofs.YtccikgogjfbpeaaGreatDoor
namespace Go.Proofs.YtccikgogjfbpeaaGreatDoor
open Go.RowKit
def Zj (a b:Nat):Ending:=.panicked [{v:=.iface 111 (y9 #[I J a,I J b]),recovered:=false}]
def Br (b s k c v h w)(f d a:Nat)(g:Sc w b s k c v h)(m:a<d):
  L O 198 #[C (U ⟨b,0,Z⟩),I J f,I J d,I J a] w fun e i=>e=Zj 2 c/\i=w:=by
 obtain⟨n,o,p,q,r,Yv,few,j,t,u⟩:=g;have l:=af a d;go_enter Tryz.func198,Tryz.ntmps198;go_wp2;exact⟨rfl,rfl,rfl⟩
def Cd (s:ByteArray)(k a n:Nat):Lx:=if Xe (s.extract k (k+n))then .tok ⟨2,s.extract k (k+n),a⟩ (k+n)else if 8<n then .bad else .tok ⟨0,s.extract k (k+n),a⟩ (k+n)
def Ph (x:Lx)(w:R)(b:Nat)(s:ByteArray)(a:Nat)(g:List Tk)(e:Ending)(c:R):Prop:=
 match x with
 | .skip d h=>e=D (.tuple #[])/\(∃f,Sc c b s d h f g)/\Below b w c
 | .tok t d=>e=D (.tuple #[])/\(∃f,Sc c b s d a f (g++[t]))/\Below b w c
 | .bad=>e=Zj 2 a/\Below b w c
section
variable {x y:Lx} {w W w':R} {b:Nat} {s:ByteArray} {k line:Nat} {v:A} {ts:List Tk} {e:Ending}
def Ph.fin (h:Ph x w b s line ts e w'):e=D (.tuple #[])\/e=Zj 2 line:=by
 cases x<;>first|exact .inl h.1|exact .inr h.1
def Ph.pre (h:Ph x W b s line ts e w')(a:Below b w W)(c:y=x):Ph y w b s line ts e w':=by
 subst c
 cases y<;>first|exact⟨h.1,h.2.1,a.trans h.2.2⟩|exact⟨h.1,a.trans h.2⟩
def Sc.dr {w w' b s k a v e}(h:Sc w b s k a v e)(f:Dr w w'):Sc w' b s k a v e:=by
 obtain⟨d,rfl⟩:=f;obtain⟨g,i,j,l,m,Yv,few,c,n,o⟩:=h;exact⟨by simpa using g,by simpa using i,by simpa using j,by simpa using l,by simpa using m,Yv,few,c,n,o⟩
def Dr.below {w w'}(a:Dr w w')(B):Below B w w':=by
 obtain⟨d,rfl⟩:=a;exact⟨rfl,rfl,rfl,z2 _,fun _ _=>rfl⟩
def TZ (d a c:Nat)(i j l:Int)(g:Sc w b s k line v ts)(m:1<=a)(n:k+a<=s.size)(f:c<=3000)(o:i=d)(p:j=a)(q:l=c):
  L O 198 #[C (U ⟨b,0,Z⟩),I J i,I J j,I J l] w (Ph (if c<a then .bad else .tok ⟨d,s.extract k (k+a),line⟩ (k+a)) w b s line ts):=by
 subst o p q
 split
 ·exact(Br b s k line v ts w d a c g z).mono fun e r h=>⟨h.1,h.2▸Below.refl _ _⟩
 exact zQ b s k line v ts w d a c g z m n f
def Eb {F K}(h:∀d W,(callFunc F d).run O W=.ok (.enter F d) W)(i:M (∀c w,L O F #[I .u8 c] w fun e f=>e=D (G (K c))/\f=w))(a:Sc w b s k line v ts)(W)(g:Dr w W):
  L O 195 #[C (U ⟨b,0,Z⟩),.func (.func F) #[] #[]] W fun e f=>e=D (I J (ZB K s k))/\Dr W f:=
 tL F K h i b s k W (by have:=a.sz;unfold maxLen;omega) a.at' (a.dr g).c0 (a.dr g).c1
def zR (a:Sc w b s k line v ts)(p:k<s.size)(g:ZM (Zy s k)=true):
  L O 197 #[C (U ⟨b,0,Z⟩)] w (Ph (Cd s k line (ZB Zr s k)) w b s line ts):=by
 have l:=XT Zr s k p (by simp[Zr,g]);have c:=Xz Zr s k az;have q:=o (Eb (F:=152) (fun _ _=>aC) N7 a w (Dr.refl w));have f:=o a;have r:=a.sz;generalize ZB Zr s k=n at*;have t:j0.wrap ((k:Int)+(n:Int))=(k:Int)+(n:Int):=IntWalk.i64_in _ az;have z:((k:Int)+(n:Int)).toNat=k+n:=az;have u:(k:Int)<=(k:Int)+(n:Int):=az;have x:(k:Int)+(n:Int)<=(s.size:Int):=az
 cases d:Xe (s.extract k (k+n))
 all_goals
  go_enter Tryz.func197,Tryz.ntmps197
  go_wp2_with (go_at_call 195;refine Bp q.o fun A i=>?_;have j:=o i;have B:=(f.o.dr i).c0;have D:=(f.o.dr i).c1)
  go_big_quiet ((go_at_call 151;exact Calls.quiet_of_same (Qe _ _)))
  simp only[d];go_wp2_with fail
  first|refine(TZ 2 n n _ _ _ ((f.o.dr j.o).dr ⟨_,rfl⟩) l c az aD aD aD).mono ?_|refine(TZ 0 n 8 _ _ _ ((f.o.dr j.o).dr ⟨_,rfl⟩) l c az aD aD aD).mono ?_
  intro e E h;have h:=h.pre (y:=Cd s k line n) ((j.o.next _).below b) (by simp[Cd,d]);rcases h.fin with rfl|m
  ·go_wp2
   go_end0
   exact h
  unfold Zj at m;subst m;exact⟨rfl,h⟩
end
end Go.Proofs.YtccikgogjfbpeaaGreatDoor
namespace Go.Proofs.YtccikgogjfbpeaaGreatDoor
open Go.RowKit
def Sc.move {w b s k a v ts}(h:Sc w b s k a v ts)(c:Nat)(n:k<=c)(d:c<=s.size):
  Sc (w.setCell ⟨b,1,Z⟩ (I J c)) b s c a v ts/\Below b w (w.setCell ⟨b,1,Z⟩ (I J c)):=by
 obtain⟨e,f,g,i,j,Yv,few,l,p,m⟩:=h;refine⟨⟨?_,?_,?_,?_,fun o=>by simp[j o],?_,z,d,z,m⟩,?_⟩
 ·rw[cO _ _ _ _ y];exact e
 ·exact cS _ _ _ f
 ·rw[cO _ _ _ _ y];exact g
 ·rw[cO _ _ _ _ y];exact i
 ·exact oB Yv y _
 exact(Below.refl _ _).setCell y _
def Sc.line {w b s k a v ts}(h:Sc w b s k a v ts)(k':Nat)(m:k<k')(c:k'<=s.size):
  Sc ((w.setCell ⟨b,2,Z⟩ (I J (a+1:Nat))).setCell ⟨b,1,Z⟩ (I J k')) b s k' (a+1) v ts/\
   Below b w ((w.setCell ⟨b,2,Z⟩ (I J (a+1:Nat))).setCell ⟨b,1,Z⟩ (I J k')):=by
 obtain⟨d,e,f,g,i,Yv,few,j,n,l⟩:=h;refine⟨⟨?_,?_,?_,?_,fun o=>by simp[i o],?_,z,c,z,l⟩,?_⟩
 ·rw[cO _ _ _ _ y,cO _ _ _ _ y];exact d
 ·exact cS _ _ _ (u:=I J k) (by rw[cO _ _ _ _ y];exact e)
 ·rw[cO _ _ _ _ y];exact cS _ _ _ f
 ·rw[cO _ _ _ _ y,cO _ _ _ _ y];exact g
 ·exact oB (oB Yv y _) y _
 exact((Below.refl _ _).setCell y _).setCell y _
def Dr.drew {w w'}(h:Dr w w'):Dr w w'.drew:=h.trans ⟨1,rfl⟩
end Go.Proofs.YtccikgogjfbpeaaGreatDoor
namespace Go.Proofs.YtccikgogjfbpeaaGreatDoor
open Go.RowKit
def zS (s k a b):Ea (s.extract k s.size) ⟨#[a,b]⟩=OS s k (a.toNat:Int) (b.toNat:Int):=by
 unfold Ea OS Zy;have d:(⟨#[a,b]⟩:ByteArray).size=2:=rfl;by_cases h:k+2<=s.size
 ·rw[ByteArray.toList_eq,ByteArray.toList_eq,Lib.extract_data,Lib.extract_data,d];have c:(s.data.toList.drop k).length=s.size-k:=aA
  have g0:s.data.toList.getD k 0=(s.data.toList.drop k).getD 0 0:=by simp[x9]
  have g1:s.data.toList.getD (k+1) 0=(s.data.toList.drop k).getD 1 0:=by simp[x9]
  rw[g0,g1];generalize s.data.toList.drop k=l at*
  match l,c with
  |[],c=>simp at c;omega
  |[_],c=>simp at c;omega
  |x::y::r,c=>
   obtain⟨n,f⟩:∃n,s.size-k=n+2:=⟨s.size-k-2,z⟩;rw[f]
   have e:∀u v:UInt8,(u==v)=decide ((u.toNat:Int)=(v.toNat:Int)):=by
    intro u v;rw[Bool.eq_iff_iff];simp only[beq_iff_eq,decide_eq_true_eq];rw[<-UInt8.toNat_inj];omega
   simp[h,e];omega
 simp[d,h];omega
def zT (b s k a v I w)(d:Sc w b s k a v I)(J:k<s.size):
  L O 159 #[C (U ⟨b,0,Z⟩)] w (Ph (Zt s k a) w b s a I):=by
 have a0:=fun w=>Xf (P:=O) Tryz.underlying9 s k (k:Int) rfl J w
 have b0:=af k s.size;have t:=Xz ZY s k az;have u:=Xz iD s k az;have T:=o (XT iD s k J);have z:=o (Eb (F:=196) (fun _ _=>aC) J3 d);have A:=o (Eb (F:=188) (fun _ _=>aC) Tw d)
 have V:M (∀(x y:UInt8)(c:Bool) W,OS s k (x.toNat:Int) (y.toNat:Int)=c->Dr w W->L O 199 #[C (U ⟨b,0,Z⟩),Y ⟨#[x,y]⟩] W fun e w'=>e=D (G c)/\Dr W w'):=
  fun x y c W i f=>(Bq b s ⟨#[x,y]⟩ k W (by have:=d.sz;unfold maxLen;omega) (by unfold maxLen;show 2<=_;decide) az (d.dr f).c0 (d.dr f).c1).mono fun e w' h=>by rw[zS,i]at h;exact h
 have j:=o d;obtain⟨c0,c1,c2,c3,fz,Yv,few,K,ln,sz⟩:=d
 have l:∀c:Int,Zy s k≠c->(Zy s k==c)=false:=fun c h=>by simp[h]
 obtain⟨n,N⟩:=ad (ZB ZY s k);obtain⟨m,Q⟩:=ad (ZB iD s k);rw[N]at t z;rw[Q]at u A T;have R:j0.wrap ((k:Int)+(n:Int))=(k:Int)+(n:Int):=IntWalk.i64_in _ az;clear Yv few K c3;obtain⟨x,B⟩:=ad (Zt s k a);rw[B];unfold Zt at B;rw[N,Q]at B;have H:=o B;clear B N Q;rcases(by omega:Zy s k=10\/Zy s k=32\/Zy s k=9\/Zy s k=35\/(Zy s k≠10/\Zy s k≠32/\Zy s k≠9/\Zy s k≠35))with i|i|i|i|⟨h1,h2,h3,h4⟩
 iterate 3
  ·clear R;go_enter Tryz.func159,Tryz.ntmps159;go_wp2
   go_big_quiet ((fail))
   go_wp2
   go_end0
   have p:=(j.o.dr ⟨nq,rfl⟩).line (k+1) az az;have S:=(j.o.dr ⟨nq,rfl⟩).move (k+1) az az;rw[y5]at S;rw[y5,y5]at p;have e:=H.o;simp[i]at e;subst e
   first|exact⟨rfl,⟨v,p.1⟩,(Dr.below ⟨nq,rfl⟩ b).trans p.2⟩|exact⟨rfl,⟨v,S.1⟩,(Dr.below ⟨nq,rfl⟩ b).trans S.2⟩
 ·go_enter Tryz.func159,Tryz.ntmps159;go_wp2
  go_big_quiet ((fail))
  go_wp2
  go_region_with (go_at_call 195;refine(z.o _ (by exact((Dr.refl w).next nq).drew)).mono ?_;rintro e w1 ⟨rfl,f⟩;have g:=o ((((Dr.refl w).next nq).drew).trans f);have e1:=(j.o.dr g.o).c1;have ef:=(j.o.dr g.o).fz;clear f)
  all_goals
   go_wp2
   go_end0
   have p:=(j.o.dr g.o).move (k+n) az t;rw[y5]at p;have e:=H.o;simp[i]at e;subst e;exact⟨rfl,⟨v,p.1⟩,(g.o.below b).trans p.2⟩
 have n1:=l _ h1;have n2:=l _ h2;have n3:=l _ h3;have n4:=l _ h4
 cases q:ZM (Zy s k)
 case' true=>have HC:=o (fun W (f:Dr w W)=>zR (j.o.dr f) J q)
 case' false=>cases r:iD (Zy s k)
 case' false.false=>rcases(by omega:Zy s k=59\/Zy s k=58\/Zy s k=44\/(Zy s k≠59/\Zy s k≠58/\Zy s k≠44))with i|i|i|⟨h5,h6,h7⟩
 case' false.false.inl|false.false.inr.inl|false.false.inr.inr.inl=>rw[i]at q r
 case' false.false.inr.inr.inr=>
  have n5:=l _ h5;have n6:=l _ h6;have n7:=l _ h7
  cases X:OS s k 46 46
 case' false.false.inr.inr.inr.false=>cases E:OS s k 45 62
 all_goals
  go_enter Tryz.func159,Tryz.ntmps159;go_wp2
  go_big_quiet ((fail))
  go_wp2_with (first|(go_at_call 150;refine(Tv _ _).mono ?_;rintro e w' ⟨rfl,rfl⟩;simp only[q])|(go_at_call 188;refine(Tw _ _).mono ?_;rintro e w' ⟨rfl,rfl⟩;simp only[r]))
  try
   first|refine(A.o _ ⟨_,rfl⟩).mono ?_|refine(V.o 46 46 _ _ X ⟨_,rfl⟩).mono ?_
   rintro e w1 ⟨rfl,f⟩;have g:=o ((Dr.refl w|>.next nq).trans f);clear f;go_wp2_with fail
  try
   refine(V.o 45 62 _ _ E g.o).mono ?_;rintro e w2 ⟨rfl,f⟩;replace g:=o (g.o.trans f);clear f;have e2:=(j.o.dr g.o).c2;go_wp2_with fail
 ·exact⟨rfl,(show Ph .bad w b s a I _ _ from⟨rfl,g.o.below b⟩).pre (Below.refl _ _) (by rw[<-H.o];simp[*])⟩
 iterate 2 (refine(TZ 2 2 2 _ _ _ (j.o.dr g.o) az (by first|exact J1 X|exact J1 E) az aD aD aD).mono ?_;rotate_left)
 iterate 3 (refine(TZ 2 1 1 _ _ _ (j.o.dr ⟨_,rfl⟩) az az az aD aD aD).mono ?_;rotate_left)
 refine(TZ 1 m 9 _ _ _ (j.o.dr g.o) (T.o r) u az aD aD aD).mono ?_
 rotate_left
 refine(HC.o _ ⟨_,rfl⟩).mono ?_
 all_goals
  intro e w3 h;replace h:=h.pre (y:=x) (by first|exact g.o.below b|exact Dr.below ⟨_,rfl⟩ b) (by rw[<-H.o];simp[*,Cd]);rcases h.fin with rfl|he
  ·go_wp2
   go_end0
   exact h
  unfold Zj at he;subst he;exact⟨rfl,h⟩
end Go.Proofs.YtccikgogjfbpeaaGreatDoor
namespace Go.Proofs.YtccikgogjfbpeaaGreatDoor
open Go.RowKit
def Vv (w:R)(s:ByteArray)(e:Ending)(w':R):Prop:=
 match ZN s 0 1 []with
 | .ok a=>(∃v,e=D v/\w'.ownsRow w.heap.size 263 3 v a.length (Yw a)/\a.length<=s.size+1)/\Below w.heap.size w w'
 | .error l=>e=Zj 2 l/\Below w.heap.size w w'
def YP {s k a b c d}(e:k<s.size)(f:Zt s k a=.skip b c):ZN s k a d=ZN s b c d:=by
 rw[ZN,dif_pos e]
 split<;>simp_all
def WK {s k a b t c}(d:k<s.size)(e:Zt s k a=.tok t b):ZN s k a c=ZN s b a (c++[t]):=by
 rw[ZN,dif_pos d]
 split<;>simp_all
def XC {s k a b}(c:k<s.size)(d:Zt s k a=.bad):ZN s k a b=.error a:=by
 rw[ZN,dif_pos c]
 split<;>simp_all
def WL {s k a b}(c:¬k<s.size):ZN s k a b=.ok (b++[⟨3,z7,a⟩]):=by
 rw[ZN,dif_neg c]
def tM (w:R)(s)(a:s.size<=3000):Sc (w.alloc (N #[Y s,I J 0,I J 1,H Z 0 0] 268)) w.heap.size s 0 1 (H Z 0 0) []:=by
 refine⟨?_,?_,?_,?_,?_,oZ _ _ _ _,y,y,y,a⟩
 all_goals simp[go_sem]
def zU (s w)(V:s.size<=3000):L O 104 #[Y s] w (Vv w s):=by
  obtain⟨i,W,A,B,C⟩:=info_parts U1;go_enter Tryz.func104,Tryz.ntmps104;go_wp2
  go_loopg [18] s.size (fun m _ wr=>∃k a v d,m=s.size-k/\M (Sc wr w.heap.size s k a v d)/\M (Below w.heap.size w wr)/\M (ZN s 0 1 []=ZN s k a d))
  case atStart=>exact⟨0,1,H Z 0 0,[],rfl,tM w s V,(Below.refl _ _).alloc (z2 _) _,rfl⟩
  obtain⟨k,a,v,d,rfl,x,Q,y⟩:=hrel;have X:=x.o.c0;have c1:=x.o.c1;by_cases b:k<s.size
  · have hd:decide ((k:Int)<(s.size:Int))=true:=by simp;omega
    go_wp2
    go_big_quiet ((fail))
    go_wp2_with fail;have l:=o (Q.o.trans (Dr.below ⟨nq,rfl⟩ _));refine(zT w.heap.size s k a v d _ (x.o.dr ⟨nq,rfl⟩) b).mono ?_;intro e w2 h
    cases f:Zt s k a with
    | skip n l'=>
      rw[f]at h;obtain⟨rfl,⟨D,E⟩,p⟩:=h;have F:=We b f;go_wp2;go_roundg (s.size-n)
      case measure=>omega
      exact⟨n,l',D,d,rfl,E,l.o.trans p,y.o.trans (YP b f)⟩
    | tok t n=>
      rw[f]at h;obtain⟨rfl,⟨D,E⟩,p⟩:=h;have F:=WJ b f;go_wp2;go_roundg (s.size-n)
      case measure=>omega
      exact⟨n,a,D,d++[t],rfl,E,l.o.trans p,y.o.trans (WK b f)⟩
    | bad=>
      rw[f]at h;obtain⟨R,p⟩:=h;unfold Zj at R;subst R
      have q:Vv w s (Zj 2 a) w2:=by
        unfold Vv;rw[y.o.trans (XC b f)];exact⟨rfl,l.o.trans p⟩
      exact⟨rfl,q⟩
  have hd:decide ((k:Int)<(s.size:Int))=false:=aF;go_wp2
  go_big_quiet ((fail))
  go_wp2_with fail;have G:=x.o.dr (w':=wr.drewN nq) ⟨nq,rfl⟩;have l:=o (Q.o.trans (Dr.below ⟨nq,rfl⟩ _));generalize wr.drewN nq=z at*;obtain⟨X,c1,S,c3,fz,Yv,few,a0,ln,sz⟩:=G;have K:w.heap.size<z.heap.size:=bL z _ S
  go_region_held3 (fun w'=>w'.cell? ⟨w.heap.size,2,Z⟩=U (I J a)/\w'.cell? ⟨w.heap.size,3,Z⟩=U v) (go_keep)
    ((refine step_append_lies _ rfl (.tmp 22) (.tmp 28) 193 rfl (w.heap.size+1) 263 i _ 3 32 Tryz.underlying193 W A B C rfl aB v d.length (Yw d) rfl (by exact(Yv.alloc _).drew) ⟨z.heap.size,0,Z⟩ 1 1 [I J 3,Y z7,I J a] rfl rfl (by exact z6 (heap_alloc_new z _)) (by simp[y2]) aB aM az aF _ rfl (fun g r w1 j c _ _=>?_)
      obtain⟨N,_,u⟩:=P9 Yv K ((Below.refl _ _).alloc (z2 _) _).drew c;have d2:=(N 2).trans S;have d3:=(N 3).trans c3;have HO:=o j;have HE:=o u
      clear N c j u))
  go_wp2;go_ret;unfold Vv;rw[y.o.trans (WL b)];refine⟨⟨_,rfl,?_,aF⟩,l.o.trans HE.o⟩;have T:=HO.o;rw[Sp,lA];exact⟨T.1,T.2.imp id (fun⟨g,r,P,h1,h2,h3⟩=>⟨g,r,P,h1,az,h3⟩)⟩
end Go.Proofs.YtccikgogjfbpeaaGreatDoor
namespace Go.Proofs.YtccikgogjfbpeaaGreatDoor
def Zn (t:Tk)(m:ByteArray):Bool:=decide (t.sort=2)&&(t.text.toList==m.toList)
def Zp (ts:List Tk)(i:Nat):Tk:=ts.getD i ⟨3,z7,0⟩
def ZG (a:List Tk)(i:Nat)(m:ByteArray):Except Nat (Unit×Nat):=if Zn (Zp a i) m then .ok ((),i+1)else .error (Zp a i).line
def Yb (b:List Tk)(i a:Nat):Except Nat (Tk×Nat):=if(Zp b i).sort=a then .ok (Zp b i,i+1)else .error (Zp b i).line
def Va:ByteArray:=⟨#[114,111,117,116,101]⟩
def Uh:ByteArray:=⟨#[114,117,108,101]⟩
def Qf:ByteArray:=⟨#[98,105,110]⟩
def Vj:ByteArray:=⟨#[109,99,99]⟩
def Z9:ByteArray:=⟨#[97,109,111,117,110,116]⟩
def VG:ByteArray:=⟨#[99,117,114]⟩
def YU:ByteArray:=⟨#[100,101,99,108,105,110,101]⟩
def Yn:ByteArray:=⟨#[99,104,101,97,112,101,115,116]⟩
def Vk:ByteArray:=⟨#[59]⟩
def TK:ByteArray:=⟨#[58]⟩
def Y8:ByteArray:=⟨#[44]⟩
def Ue:ByteArray:=⟨#[46,46]⟩
def Sq:ByteArray:=⟨#[45,62]⟩
def U2 (c:List Tk)(i:Nat):Except Nat ((Tk×Tk)×Nat):=
 match Yb c i 1 with
 | .error l=>.error l
 | .ok (a,i1)=>match ZG c i1 Ue with
  | .error l=>.error l
  | .ok (_,i2)=>match Yb c i2 1 with
   | .error l=>.error l
   | .ok (b,i3)=>.ok ((a,b),i3)
def Uu {a i m}(h:Zn (Zp a i) m=true):i<a.length:=by
 rcases q6 i a.length with b|b
 ·exact b
 exfalso
 unfold Zn Zp at h;rw[gD,v7 b]at h;simp at h
def Yx {b i a t c}(h:Yb b i a=.ok (t,c)):t=Zp b i/\t.sort=a/\c=i+1:=by
 unfold Yb at h
 split at h
 ·injection h with h;injection h with d e;subst d e;exact⟨rfl,‹_›,rfl⟩
 cases h
def X5 (c:List Tk)(i a:Nat)(b:List Tk):Except Nat (List Tk×Nat):=
 if _h:Zn (Zp c i) Y8=true then
  match _ht:Yb c (i+1) a with
  | .error l=>.error l
  | .ok (t,i')=>X5 c i' a (b++[t])
 else .ok (b,i)
 termination_by c.length-i
 decreasing_by
  have d:=Uu _h;have e:=(Yx _ht).2.2;omega
def Xv (b:List Tk)(i a:Nat):Except Nat (List Tk×Nat):=
 match Yb b i a with
 | .error l=>.error l
 | .ok (t,i1)=>X5 b i1 a [t]
end Go.Proofs.YtccikgogjfbpeaaGreatDoor
namespace Go.Proofs.YtccikgogjfbpeaaGreatDoor
open Go.RowKit
structure Fr (S:Nat->Prop)(w w':R):Prop where
 os:w'.os=w.os
 tape:w'.tape=w.tape
 output:w'.output=w.output
 size:w.heap.size<=w'.heap.size
 block:∀k,k<w.heap.size->¬S k->w'.heap[k]?=w.heap[k]?
abbrev F0:R->R->Prop:=Fr (fun(_:Nat)=>False)
def Fr.refl (S w):Fr S w w:=⟨rfl,rfl,rfl,z2 _,fun _ _ _=>rfl⟩
def Fr.trans {S a b c}(h:Fr S a b)(k:Fr S b c):Fr S a c:=
 ⟨k.os.trans h.os,k.tape.trans h.tape,k.output.trans h.output,v8 h.size k.size,fun i d e=>(k.block i (nL d h.size) e).trans (h.block i d e)⟩
def Zo {S w}:Fr S w w:=Fr.refl _ _
def Fr.mono {S T w w'}(h:Fr S w w')(a:∀k,S k->T k:=by simp):Fr T w w':=⟨h.os,h.tape,h.output,h.size,fun k b c=>h.block k b fun d=>c (a k d)⟩
def Fr.monoNew {S T a w b}(h:Fr S a w)(k:Fr T w b)(e:∀i,T i->S i\/a.heap.size<=i):Fr S a b:=
 ⟨k.os.trans h.os,k.tape.trans h.tape,k.output.trans h.output,v8 h.size k.size,fun i c d=>
  (k.block i (nL c h.size) fun f=>(e i f).elim d (fun g=>z)).trans (h.block i c d)⟩
def Fr.of_below {S w a}(h:Below w.heap.size w a):Fr S w a:=⟨h.os,h.tape,h.output,h.size,fun k b _=>h.block k b⟩
def Fr.alloc {S a w}(h:Fr S a w)(o):Fr S a (w.alloc o):=
 h.trans (Fr.of_below ((Below.refl _ _).alloc (z2 _) o))
def Fr.drew {S a w}(h:Fr S a w):Fr S a w.drew:=h.trans ⟨rfl,rfl,rfl,z2 _,fun _ _ _=>rfl⟩
def Fr.setCell {S a w}(h:Fr S a w){p}(c:S p.block\/a.heap.size<=p.block)(u):Fr S a (w.setCell p u):=
 ⟨h.os,h.tape,h.output,by simpa using h.size,fun k d b=>by
  rw[Below.heap_setCell _ _ _ _ (fun e=>by subst e;exact c.elim b (fun f=>z))]
  exact h.block k d b⟩
def Fr.cell {S w w'}(h:Fr S w w'){p}(a:p.block<w.heap.size)(b:¬S p.block:=by simp):w'.cell? p=w.cell? p:=World.cell?_of_block (w:=w) (h.block p.block a b)
def Fr.frozen {S w w'}(h:Fr S w w'){p}(a:p.block<w.heap.size)(b:¬S p.block:=by simp):w'.frozen? p=w.frozen? p:=World.frozen?_of_block (w:=w) (h.block p.block a b)
def Fr.below {S w w'}(h:Fr S w w'){B}(c:B<=w.heap.size)(a:∀k,S k->B<=k:=by simp):Below B w w':=
 ⟨h.os,h.tape,h.output,h.size,fun k d=>h.block k z fun b=>aj (a k b)⟩
def QD (t:Tk):A:=y9 #[I J t.sort,Y t.text,I J t.line]
structure Pa (w:R)(p g cap:Nat)(ts:List Tk)(i:Nat):Prop where
 c0:w.cell? ⟨p,0,Z⟩=U (H (U ⟨g,0,Z⟩) ts.length cap)
 c1:w.cell? ⟨p,1,Z⟩=U (I J i)
 fz:∀o,w.frozen? ⟨p,o,Z⟩=false
 row:∀j t,ts[j]?=U t->w.cell? ⟨g,j*3,Z⟩=U (I J t.sort)/\w.cell? ⟨g,j*3+1,Z⟩=U (Y t.text)/\w.cell? ⟨g,j*3+2,Z⟩=U (I J t.line)
 ne:g≠p
 gl:g<w.heap.size
 lt:i<ts.length
 few:ts.length<=4000
 last:(ts.getLastD ⟨3,z7,0⟩).sort=3
def VP (w p g b f i t)(h:Pa w p g b f i)(j:f[i]?=U t):
  L O 156 #[C (U ⟨p,0,Z⟩)] w fun e a=>e=D (QD t)/\F0 w a:=by
 obtain⟨k,m,n,c,o,q,r,few,d⟩:=h;obtain⟨s,u,x⟩:=c i t j;have l:=bL w _ k;have y:=af i f.length;clear c d;go_enter Tryz.func156,Tryz.ntmps156;go_wp2
 go_region_held3 (fun a=>a.cell? ⟨p,0,Z⟩=U (H (U ⟨g,0,Z⟩) f.length b)/\a.cell? ⟨p,1,Z⟩=U (I J i)/\a.cell? ⟨g,i*3,Z⟩=U (I J t.sort)/\a.cell? ⟨g,i*3+1,Z⟩=U (Y t.text)/\a.cell? ⟨g,i*3+2,Z⟩=U (I J t.line)) (go_keep) (fail)
 go_wp2;exact bodyPost_ret (v:=QD t) (by simp[results,Tryz.results156,go_sem,QD]) rfl ⟨rfl,((Fr.refl _ _).alloc _).drew⟩
def Pa.fr {w w' p g cap ts i S}(h:Pa w p g cap ts i)(d:Fr S w w')(s:∀k,S k->k≠p/\k≠g:=by simp):Pa w' p g cap ts i:=by
 obtain⟨u,c1,v,n,x,m,y,few,l⟩:=h;have f:=bL w _ u
 have q:¬S p:=fun e=>(s p e).1 rfl
 have r:¬S g:=fun e=>(s g e).2 rfl
 refine⟨?_,?_,fun o=>?_,fun j t z=>?_,x,nL m d.size,y,few,l⟩
 ·rw[d.cell (p:=⟨p,0,Z⟩) f q];exact u
 ·rw[d.cell (p:=⟨p,1,Z⟩) f q];exact c1
 ·rw[d.frozen (p:=⟨p,o,Z⟩) f q];exact v o
 obtain⟨a,b,c⟩:=n j t z;rw[d.cell (p:=⟨g,j*3,Z⟩) m r,d.cell (p:=⟨g,j*3+1,Z⟩) m r,d.cell (p:=⟨g,j*3+2,Z⟩) m r];exact⟨a,b,c⟩
def Pa.next {w p g b c i t}(h:Pa w p g b c i)(m:c[i]?=U t)(n:t.sort≠3):
  Pa (w.setCell ⟨p,1,Z⟩ (I J (i+1:Nat))) p g b c (i+1):=by
 obtain⟨q,r,s,d,k,u,y,few,a⟩:=h;refine⟨?_,?_,fun o=>by simp[s o],fun j t v=>?_,k,by simpa using u,?_,few,a⟩
 ·rw[cO _ _ _ _ aA];exact q
 ·exact cS _ _ _ r
 ·have f:∀o,(⟨p,1,Z⟩:Addr)≠⟨g,o,Z⟩:=fun o e=>k (by injection e with x;exact x.symm)
  rw[cO _ _ _ _ (f _),cO _ _ _ _ (f _),cO _ _ _ _ (f _)];exact d j t v
 rcases q6 (i+1) c.length with l|l
 ·exact l
 exfalso
 apply n;have e:i=c.length-1:=z;rw[List.getLastD_eq_getLast?,List.getLast?_eq_getElem?,<-e,m]at a;exact a
def Rh (w p g a b i t m)(h:Pa w p g a b i)(l:b[i]?=U t)(d:Zn t m=true):
  L O 191 #[C (U ⟨p,0,Z⟩),Y m] w fun e n=>e=D (G true)/\Pa n p g a b (i+1)/\Fr (fun k=>k=p) w n:=by
 unfold Zn at d;rw[Bool.and_eq_true,decide_eq_true_eq]at d;obtain⟨s,y⟩:=d;have f:=o h;have j:=bL w _ h.c0;have z:i<=4000:=ak h.lt h.few;have u:=o (VP w p g a b i t h l);go_enter Tryz.func191,Tryz.ntmps191;go_wp2_with fail;refine u.o.mono ?_;rintro e v ⟨rfl,c⟩;have A:=(f.o.fr c).c1;have B:=(f.o.fr c).fz;have x:p<v.heap.size:=nL j c.size;have q:=o c;simp only[QD];simp only[s];go_wp2;go_ret;have r:=((f.o.fr q.o).next l az).fr (S:=fun _=>False) ((Fr.refl _ _).alloc (N #[I J 2,Y t.text,I J t.line] 263));rw[y5]at r;exact⟨rfl,r,((q.o.mono (T:=fun k=>k=p)).setCell (z1 rfl) _).alloc _⟩
def Pi (w p g b f i t m)(h:Pa w p g b f i)(q:f[i]?=U t)(r:Zn t m=false):
  L O 191 #[C (U ⟨p,0,Z⟩),Y m] w fun e u=>e=D (G false)/\F0 w u:=by
 unfold Zn at r;by_cases s:t.sort=2
 ·have v:(t.text.toList==m.toList)=false:=by simpa[s]using r
  have d:=o h;have c:=bL w _ h.c0;have x:i<=4000:=ak h.lt h.few;have j:=o (VP w p g b f i t h q);go_enter Tryz.func191,Tryz.ntmps191;go_wp2_with fail;refine j.o.mono ?_;rintro e k ⟨rfl,a⟩;have y:=(d.o.fr a).c1;have z:=(d.o.fr a).fz;have l:p<k.heap.size:=nL c a.size;have n:=o a;simp only[QD];simp only[s];go_wp2;go_ret;exact⟨rfl,n.o.alloc _⟩
 have v:((t.sort:Int) !=2)=true:=aF;have d:=o h;have c:=bL w _ h.c0;have x:i<=4000:=ak h.lt h.few;have j:=o (VP w p g b f i t h q);go_enter Tryz.func191,Tryz.ntmps191;go_wp2_with fail;refine j.o.mono ?_;rintro e k ⟨rfl,a⟩;have y:=(d.o.fr a).c1;have z:=(d.o.fr a).fz;have l:p<k.heap.size:=nL c a.size;have n:=o a;simp only[QD];go_wp2;go_ret;exact⟨rfl,n.o.alloc _⟩
def YL (t)(a:Nat)(b:Int)(w)(c:b=a):
  L O 194 #[QD t,I J b] w fun e d=>e=Zj a t.line/\F0 w d:=by
 subst c;unfold QD;go_enter Tryz.func194,Tryz.ntmps194;go_wp2;exact⟨rfl,rfl,(Fr.refl _ _).alloc _⟩
def Ec (w p g a b i t m)(h:Pa w p g a b i)(d:b[i]?=U t)(f:Zn t m=true):
  L O 158 #[C (U ⟨p,0,Z⟩),Y m] w fun e c=>e=D (.tuple #[])/\Pa c p g a b (i+1)/\Fr (fun k=>k=p) w c:=by
 go_enter Tryz.func158,Tryz.ntmps158
 go_wp2_with (go_at_call 191;refine(Rh w p g a b i t m h d f).mono ?_;rintro e n ⟨rfl,j,l⟩)
 go_end0
 exact⟨rfl,j,l⟩
def Bt (w p g a c i t m)(h:Pa w p g a c i)(d:c[i]?=U t)(l:Zn t m=false):
  L O 158 #[C (U ⟨p,0,Z⟩),Y m] w fun e n=>e=Zj 3 t.line/\F0 w n:=by
 have f:=o h;go_enter Tryz.func158,Tryz.ntmps158
 go_wp2_with (go_at_call 191;refine(Pi w p g a c i t m f.o d l).mono ?_;rintro e r ⟨rfl,b⟩;have j:=o b)
 refine(VP _ p g a c i t (f.o.fr j.o) d).mono ?_;rintro e s ⟨rfl,b⟩;have q:=o (j.o.trans b);go_wp2_with fail;refine(YL t 3 _ _ aD).mono ?_;rintro e u ⟨k,b⟩;unfold Zj at k;subst k;exact⟨rfl,rfl,q.o.trans b⟩
def zV (w p g b f i t a)(q:Int)(h:Pa w p g b f i)(m:f[i]?=U t)(u:t.sort=a)(E:a≠3)(x:q=a):
    L O 229 #[C (U ⟨p,0,Z⟩),I J q] w fun e r=>e=D (QD t)/\Pa r p g b f (i+1)/\Fr (fun k=>k=p) w r:=by
  subst x;have j:=Za h;have n:=bL w _ h.c0;have F:i<=4000:=ak h.lt h.few;have G:=Za (VP w p g b f i t h m);go_enter Tryz.func229,Tryz.ntmps229;go_wp2_with fail;refine(VP _ p g b f i t (j.o.fr (S:=fun _=>False) ((Fr.refl _ _).alloc _)) m).mono ?_;rintro e c ⟨rfl,d⟩;have l:=Za (((Fr.refl _ _).alloc _).trans d);have H:=(j.o.fr l.o).c1;have K:=(j.o.fr l.o).fz;have y:p<c.heap.size:=nL n l.o.size
  have M:w.heap.size<c.heap.size:=by have:=d.size;simp at this;omega
  have P:c.cell? ⟨w.heap.size,0,Z⟩=U (I J 0):=by rw[d.cell (p:=⟨w.heap.size,0,Z⟩) aA];simp[go_sem]
  have Q:c.cell? ⟨w.heap.size,1,Z⟩=U (Y z7):=by rw[d.cell (p:=⟨w.heap.size,1,Z⟩) aA];simp[go_sem];rfl
  have R:c.cell? ⟨w.heap.size,2,Z⟩=U (I J 0):=by rw[d.cell (p:=⟨w.heap.size,2,Z⟩) aA];simp[go_sem]
  have V:∀o,c.frozen? ⟨w.heap.size,o,Z⟩=false:=fun o=>by rw[d.frozen (p:=⟨w.heap.size,o,Z⟩) aA];simp[go_sem]
  have z:¬p=w.heap.size:=az;have A:¬w.heap.size=p:=az;simp only[QD,u];go_wp2;have B:=j.o.gl;have s:=((j.o.fr l.o).next m az).fr (S:=fun k=>k=w.heap.size)
    (((((Fr.refl (fun k=>k=w.heap.size) _).setCell (p:=⟨w.heap.size,0,Z⟩) (z1 rfl) (I J a)).setCell (p:=⟨w.heap.size,1,Z⟩) (z1 rfl) (Y t.text)).setCell (p:=⟨w.heap.size,2,Z⟩) (z1 rfl) (I J t.line)).alloc (N #[I J a,Y t.text,I J t.line] 263)) (fun k W=>az)
  rw[y5]at s
  exact bodyPost_ret (v:=QD t) (by simp[results,Tryz.results229,go_sem,QD, *]) rfl ⟨rfl,s,
    (((((l.o.mono (T:=fun k=>k=p)).setCell (z1 rfl) _).setCell (y7 (z2 _)) _).setCell (y7 (z2 _)) _).setCell (y7 (z2 _)) _).alloc _⟩
def vB (w p g b c i t a)(f:Int)(h:Pa w p g b c i)(k:c[i]?=U t)(s:t.sort≠a)(l:f=a):
  L O 229 #[C (U ⟨p,0,Z⟩),I J f] w fun e m=>e=Zj 3 t.line/\F0 w m:=by
 subst l;have u:((t.sort:Int) !=(a:Int))=true:=aF;have n:=o h;have q:=bL w _ h.c0;go_enter Tryz.func229,Tryz.ntmps229;go_wp2_with fail;refine(VP _ p g b c i t (n.o.fr (S:=fun _=>False) ((Fr.refl _ _).alloc _)) k).mono ?_;rintro e v ⟨rfl,d⟩;have r:=o (((Fr.refl _ _).alloc _).trans d);simp only[QD];go_wp2_with fail;refine(YL t 3 _ _ aD).mono ?_;rintro e x ⟨j,d⟩;unfold Zj at j;subst j;exact⟨rfl,rfl,(r.o.alloc _).trans d⟩
end Go.Proofs.YtccikgogjfbpeaaGreatDoor
namespace Go.Proofs.YtccikgogjfbpeaaGreatDoor
open Go.RowKit
def Zm {α:Type}(r:Except Nat (α×Nat))(c:α->A->R->Prop)(w:R)(p g d:Nat)(f:List Tk)(e:Ending)(b:R):Prop:=
 match r with
 | .ok (a,i)=>(∃v,e=D v/\c a v b)/\Pa b p g d f i/\Fr (fun k=>k=p) w b
 | .error l=>e=Zj 3 l/\Fr (fun k=>k=p) w b
def Zm.ok {α r b w p g c ts e w'}{a:α}{i}(d:r=.ok (a,i)):
  Zm r b w p g c ts e w'↔(∃v,e=D v/\b a v w')/\Pa w' p g c ts i/\Fr (fun k=>k=p) w w':=by subst d;exact Iff.rfl
def Zm.err {α}{r:Except Nat (α×Nat)}{a w p g b ts e c l}(d:r=.error l):
  Zm r a w p g b ts e c↔e=Zj 3 l/\Fr (fun k=>k=p) w c:=by subst d;exact Iff.rfl
def Pa.at {w p g cap ts i}(h:Pa w p g cap ts i):ts[i]?=U (Zp ts i):=by
 unfold Zp;rw[gD,gE h.lt];rfl
def VQ (w p g b c)(i a:Nat)(f:Int)(h:Pa w p g b c i)(l:a≠3)(k:f=a):
  L O 229 #[C (U ⟨p,0,Z⟩),I J f] w (Zm (Yb c i a) (fun t v _=>v=QD t) w p g b c):=by
 by_cases j:(Zp c i).sort=a
 ·exact(zV w p g b c i (Zp c i) a f h h.at j l k).mono fun e m d=>(Zm.ok (by unfold Yb;rw[if_pos j])).2 ⟨⟨_,d.1,rfl⟩,d.2⟩
 exact(vB w p g b c i (Zp c i) a f h h.at j k).mono fun e m d=>(Zm.err (by unfold Yb;rw[if_neg j])).2 ⟨d.1,d.2.mono⟩
def Ui (w p g a b i m)(h:Pa w p g a b i):
  L O 158 #[C (U ⟨p,0,Z⟩),Y m] w (Zm (ZG b i m) (fun _ v _=>v=.tuple #[]) w p g a b):=by
 cases d:Zn (Zp b i) m with
 |true=>exact(Ec w p g a b i (Zp b i) m h h.at d).mono fun e f c=>(Zm.ok (by unfold ZG;rw[if_pos d])).2 ⟨⟨_,c.1,rfl⟩,c.2⟩
 |false=>exact(Bt w p g a b i (Zp b i) m h h.at d).mono fun e f c=>(Zm.err (by unfold ZG;rw[d];rfl)).2 ⟨c.1,c.2.mono⟩
def bC {w:R}{g cs t}(h:w.heap[g]?=U (N cs t))(j v)(a:cs[j]?=U v):w.cell? ⟨g,j,Z⟩=U v:=by
 rw[cell_of_row w g j cs t (0,0) h];exact a
def Zc {w:R}{g cs t}(h:w.heap[g]?=U (N cs t))(j){v}(a:cs[j]?=U v:=by exact rfl):w.cell? ⟨g,j,Z⟩=U v:=bC h j v a
def ap {w:R}{g cs t}(h:w.heap[g]?=U (N cs t)){v0 v1}(b0:cs[0]?=U v0:=by exact rfl)(b1:cs[1]?=U v1:=by exact rfl):w.cell? ⟨g,0,Z⟩=U v0/\w.cell? ⟨g,1,Z⟩=U v1:=⟨Zc h 0 b0,Zc h 1 b1⟩
def aq {w:R}{g cs t}(h:w.heap[g]?=U (N cs t)){v0 v1 v2}(b0:cs[0]?=U v0:=by exact rfl)(b1:cs[1]?=U v1:=by exact rfl)(b2:cs[2]?=U v2:=by exact rfl):w.cell? ⟨g,0,Z⟩=U v0/\w.cell? ⟨g,1,Z⟩=U v1/\w.cell? ⟨g,2,Z⟩=U v2:=⟨Zc h 0 b0,Zc h 1 b1,Zc h 2 b2⟩
def au {w:R}{g cs t}(h:w.heap[g]?=U (N cs t)){v0 v1 v2 v3}(b0:cs[0]?=U v0:=by exact rfl)(b1:cs[1]?=U v1:=by exact rfl)(b2:cs[2]?=U v2:=by exact rfl)(b3:cs[3]?=U v3:=by exact rfl):w.cell? ⟨g,0,Z⟩=U v0/\w.cell? ⟨g,1,Z⟩=U v1/\w.cell? ⟨g,2,Z⟩=U v2/\w.cell? ⟨g,3,Z⟩=U v3:=⟨Zc h 0 b0,Zc h 1 b1,Zc h 2 b2,Zc h 3 b3⟩
def ax {w:R}{g cs t}(h:w.heap[g]?=U (N cs t)){v0 v1 v2 v3 v4 v5}(b0:cs[0]?=U v0:=by exact rfl)(b1:cs[1]?=U v1:=by exact rfl)(b2:cs[2]?=U v2:=by exact rfl)(b3:cs[3]?=U v3:=by exact rfl)(b4:cs[4]?=U v4:=by exact rfl)(b5:cs[5]?=U v5:=by exact rfl):w.cell? ⟨g,0,Z⟩=U v0/\w.cell? ⟨g,1,Z⟩=U v1/\w.cell? ⟨g,2,Z⟩=U v2/\w.cell? ⟨g,3,Z⟩=U v3/\w.cell? ⟨g,4,Z⟩=U v4/\w.cell? ⟨g,5,Z⟩=U v5:=⟨Zc h 0 b0,Zc h 1 b1,Zc h 2 b2,Zc h 3 b3,Zc h 4 b4,Zc h 5 b5⟩
def ay {w:R}{g cs t}(h:w.heap[g]?=U (N cs t)){v0 v1 v2 v3 v4 v5 v6 v7 v8}(b0:cs[0]?=U v0:=by exact rfl)(b1:cs[1]?=U v1:=by exact rfl)(b2:cs[2]?=U v2:=by exact rfl)(b3:cs[3]?=U v3:=by exact rfl)(b4:cs[4]?=U v4:=by exact rfl)(b5:cs[5]?=U v5:=by exact rfl)(b6:cs[6]?=U v6:=by exact rfl)(b7:cs[7]?=U v7:=by exact rfl)(b8:cs[8]?=U v8:=by exact rfl):w.cell? ⟨g,0,Z⟩=U v0/\w.cell? ⟨g,1,Z⟩=U v1/\w.cell? ⟨g,2,Z⟩=U v2/\w.cell? ⟨g,3,Z⟩=U v3/\w.cell? ⟨g,4,Z⟩=U v4/\w.cell? ⟨g,5,Z⟩=U v5/\w.cell? ⟨g,6,Z⟩=U v6/\w.cell? ⟨g,7,Z⟩=U v7/\w.cell? ⟨g,8,Z⟩=U v8:=⟨Zc h 0 b0,Zc h 1 b1,Zc h 2 b2,Zc h 3 b3,Zc h 4 b4,Zc h 5 b5,Zc h 6 b6,Zc h 7 b7,Zc h 8 b8⟩
def bF {w:R}{g a t}(h:w.heap[g]?=U (N a t))(j):w.frozen? ⟨g,j,Z⟩=false:=by
 simp[World.frozen?,h]
def Fr.whole {S w b}(h:Fr S w b){g o}(c:w.heap[g]?=U o)(d:¬S g:=by simp):b.heap[g]?=U o:=by
 have a:g<w.heap.size:=(iA.1 c).1;rw[h.block g a d];exact c
def U3 (a:Tk×Tk):A:=y9 #[I J a.1.sort,Y a.1.text,I J a.1.line,I J a.2.sort,Y a.2.text,I J a.2.line]
def Hb (w p g f n i)(h:Pa w p g f n i):
  L O 230 #[C (U ⟨p,0,Z⟩)] w (Zm (U2 n i) (fun ab v _=>v=U3 ab) w p g f n):=by
 have HP:=o h;have N:p<w.heap.size:=bL w _ h.c0;go_enter Tryz.func230,Tryz.ntmps230;go_wp2_with fail;refine(VQ _ p g f n i 1 _ (HP.o.fr (S:=fun _=>False) (Zo.alloc _)) aB aD).mono ?_;intro e j s
 cases F:Yb n i 1 with
 |error l=>
  obtain⟨t,b⟩:=(Zm.err F).1 s;unfold Zj at t;subst t;exact⟨rfl,(Zm.err (by unfold U2;rw[F])).2 ⟨rfl,(Zo.alloc _).trans b⟩⟩
 |ok r=>
  obtain⟨a,i1⟩:=r;obtain⟨⟨v,rfl,rfl⟩,P,b⟩:=(Zm.ok F).1 s;have Q:=o P;have y:=o ((Zo.alloc _).trans b);have R:=o (b.whole (aN w _) az);have f0:p<j.heap.size:=nL N y.o.size
  have g0:w.heap.size<j.heap.size:=by have:=b.size;simp at this;omega
  have z:=o F;simp only[QD];go_wp2_with fail;refine(Ui _ p g f n i1 Ue (Q.o.fr (S:=fun _=>False) (Zo.alloc _))).mono ?_;intro e w2 s
  cases G:ZG n i1 Ue with
  |error l=>
   obtain⟨t,b⟩:=(Zm.err G).1 s;unfold Zj at t;subst t;exact⟨rfl,(Zm.err (by unfold U2;rw[z.o];simp only;rw[G])).2 ⟨rfl,y.o.trans ((Zo.alloc _).trans b)⟩⟩
  |ok r=>
   obtain⟨u,i2⟩:=r;obtain⟨⟨v,rfl,rfl⟩,T,b⟩:=(Zm.ok G).1 s;have V:=o T;have B:=o (y.o.trans ((Zo.alloc _).trans b));have H:=o (b.whole (aN j _) az);have W:=o (b.whole (((Fr.refl (fun _=>False) _).alloc _).whole R.o) az);have D:=o G;obtain⟨a0,a1,a2⟩:=aq H.o;go_wp2;refine wp_region_held_drew (S:=fun X=>X.cell? ⟨j.heap.size,0,Z⟩=U (I J a.sort)/\X.cell? ⟨j.heap.size,1,Z⟩=U (Y a.text)/\X.cell? ⟨j.heap.size,2,Z⟩=U (I J a.line)) aC ?_ (fun x=>?_)
   ·exact⟨by simpa using a0,by simpa using a1,by simpa using a2⟩
   refine ZJ 0 x ?_;go_frame;refine ZJ 1 x ?_;go_frame;refine WI 2 (fun K hK=>?_);go_simp;refine(VQ _ p g f n i2 1 _ (V.o.fr (S:=fun _=>False) Zo.drew) aB aD).mono ?_;intro e w3 s
   cases q:Yb n i2 1 with
   |error l=>
    obtain⟨t,b⟩:=(Zm.err q).1 s;unfold Zj at t;subst t;exact⟨rfl,(Zm.err (by unfold U2;rw[z.o];simp only;rw[D.o];simp only;rw[q])).2 ⟨rfl,B.o.trans (Zo.drew.trans b)⟩⟩
   |ok r=>
    obtain⟨c,i3⟩:=r;obtain⟨⟨v,rfl,rfl⟩,b0,b⟩:=(Zm.ok q).1 s;have d0:=o b0;have e0:=o (B.o.trans (Zo.drew.trans b));have A:=b.whole (g:=j.heap.size) H.o az;have d:=b.whole (g:=w.heap.size) W.o az;have E:=o q;refine hK.out _ _ ⟨Zc A 0,Zc A 1,Zc A 2⟩ (fun x=>?_);obtain⟨r0,r1,r2,r3,r4,r5⟩:=ax d;have rf:=bF d;simp only[QD]
    try go_frame
    refine ZJ 3 x ?_;go_frame;refine WI 4 (fun K hK=>?_);go_simp;have M:=((((((Fr.refl (fun k=>k=w.heap.size) w3).setCell (p:=⟨w.heap.size,0,Z⟩) (z1 rfl) (I J a.sort)).setCell (p:=⟨w.heap.size,1,Z⟩) (z1 rfl) (Y a.text)).setCell (p:=⟨w.heap.size,2,Z⟩) (z1 rfl) (I J a.line)).setCell (p:=⟨w.heap.size,3,Z⟩) (z1 rfl) (I J c.sort)).setCell (p:=⟨w.heap.size,4,Z⟩) (z1 rfl) (Y c.text)).setCell (p:=⟨w.heap.size,5,Z⟩) (z1 rfl) (I J c.line);have m:j.heap.size<w3.heap.size:=bL w3 _ x.1;have HW:=o M;refine hK.out _ _ ⟨(M.cell (p:=⟨j.heap.size,0,Z⟩) m aF).trans x.1,(M.cell (p:=⟨j.heap.size,1,Z⟩) m aF).trans x.2.1,(M.cell (p:=⟨j.heap.size,2,Z⟩) m aF).trans x.2.2⟩ (fun _=>?_)
    try go_frame
    refine wpAnyH_done aC ?_ _;go_wp2;have h0:=HP.o.gl;have hn:=d0.o.fr HW.o (fun k hk=>az);exact bodyPost_ret (v:=U3 (a,c)) (by simp[results,Tryz.results230,go_sem,U3, *]) rfl ((Zm.ok (by unfold U2;rw[z.o];simp only;rw[D.o];simp only;rw[E.o])).2 ⟨⟨_,rfl,rfl⟩,hn,e0.o.monoNew HW.o (fun k hk=>az)⟩)
end Go.Proofs.YtccikgogjfbpeaaGreatDoor
namespace Go.Proofs.YtccikgogjfbpeaaGreatDoor
open Go.RowKit
def oF {w f S base e a v n i}(h:w.ownsRow base e a v n i)(j:Fr S w f)(l:∀k,S k->k<base:=by simp):f.ownsRow base e a v n i:=by
 refine⟨h.1,?_⟩;rcases h.2 with m|⟨g,cap,c,rfl,o,d,b⟩
 ·exact .inl m
 refine .inr ⟨g,cap,c,rfl,o,?_,b⟩;exact j.whole d (fun p=>aj (l g p))
def oS {w:R}{base a e b v n f}(h:w.ownsRow base e b v n f)(k:a<=base):w.ownsRow a e b v n f:=
 ⟨h.1,h.2.imp id (fun⟨g,c,d,i,l,j⟩=>⟨g,c,d,i,z,j⟩)⟩
def Fr.grown {S a w d b}(h:Fr S a w)(c:w.grownBy d b)(f:∀k,b=U k->S k\/a.heap.size<=k):Fr S a d:=
 h.monoNew (T:=fun k=>b=U k) ⟨c.os,c.tape,c.output,c.size,fun k g i=>c.block k g (fun e=>i e.symm)⟩ f
def WM (w a):M (F0 w (w.alloc a))/\M ((w.alloc a).heap[w.heap.size]?=U a):=⟨Zo.alloc _,aN w _⟩
def pP (w a):∃W,M (w.alloc a=W)/\M (F0 w W)/\M (W.heap[w.heap.size]?=U a):=⟨_,rfl,WM w a⟩
def TL (w a b):M (F0 w ((w.alloc a).alloc b))/\M (((w.alloc a).alloc b).heap[w.heap.size]?=U a)/\M (((w.alloc a).alloc b).heap[w.heap.size+1]?=U b):=
 ⟨(WM w a).1.out.alloc _,(WM _ b).1.out.whole (aN w _),by have e:=aN (w.alloc a) b;rw[show(w.alloc a).heap.size=w.heap.size+1 from y]at e;exact e⟩
def uS (w a b c):M (F0 w (((w.alloc a).alloc b).alloc c))/\M ((((w.alloc a).alloc b).alloc c).heap[w.heap.size]?=U a)/\M ((((w.alloc a).alloc b).alloc c).heap[w.heap.size+1]?=U b)/\M ((((w.alloc a).alloc b).alloc c).heap[w.heap.size+1+1]?=U c):=
 ⟨(TL w a b).1.out.alloc _,(WM _ c).1.out.whole (TL w a b).2.1.out,(WM _ c).1.out.whole (TL w a b).2.2.out,by have e:=(TL (w.alloc a) b c).2.2.out;rw[show(w.alloc a).heap.size=w.heap.size+1 from y]at e;exact e⟩
def Kk (w a):F0 w (w.alloc a)/\(w.alloc a).heap[w.heap.size]?=U a:=WM w a
def Hc (w a b):F0 w ((w.alloc a).alloc b)/\((w.alloc a).alloc b).heap[w.heap.size]?=U a/\((w.alloc a).alloc b).heap[w.heap.size+1]?=U b:=TL w a b
def zW (w a b c):F0 w (((w.alloc a).alloc b).alloc c)/\(((w.alloc a).alloc b).alloc c).heap[w.heap.size]?=U a/\(((w.alloc a).alloc b).alloc c).heap[w.heap.size+1]?=U b/\(((w.alloc a).alloc b).alloc c).heap[w.heap.size+1+1]?=U c:=uS w a b c
def qr:Nat->List Bool->Nat->Option Nat
 |_,[],_=>Z
 |n,true::r,k=>qr n r (k+1)
 |0,false::_,k=>U k
 |n+1,false::r,k=>qr n r (k+1)
def Yy {P l Q f S}(n){i e v d b a w}(j:S w)(h:wpAnyH P f l.toArray Q S d (b.setIfInBounds i true) (a.put e.dst v) w)(_:qr n b.toList 0=U i:=by rfl)(k:zP l i=U e:=by rfl)(m:Region.noSelect l.toArray=true:=by kernel_rfl)(o:Region.free f l.toArray b i=true:=by kernel_rfl)(p:(Region.ready f l.toArray b).contains i=true:=by kernel_rfl)(q:∀c a w,Q (.panic c) (a.put e.dst v) w->Q (.panic c) a w:=by exact fun _ _ _ h=>h)(g:Region.wanted e (yielded l.toArray a.tmps)=true:=by rfl)(r:∀w,S w->(execOp a.eval e).run P w=.ok (.value v) w:=by(intro w g;(try dsimp only at g);go_simp;with_reducible rfl)):wpAnyH P f l.toArray Q S (d+1) b a w:=
 TY i k m o p q g r j h
def tN {P l Q e S}(n){i f d b a w}(g:S w)(h:wpAnyH P e l.toArray Q S d (b.setIfInBounds i true) (a.put f.dst undef) w)(_:qr n b.toList 0=U i:=by rfl)(j:zP l i=U f:=by rfl)(k:Region.noSelect l.toArray=true:=by kernel_rfl)(m:Region.free e l.toArray b i=true:=by kernel_rfl)(o:(Region.ready e l.toArray b).contains i=true:=by kernel_rfl)(p:∀c a w,Q (.panic c) (a.put f.dst undef) w->Q (.panic c) a w:=by exact fun _ _ _ h=>h)(q:Region.wanted f (yielded l.toArray a.tmps)=false:=by rfl):wpAnyH P e l.toArray Q S (d+1) b a w:=
 wpAnyH_take ((J4 l i).trans j) k m o p (y7 ⟨q,rfl⟩) g h
def zX {c i a b}(h:Zn (Zp c i) Y8=false):X5 c i a b=.ok (b,i):=by
 rw[X5,dif_neg (by simp[h])]
def Bu {b i a c l}(h:Zn (Zp b i) Y8=true)(d:Yb b (i+1) a=.error l):X5 b i a c=.error l:=by
 rw[X5,dif_pos h];split<;>simp_all
def zY {c i a b t d}(h:Zn (Zp c i) Y8=true)(e:Yb c (i+1) a=.ok (t,d)):X5 c i a b=X5 c d a (b++[t]):=by
 rw[X5,dif_pos h];split<;>simp_all
def N9 (w p g n d)(i b:Nat)(i1:Int)(h:Pa w p g n d i)(hw:b≠3)(e1:i1=b):
  L O 231 #[C (U ⟨p,0,Z⟩),I J i1] w (Zm (Xv d i b) (fun l v w'=>w'.ownsRow w.heap.size 263 3 v l.length (Yw l)) w p g n d):=by
 subst e1;have HP:=o h;have o0:p<w.heap.size:=bL w _ h.c0;have l0:d.length<=4000:=h.few;go_enter Tryz.func231,Tryz.ntmps231;go_wp2_with fail;refine(VQ _ p g n d i b _ HP.o hw aD).mono ?_;intro e w1 A
 cases B:Yb d i b with
 |error l=>
  obtain⟨D,q⟩:=(Zm.err B).1 A;unfold Zj at D;subst D;exact⟨rfl,(Zm.err (by unfold Xv;rw[B])).2 ⟨rfl,q⟩⟩
 |ok r=>
  obtain⟨a,Q⟩:=r;obtain⟨⟨v,rfl,rfl⟩,X,q⟩:=(Zm.ok B).1 A;have a0:=o X;have E:=o q
  have b0:M (Xv d i b=X5 d Q b [a]):=by show _=_;unfold Xv;rw[B]
  have p0:=(Yx B).2.2;have HJ:M (1<=Q):=aS;simp only[QD];go_wp2
  go_loopg [5] (d.length-Q) (fun m l wr=>∃j f,m=d.length-j/\M (Pa wr p g n d j)/\M (Fr (fun k=>k=p) w wr)/\M (wr.ownsRow w.heap.size 263 3 l f.length (Yw f))/\M (f.length<=j)/\M (Xv d i b=X5 d j b f))
  case atStart=>
   refine⟨Q,[a],rfl,a0.o.fr (S:=fun _=>False) (Zo.alloc _),E.o.alloc _,?_,HJ.o,b0.o⟩;exact World.ownsRow_lit (base:=w.heap.size) w1 #[I J a.sort,Y a.text,I J a.line] 1 E.o.size (by unfold maxLen;decide) rfl
  obtain⟨j,f,rfl,t,F,HO,HL,HR⟩:=hrel
  cases R:Zn (Zp d j) Y8 with
  |false=>
   go_wp2_with fail;refine(Pi wr p g n d j _ Y8 t.o t.o.at R).mono ?_;rintro e w2 ⟨rfl,q⟩;have s:=o q;go_wp2;go_ret;exact(Zm.ok (HR.o.trans (zX R))).2 ⟨⟨_,rfl,oF HO.o s.o⟩,t.o.fr s.o,F.o.trans (s.o.mono)⟩
  |true=>
   go_wp2_with fail;refine(Rh wr p g n d j _ Y8 t.o t.o.at R).mono ?_;rintro e w2 ⟨rfl,G,q⟩;have d0:=o G;have s:=o (F.o.trans q);have e0:=o (oF HO.o q (fun k y=>az));have H:=o R;have q0:j+1<d.length:=G.lt;go_wp2_with fail;refine(VQ _ p g n d (j+1) b _ d0.o hw aD).mono ?_;intro e w3 A
   cases u:Yb d (j+1) b with
   |error l=>
    obtain⟨D,q⟩:=(Zm.err u).1 A;unfold Zj at D;subst D;exact⟨rfl,(Zm.err (HR.o.trans (Bu H.o u))).2 ⟨rfl,s.o.trans q⟩⟩
   |ok r=>
    obtain⟨c,j3⟩:=r;obtain⟨⟨v,rfl,rfl⟩,f0,q⟩:=(Zm.ok u).1 A;have g0:=o f0;have K:=o (s.o.trans q);have N:=o (oF e0.o q (fun k y=>az));have r0:=(Yx u).2.2;have h0:=o (HR.o.trans (zY H.o u));have m0:=HL.o;simp only[QD]
    go_wp2_with (at_builtin;refine ao w.heap.size U1 Tryz.underlying193 _ f.length (Yw f) ?h1 ⟨w3.heap.size,0,Z⟩ [I J c.sort,Y c.text,I J c.line] ?h2 ?_ (k4:=?h6))
    case h1=>exact N.o.alloc _
    case h2=>exact z6 (aN w3 _)
    case h6=>simp;have:=K.o.size;omega
    intro g2 n0 w4 P x _ _;have i0:=o P
    have z:∀k,u5.ownBlock=U k->w.heap.size<=k:=fun k y=>(N.o.lt k y).1
    have j0:=o ((K.o.alloc _).grown x (fun k y=>y7 (z k y)));have s0:=HP.o.gl;have k0:=o (g0.o.fr (S:=fun k=>w.heap.size<=k) ((Zo.alloc _).grown x (fun k y=>z1 (z k y))) (fun k y=>az));go_wp2;go_roundg (d.length-j3)
    case measure=>omega
    refine⟨j3,f++[c],rfl,k0.o,j0.o,?_,?_,h0.o⟩
    ·show q4 _ _ _ _ _ _ _
     rw[Sp,lA];exact i0.o
    show _<=_
    simp;omega
end Go.Proofs.YtccikgogjfbpeaaGreatDoor
namespace Go.Proofs.YtccikgogjfbpeaaGreatDoor
def Y1 {α β:Type}(r:Except Nat (α×Nat))(f:α->Nat->Except Nat (β×Nat)):Except Nat (β×Nat):=
 match r with
 | .error l=>.error l
 | .ok (a,i)=>f a i
def Zh {α β r}{f:α->Nat->Except Nat (β×Nat)}{a i}(h:r=.ok (a,i)):Y1 r f=f a i:=by rw[h];rfl
def Ye {α β r}{f:α->Nat->Except Nat (β×Nat)}{l}(h:r=.error l):Y1 r f=.error l:=by rw[h];rfl
structure Ma where
 name:Tk
 base:Tk
 rate:Tk
structure Bv where
 decline:Bool
 cheapest:Bool
 routes:List Tk
structure Pj where
 name:Tk
 rank:Tk
 bin:Tk×Tk
 mcc:List Tk
 amount:Option (Tk×Tk)
 cur:List Tk
 act:Bv
inductive VC where
 |route (r:Ma)
 |rule (r:Pj)
def WN (d:List Tk)(i:Nat):Except Nat (Ma×Nat):=
 Y1 (Yb d i 0) fun a i=>Y1 (Yb d i 1) fun b i=>Y1 (Yb d i 1) fun c i=>.ok (⟨a,b,c⟩,i)
def Xq (a:List Tk)(i:Nat)(b:ByteArray):Except Nat (List Tk×Nat):=if Zn (Zp a i) b then Xv a (i+1) 1 else .ok ([],i)
def Wz (a:List Tk)(i:Nat)(b:ByteArray):Except Nat (Option (Tk×Tk)×Nat):=if Zn (Zp a i) b then Y1 (U2 a (i+1)) fun c i=>.ok (U c,i)else .ok (Z,i)
def Xr (a:List Tk)(i:Nat):Except Nat (Bv×Nat):=
 if Zn (Zp a i) YU then .ok (⟨true,false,[]⟩,i+1)
 else if Zn (Zp a i) Yn then Y1 (Xv a (i+1) 0) fun l i=>.ok (⟨false,true,l⟩,i)
 else Y1 (Xv a i 0) fun l i=>.ok (⟨false,false,l⟩,i)
def Wo (a:List Tk)(i:Nat):Except Nat (Pj×Nat):=
 Y1 (Yb a i 0) fun c i=>Y1 (Yb a i 1) fun d i=>Y1 (ZG a i TK) fun _ i=>Y1 (ZG a i Qf) fun _ i=>
 Y1 (U2 a i) fun e i=>Y1 (Xq a i Vj) fun f i=>Y1 (Wz a i Z9) fun b i=>Y1 (Xq a i VG) fun g i=>
 Y1 (ZG a i Sq) fun _ i=>Y1 (Xr a i) fun h i=>.ok (⟨c,d,e,f,b,g,h⟩,i)
def ZW (a:List Tk)(i:Nat):Except Nat (VC×Nat):=
 if Zn (Zp a i) Va then Y1 (WN a (i+1)) fun r i=>.ok (.route r,i)
 else Y1 (ZG a i Uh) fun _ i=>Y1 (Wo a i) fun r i=>.ok (.rule r,i)
end Go.Proofs.YtccikgogjfbpeaaGreatDoor
namespace Go.Proofs.YtccikgogjfbpeaaGreatDoor
open Go.RowKit
def Yq {w:R}{g a t}(h:w.heap[g]?=U (N a t))(j u):(w.setCell ⟨g,j,Z⟩ u).heap[g]?=U (N (a.setIfInBounds j u) t):=by
 simp[World.setCell,Array.getElem?_modify,h]
def Ri (w:R)(a b):((w.alloc a).alloc b).heap[w.heap.size+1]?=U b:=by
 have h:(w.alloc a).heap.size=w.heap.size+1:=y;rw[<-h];exact aN _ _
def UO (w:R)(g j:Nat)(t:Tk):R:=((w.setCell ⟨g,j,Z⟩ (I J t.sort)).setCell ⟨g,j+1,Z⟩ (Y t.text)).setCell ⟨g,j+2,Z⟩ (I J t.line)
def WC (w g j t):Fr (fun k=>k=g) w (UO w g j t):=
  (((Fr.refl (fun k=>k=g) w).setCell (p:=⟨g,j,Z⟩) (z1 rfl) _).setCell (p:=⟨g,j+1,Z⟩) (z1 rfl) _).setCell (p:=⟨g,j+2,Z⟩) (z1 rfl) _
def VH {w g a t}(h:w.heap[g]?=U (N a t))(j x):
  (UO w g j x).heap[g]?=U (N (((a.setIfInBounds j (I J x.sort)).setIfInBounds (j+1) (Y x.text)).setIfInBounds (j+2) (I J x.line)) t):=
 Yq (Yq (Yq h j _) (j+1) _) (j+2) _
def U4 (r:Ma):A:=y9 #[I J r.name.sort,Y r.name.text,I J r.name.line,I J r.base.sort,Y r.base.text,I J r.base.line,I J r.rate.sort,Y r.rate.text,I J r.rate.line]
def Ce:Array A:=#[I J 0,Y ⟨#[]⟩,I J 0,I J 0,Y ⟨#[]⟩,I J 0,I J 0,Y ⟨#[]⟩,I J 0]
def Bw (w p g d m i)(h:Pa w p g d m i):
    L O 192 #[C (U ⟨p,0,Z⟩)] w (Zm (WN m i) (fun r v _=>v=U4 r) w p g d m):=by
  have HP:M (Pa w p g d m i):=h;have l0:p<w.heap.size:=bL w _ h.c0;have m0:g<w.heap.size:=h.gl;go_enter Tryz.func192,Tryz.ntmps192;go_wp2_with fail;refine(VQ _ p g d m i 0 _ (HP.o.fr (S:=fun _=>False) ((Zo.alloc _).alloc _)) aB aD).mono ?_;intro e u z
  cases q:Yb m i 0 with
  | error l=>
    obtain⟨A,n⟩:=(Zm.err q).1 z;unfold Zj at A;subst A;exact⟨rfl,(Zm.err (by unfold WN;rw[Ye q])).2 ⟨rfl,((Zo.alloc _).alloc _).trans n⟩⟩
  | ok r=>
    obtain⟨a,B⟩:=r;obtain⟨⟨v,rfl,rfl⟩,H,n⟩:=(Zm.ok q).1 z;have K:M (Pa u p g d m B):=H;have P:M (Fr (fun k=>k=p) w u):=((Zo.alloc _).alloc _).trans n;have Q:M (u.heap[w.heap.size]?=U (N Ce 290)):=n.whole (((Fr.refl (fun _=>False) _).alloc _).whole (aN w _)) az;have s:M (u.heap[w.heap.size+1]?=U (N Ce 290)):=n.whole (Ri w _ _) az;have R:M (Yb m i 0=.ok (a,B)):=q;obtain⟨e0,e1,e2⟩:=aq s.o;have ef:=bF s.o;simp only[QD];go_wp2_with fail
    change L _ _ _ (UO u (w.heap.size+1) 0 a) _
    have T:M (Pa (UO u (w.heap.size+1) 0 a) p g d m B):=K.o.fr (WC _ _ _ _) (fun k y=>az);have E:M (Fr (fun k=>k=p) w (UO u (w.heap.size+1) 0 a)):=P.o.monoNew (WC _ _ _ _) (fun k y=>az);have V:M ((UO u (w.heap.size+1) 0 a).heap[w.heap.size+1]?=U (N #[I J a.sort,Y a.text,I J a.line,I J 0,Y ⟨#[]⟩,I J 0,I J 0,Y ⟨#[]⟩,I J 0] 290)):=VH s.o 0 a;have W:M ((UO u (w.heap.size+1) 0 a).heap[w.heap.size]?=U (N Ce 290)):=(WC _ _ _ _).whole Q.o az;generalize UO u (w.heap.size+1) 0 a=n0 at*;refine(VQ _ p g d m B 1 _ T.o aB aD).mono ?_;intro e x z
    cases q:Yb m B 1 with
    | error l=>
      obtain⟨A,n⟩:=(Zm.err q).1 z;unfold Zj at A;subst A;exact⟨rfl,(Zm.err (by unfold WN;rw[Zh R.o,Ye q])).2 ⟨rfl,E.o.trans n⟩⟩
    | ok r=>
      obtain⟨b,D⟩:=r;obtain⟨⟨v,rfl,rfl⟩,X,n⟩:=(Zm.ok q).1 z;have a0:M (Pa x p g d m D):=X;have b0:M (Fr (fun k=>k=p) w x):=E.o.trans n;have d0:M (x.heap[w.heap.size]?=_):=n.whole W.o az;have t:M (x.heap[w.heap.size+1]?=_):=n.whole V.o az;have hB:M (Yb m B 1=.ok (b,D)):=q;have e3:=Zc t.o 3;have e4:=Zc t.o 4;have e5:=Zc t.o 5;have ef:=bF t.o;simp only[QD];go_wp2_with fail
      change L _ _ _ (UO x (w.heap.size+1) 3 b) _
      have f0:M (Pa (UO x (w.heap.size+1) 3 b) p g d m D):=a0.o.fr (WC _ _ _ _) (fun k y=>az);have F:M (Fr (fun k=>k=p) w (UO x (w.heap.size+1) 3 b)):=b0.o.monoNew (WC _ _ _ _) (fun k y=>az);have g0:M ((UO x (w.heap.size+1) 3 b).heap[w.heap.size+1]?=U (N #[I J a.sort,Y a.text,I J a.line,I J b.sort,Y b.text,I J b.line,I J 0,Y ⟨#[]⟩,I J 0] 290)):=VH t.o 3 b;have h0:M ((UO x (w.heap.size+1) 3 b).heap[w.heap.size]?=U (N Ce 290)):=(WC _ _ _ _).whole d0.o az;generalize UO x (w.heap.size+1) 3 b=o0 at*;refine(VQ _ p g d m D 1 _ f0.o aB aD).mono ?_;intro e G z
      cases q:Yb m D 1 with
      | error l=>
        obtain⟨A,n⟩:=(Zm.err q).1 z;unfold Zj at A;subst A;exact⟨rfl,(Zm.err (by unfold WN;rw[Zh R.o,Zh hB.o,Ye q])).2 ⟨rfl,F.o.trans n⟩⟩
      | ok r=>
        obtain⟨c,i3⟩:=r;obtain⟨⟨v,rfl,rfl⟩,i0,n⟩:=(Zm.ok q).1 z;have j0:M (Pa G p g d m i3):=i0;have k0:M (Fr (fun k=>k=p) w G):=F.o.trans n;have f:=n.whole h0.o az;have j:=n.whole g0.o az;have hC:M (Yb m D 1=.ok (c,i3)):=q;have e0:=bC j 0 _ rfl;have r0:=bC f 0 _ rfl;have e1:=bC j 1 _ rfl;have r1:=bC f 1 _ rfl;have e2:=bC j 2 _ rfl;have r2:=bC f 2 _ rfl;have e3:=bC j 3 _ rfl;have r3:=bC f 3 _ rfl;have e4:=bC j 4 _ rfl;have r4:=bC f 4 _ rfl;have e5:=bC j 5 _ rfl;have r5:=bC f 5 _ rfl;have e6:=bC j 6 _ rfl;have r6:=bC f 6 _ rfl;have e7:=bC j 7 _ rfl;have r7:=bC f 7 _ rfl;have e8:=bC j 8 _ rfl;have r8:=bC f 8 _ rfl;have ef:=bF j;have rf:=bF f;simp only[QD];have p0:¬w.heap.size+1=w.heap.size:=az;go_wp2
        have hW:Fr (fun k=>w.heap.size<=k) G (UO (UO (UO (UO G (w.heap.size+1) 6 c) w.heap.size 0 a) w.heap.size 3 b) w.heap.size 6 c):=
          ((((WC G (w.heap.size+1) 6 c).mono (fun k y=>az)).trans ((WC _ w.heap.size 0 a).mono (fun k y=>az))).trans ((WC _ w.heap.size 3 b).mono (fun k y=>az))).trans ((WC _ w.heap.size 6 c).mono (fun k y=>az))
        exact bodyPost_ret (v:=U4 ⟨a,b,c⟩) (by simp[results,Tryz.results192,go_sem,U4, *]) rfl ((Zm.ok (by unfold WN;rw[Zh R.o,Zh hB.o,Zh hC.o])).2 ⟨⟨_,rfl,rfl⟩,j0.o.fr hW (fun k y=>az),k0.o.monoNew hW (fun k y=>az)⟩)
end Go.Proofs.YtccikgogjfbpeaaGreatDoor
namespace Go.Proofs.YtccikgogjfbpeaaGreatDoor
open Go.RowKit
def Pk (w p g a b i m)(h:Pa w p g a b i):
  L O 191 #[C (U ⟨p,0,Z⟩),Y m] w fun e d=>e=D (G (Zn (Zp b i) m))/\Pa d p g a b (if Zn (Zp b i) m then i+1 else i)/\Fr (fun k=>k=p) w d:=by
 cases f:Zn (Zp b i) m with
 |true=>exact(Rh w p g a b i _ m h h.at f).mono fun e d c=>c
 |false=>exact(Pi w p g a b i _ m h h.at f).mono fun e d c=>⟨c.1,h.fr c.2,c.2.mono⟩
def ZE {w:R}{b e d v n f}(h:w.ownsRow b e d v n f):∃a n c,v=H a n c:=by
 rcases h.2 with⟨rfl,_⟩|⟨g,i,j,rfl,_⟩
 ·exact⟨_,_,_,rfl⟩
 exact⟨_,_,_,rfl⟩
def Mb {a:Array A}{j u}(h:a[j]?=U u):a.setIfInBounds j u=a:=by
 apply Array.ext
 ·simp
 intro k d f;by_cases e:j=k
 ·subst e;obtain⟨b,c⟩:=iA.1 h;simp[c]
 rw[Array.getElem_setIfInBounds_ne _ e]
def Qg (r:Except Nat (Bv×Nat))(w:R)(p g c:Nat)(d:List Tk)(E:Nat)(f:Array A)(e:Ending)(b:R):Prop:=
 match r with
 | .ok (a,i)=>e=D (.tuple #[])/\(∃v,b.heap[E]?=U (N (((f.setIfInBounds 21 (G a.decline)).setIfInBounds 22 (G a.cheapest)).setIfInBounds 23 v) 295)/\b.ownsRow w.heap.size 263 3 v a.routes.length (Yw a.routes))/\Pa b p g c d i/\Fr (fun k=>k=p\/k=E) w b
 | .error l=>e=Zj 3 l/\Fr (fun k=>k=p\/k=E) w b
def Qg.ok {r w p g b ts E c e w' a i}(d:r=.ok (a,i)):
  Qg r w p g b ts E c e w'↔e=D (.tuple #[])/\(∃v,w'.heap[E]?=U (N (((c.setIfInBounds 21 (G a.decline)).setIfInBounds 22 (G a.cheapest)).setIfInBounds 23 v) 295)/\w'.ownsRow w.heap.size 263 3 v a.routes.length (Yw a.routes))/\Pa w' p g b ts i/\Fr (fun k=>k=p\/k=E) w w':=by subst d;exact Iff.rfl
def Qg.err {r w p g a ts E c e b l}(d:r=.error l):
  Qg r w p g a ts E c e b↔e=Zj 3 l/\Fr (fun k=>k=p\/k=E) w b:=by subst d;exact Iff.rfl
def Ed (w p g f b i E c)(h:Pa w p g f b i)(hE:w.heap[E]?=U (N c 295))(q:E≠p)(h0:E≠g)(Q:c[21]?=U (G false))(R:c[22]?=U (G false))(S:c[23]?=U (H Z 0 0)):
  L O 232 #[C (U ⟨p,0,Z⟩),C (U ⟨E,0,Z⟩)] w (Qg (Xr b i) w p g f b E c):=by
 have A:=o h;have i0:p<w.heap.size:=bL w _ h.c0;have j0:g<w.heap.size:=h.gl;have HE:=o hE;have B:=o Q;have D:=o R;have F:=o S;have k0:E<w.heap.size:=(iA.1 hE).1
 cases K:Zn (Zp b i) YU with
 |true=>
  go_enter Tryz.func232,Tryz.ntmps232;go_wp2_with fail;refine(Rh w p g f b i _ YU A.o A.o.at K).mono ?_;rintro e I ⟨rfl,T,d⟩;have s:=o T;have t:=o d;have j:=o (d.whole HE.o q);have l0:=bC j.o 21 _ B.o;have ef:=bF j.o;go_wp2;refine bodyPost_ret (results_none rfl _ _ _) rfl ?_;have m:Fr (fun k=>k=E) I (I.setCell ⟨E,21,Z⟩ (G true)):=(Fr.refl (fun k=>k=E) I).setCell (p:=⟨E,21,Z⟩) (z1 rfl) _;refine(Qg.ok (by unfold Xr;rw[if_pos K])).2 ⟨rfl,⟨H Z 0 0,?_,oZ _ _ _ _⟩,s.o.fr m (fun k a=>az),(t.o.mono (fun k a=>z1 a)).trans (m.mono (fun k a=>y7 a))⟩;have V:((c.setIfInBounds 21 (G true)).setIfInBounds 22 (G false))=c.setIfInBounds 21 (G true):=Mb (by rw[Array.getElem?_setIfInBounds_ne aB];exact D.o);have e2:((c.setIfInBounds 21 (G true)).setIfInBounds 23 (H Z 0 0))=c.setIfInBounds 21 (G true):=Mb (by rw[Array.getElem?_setIfInBounds_ne aB];exact F.o)
  show _=U (Obj.cells (((c.setIfInBounds 21 (G true)).setIfInBounds 22 (G false)).setIfInBounds 23 (H Z 0 0)) _)
  rw[V,e2];exact Yq j.o 21 _
 |false=>
  have hM:M (Xr b i=Y1 (Xv b (if Zn (Zp b i) Yn then i+1 else i) 0) fun l k=>.ok (⟨false,Zn (Zp b i) Yn,l⟩,k)):=by
   show _=_
   unfold Xr;rw[if_neg (by simp[K])]
   cases Zn (Zp b i) Yn<;>rfl
  go_enter Tryz.func232,Tryz.ntmps232;go_wp2_with fail;refine(Pi w p g f b i _ YU A.o A.o.at K).mono ?_;rintro e I ⟨rfl,d⟩;have s:=o (A.o.fr d);have t:=o d;have j:=o (d.whole HE.o);go_wp2_with fail;refine(Pk I p g f b i Yn s.o).mono ?_;rintro e J ⟨rfl,W,d⟩;generalize Zn (Zp b i) Yn=z at*;generalize(if z=true then i+1 else i)=i2 at*;have X:=o W;have Y:=o ((t.o.mono).trans d);have u:=o (d.whole j.o q);have m0:=bC u.o 22 _ D.o;have ef:=bF u.o;go_wp2_with fail;have m:Fr (fun k=>k=E) J (J.setCell ⟨E,22,Z⟩ (G z)):=(Fr.refl (fun k=>k=E) J).setCell (p:=⟨E,22,Z⟩) (z1 rfl) _;have a0:=o (X.o.fr m (fun k a=>az));have x:=o ((Y.o.mono (fun k a=>z1 a)).trans (m.mono (fun k a=>y7 a)));have b0:M ((J.setCell ⟨E,22,Z⟩ (G z)).heap[E]?=U (N (c.setIfInBounds 22 (G z)) 295)):=Yq u.o 22 _;generalize J.setCell ⟨E,22,Z⟩ (G z)=w3 at*;refine(N9 w3 p g f b i2 0 _ a0.o aB aD).mono ?_;intro e w4 hT
  cases P:Xv b i2 0 with
  |error l=>
   obtain⟨he,d⟩:=(Zm.err P).1 hT;unfold Zj at he;subst he;exact⟨rfl,(Qg.err (hM.o.trans (Ye P))).2 ⟨rfl,x.o.trans (d.mono (fun k a=>z1 a))⟩⟩
  |ok r=>
   obtain⟨l,i4⟩:=r;obtain⟨⟨v,rfl,n⟩,d0,d⟩:=(Zm.ok P).1 hT;obtain⟨va,vn,vc,rfl⟩:=ZE n;have e0:=o d0;have f0:=o (x.o.trans (d.mono (fun k a=>z1 a)));have y:=o (d.whole b0.o q);have HO:=o n;have g0:=o P;have n0:=bC y.o 23 (H Z 0 0) (by rw[Array.getElem?_setIfInBounds_ne aB];exact F.o);have ef:=bF y.o;have o0:=x.o.size;go_wp2
   go_end0
   have m:Fr (fun k=>k=E) w4 (w4.setCell ⟨E,23,Z⟩ (H va vn vc)):=(Fr.refl (fun k=>k=E) w4).setCell (p:=⟨E,23,Z⟩) (z1 rfl) _;refine(Qg.ok (hM.o.trans (Zh g0.o))).2 ⟨rfl,⟨H va vn vc,?_,?_⟩,e0.o.fr m (fun k a=>az),f0.o.trans (m.mono (fun k a=>y7 a))⟩
   ·have V:(c.setIfInBounds 21 (G false))=c:=Mb B.o
    show _=U (Obj.cells (((c.setIfInBounds 21 (G false)).setIfInBounds 22 (G z)).setIfInBounds 23 (H va vn vc)) _)
    rw[V];exact Yq y.o 23 _
   exact oS (oF HO.o m (fun k a=>az)) az
end Go.Proofs.YtccikgogjfbpeaaGreatDoor
namespace Go.Proofs.YtccikgogjfbpeaaGreatDoor
open Go.RowKit
def Mc:Array A:=#[I J 0,Y ⟨#[]⟩,I J 0,I J 0,Y ⟨#[]⟩,I J 0,I J 0,Y ⟨#[]⟩,I J 0,I J 0,Y ⟨#[]⟩,I J 0,H Z 0 0,H Z 0 0,G false,I J 0,Y ⟨#[]⟩,I J 0,I J 0,Y ⟨#[]⟩,I J 0,G false,G false,H Z 0 0]
def Uj (c:Option (Tk×Tk))(j:Nat):A:=
 match c with
 |some (a,b)=>match j with|0=>I J a.sort|1=>Y a.text|2=>I J a.line|3=>I J b.sort|4=>Y b.text|_=>I J b.line
 |none=>match j with|0=>I J 0|1=>Y ⟨#[]⟩|2=>I J 0|3=>I J 0|4=>Y ⟨#[]⟩|_=>I J 0
def OT (r:Pj)(a b c:A):A:=y9 #[I J r.name.sort,Y r.name.text,I J r.name.line,I J r.rank.sort,Y r.rank.text,I J r.rank.line,I J r.bin.1.sort,Y r.bin.1.text,I J r.bin.1.line,I J r.bin.2.sort,Y r.bin.2.text,I J r.bin.2.line,a,b,G r.amount.isSome,Uj r.amount 0,Uj r.amount 1,Uj r.amount 2,Uj r.amount 3,Uj r.amount 4,Uj r.amount 5,G r.act.decline,G r.act.cheapest,c]
def tO (w:R)(g j:Nat)(t u:Tk):R:=UO (UO w g j t) g (j+3) u
def Cf (w g j t u):Fr (fun k=>k=g) w (tO w g j t u):=(WC _ _ _ _).trans (WC _ _ _ _)
def OU (b:Nat):∀(a:List A)(o:Nat)(w:R),Fr (fun k=>k=b) w (w.setCells b o a)
 |[],_,w=>Fr.refl _ w
 |v::r,o,w=>((Fr.refl (fun k=>k=b) w).setCell (p:=⟨b,o,Z⟩) (z1 rfl) v).trans (OU b r (o+1) _)
def Pm:Array A->Nat->List A->Array A
 |cs,_,[]=>cs
 |cs,o,v::r=>Pm (cs.setIfInBounds o v) (o+1) r
def Qh {b:Nat}{t:TypeId}:∀(a:List A)(o:Nat)(w:R)(c:Array A),w.heap[b]?=U (N c t)->(w.setCells b o a).heap[b]?=U (N (Pm c o a) t)
 |[],_,_,_,h=>h
 |v::r,o,_,_,h=>Qh r (o+1) _ _ (Yq h o v)
def Rj:∀(c:List A)(o:Nat)(a:Array A),o+c.length=a.size->(Pm a o c).toList=a.toList.take o++c
 |[],o,a,h=>by
  simp at h;rw[Pm,List.append_nil,x2 aF]
 |v::r,o,a,h=>by
  simp at h;rw[Pm,Rj r (o+1) _ aF];have d:o<a.toList.length:=aF
  have e:g8 o (a.toList.set o v)=g8 o a.toList:=by
   apply List.ext_getElem?;intro k;rw[x7,x7];by_cases b:k<o
   ·rw[if_pos b,if_pos b,List.getElem?_set_ne z]
   rw[if_neg b,if_neg b]
  rw[Array.toList_setIfInBounds,List.take_add_one,List.getElem?_set_self d,e];simp
def Kl {w:R}{b t c a}(h:w.heap[b]?=U (N c t))(d:a.size=c.size):(w.setCells b 0 a.toList).heap[b]?=U (N a t):=by
 rw[Qh a.toList 0 w c h]
 congr 2
 apply Array.ext';rw[Rj _ _ _ (by simp[d])];simp
def Hd {w:R}{b n t a}(h:w.heap[b]?=U (N a t))(c:a.size=n):w.there b 0 n:=fun j d=>by
 rw[k9];refine⟨?_,bF h j⟩;rw[cell_of_row w b j a t (0,0) h,Array.getElem?_eq_getElem z];rfl
structure VR (w wc:R)(p g cap:Nat)(ts:List Tk)(i:Nat)(cs:Array A)(vm:A)(lm:List Tk)(vc:A)(lc:List Tk):Prop where
 pa:Pa wc p g cap ts i
 fr:Fr (fun k=>k=p) w wc
 hr:wc.heap[w.heap.size]?=U (N Mc 295)
 he:wc.heap[w.heap.size+1]?=U (N cs 295)
 rm:wc.ownsRow (w.heap.size+2) 263 3 vm lm.length (Yw lm)
 rc:wc.ownsRow (w.heap.size+2) 263 3 vc lc.length (Yw lc)
 pl:p<w.heap.size
 gl:g<w.heap.size
section
variable {w wc wd:R} {p g cap:Nat} {ts:List Tk} {i i':Nat} {cs:Array A} {vm:A} {lm:List Tk} {vc:A} {lc:List Tk}
def VR.size (h:VR w wc p g cap ts i cs vm lm vc lc):w.heap.size+2<=wc.heap.size:=(iA.1 h.he).1
def VR.step (h:VR w wc p g cap ts i cs vm lm vc lc)(b:Pa wd p g cap ts i')(a:Fr (fun k=>k=p) wc wd):VR w wd p g cap ts i' cs vm lm vc lc:=
 have c:=h.pl
 ⟨b,h.fr.trans a,a.whole h.hr z,a.whole h.he z,oF h.rm a (fun k d=>z),oF h.rc a (fun k d=>z),h.pl,h.gl⟩
def VR.write {cs'}(h:VR w wc p g cap ts i cs vm lm vc lc)(a:Fr (fun k=>k=w.heap.size+1) wc wd)(c:wd.heap[w.heap.size+1]?=U (N cs' 295)):VR w wd p g cap ts i cs' vm lm vc lc:=
 have d:=h.pl;have e:=h.gl
 ⟨h.pa.fr a (fun k b=>z),h.fr.monoNew a (fun k b=>z),a.whole h.hr z,c,oF h.rm a (fun k b=>z),oF h.rc a (fun k b=>z),h.pl,h.gl⟩
def VR.mcc {v l}(h:VR w wc p g cap ts i cs vm lm vc lc)(a:wc.ownsRow (w.heap.size+2) 263 3 v l.length (Yw l)):VR w wc p g cap ts i cs v l vc lc:=⟨h.pa,h.fr,h.hr,h.he,a,h.rc,h.pl,h.gl⟩
def VR.cur {v l}(h:VR w wc p g cap ts i cs vm lm vc lc)(a:wc.ownsRow (w.heap.size+2) 263 3 v l.length (Yw l)):VR w wc p g cap ts i cs vm lm v l:=⟨h.pa,h.fr,h.hr,h.he,h.rm,a,h.pl,h.gl⟩
end
def zZ {w p g a b i}(h:Pa w p g a b i):
  VR w ((w.alloc (N Mc 295)).alloc (N Mc 295)) p g a b i Mc (H Z 0 0) [] (H Z 0 0) []:=
 ⟨h.fr (S:=fun _=>False) ((Zo.alloc _).alloc _),(Zo.alloc _).alloc _,((Fr.refl (fun _=>False) _).alloc _).whole (aN w _),Ri w _ _,
  oZ _ _ _ _,oZ _ _ _ _,bL w _ h.c0,h.gl⟩
def ya (w p g s f i)(h:Pa w p g s f i):
  L O 193 #[C (U ⟨p,0,Z⟩)] w (Zm (Wo f i) (fun r v w'=>∃V vc vr,v=OT r V vc vr/\w'.ownsRow w.heap.size 263 3 V r.mcc.length (Yw r.mcc)/\w'.ownsRow w.heap.size 263 3 vc r.cur.length (Yw r.cur)/\w'.ownsRow w.heap.size 263 3 vr r.act.routes.length (Yw r.act.routes)) w p g s f):=by
 have l0:=o (zZ h);have O0:=bL w _ h.c0;go_enter Tryz.func193,Tryz.ntmps193;go_wp2_with fail;refine(VQ _ p g s f i 0 _ l0.o.pa aB aD).mono ?_;intro e w1 z
 cases u:Yb f i 0 with
 |error l=>
  obtain⟨B,x⟩:=(Zm.err u).1 z;unfold Zj at B;subst B;exact⟨rfl,(Zm.err (by unfold Wo;rw[Ye u])).2 ⟨rfl,l0.o.fr.trans x⟩⟩
 |ok r=>
  obtain⟨a,i1⟩:=r;obtain⟨⟨v,rfl,rfl⟩,E,x⟩:=(Zm.ok u).1 z;have hA:=o u;have b0:M (VR w w1 p g s f i1 Mc (H Z 0 0) [] (H Z 0 0) []):=l0.o.step E x;obtain⟨e0,e1,e2⟩:=aq b0.o.he;have ef:=bF b0.o.he;simp only[QD];go_wp2_with fail
  change L _ _ _ (UO w1 (w.heap.size+1) 0 a) _
  have m0:=o (b0.o.write (WC _ _ _ _) (VH b0.o.he 0 a));generalize UO w1 (w.heap.size+1) 0 a=w2 at*;refine(VQ _ p g s f i1 1 _ m0.o.pa aB aD).mono ?_;intro e w3 z
  cases u:Yb f i1 1 with
  |error l=>
   obtain⟨B,x⟩:=(Zm.err u).1 z;unfold Zj at B;subst B;exact⟨rfl,(Zm.err (by unfold Wo;rw[Zh hA.o,Ye u])).2 ⟨rfl,m0.o.fr.trans x⟩⟩
  |ok r=>
   obtain⟨b,i2⟩:=r;obtain⟨⟨v,rfl,rfl⟩,E,x⟩:=(Zm.ok u).1 z;have hB:=o u;have d0:M (VR w w3 p g s f i2 #[I J a.sort,Y a.text,I J a.line,I J 0,Y ⟨#[]⟩,I J 0,I J 0,Y ⟨#[]⟩,I J 0,I J 0,Y ⟨#[]⟩,I J 0,H Z 0 0,H Z 0 0,G false,I J 0,Y ⟨#[]⟩,I J 0,I J 0,Y ⟨#[]⟩,I J 0,G false,G false,H Z 0 0] (H Z 0 0) [] (H Z 0 0) []):=m0.o.step E x;have e3:=Zc d0.o.he 3;have e4:=Zc d0.o.he 4;have e5:=Zc d0.o.he 5;have ef:=bF d0.o.he;simp only[QD];go_wp2_with fail
   change L _ _ _ (UO w3 (w.heap.size+1) 3 b) _
   have n0:=o (d0.o.write (WC _ _ _ _) (VH d0.o.he 3 b));generalize UO w3 (w.heap.size+1) 3 b=w4 at*;refine(Ui _ p g s f i2 TK n0.o.pa).mono ?_;intro e w5 z
   cases u:ZG f i2 TK with
   |error l=>
    obtain⟨B,x⟩:=(Zm.err u).1 z;unfold Zj at B;subst B;exact⟨rfl,(Zm.err (by unfold Wo;rw[Zh hA.o,Zh hB.o,Ye u])).2 ⟨rfl,n0.o.fr.trans x⟩⟩
   |ok r=>
    obtain⟨u1,i3⟩:=r;obtain⟨⟨v,rfl,rfl⟩,E,x⟩:=(Zm.ok u).1 z;have hC:=o u;have o0:M (VR w w5 p g s f i3 #[I J a.sort,Y a.text,I J a.line,I J b.sort,Y b.text,I J b.line,I J 0,Y ⟨#[]⟩,I J 0,I J 0,Y ⟨#[]⟩,I J 0,H Z 0 0,H Z 0 0,G false,I J 0,Y ⟨#[]⟩,I J 0,I J 0,Y ⟨#[]⟩,I J 0,G false,G false,H Z 0 0] (H Z 0 0) [] (H Z 0 0) []):=n0.o.step E x;go_wp2_with fail;refine(Ui _ p g s f i3 Qf o0.o.pa).mono ?_;intro e w6 z
    cases u:ZG f i3 Qf with
    |error l=>
     obtain⟨B,x⟩:=(Zm.err u).1 z;unfold Zj at B;subst B;exact⟨rfl,(Zm.err (by unfold Wo;rw[Zh hA.o,Zh hB.o,Zh hC.o,Ye u])).2 ⟨rfl,o0.o.fr.trans x⟩⟩
    |ok r=>
     obtain⟨u2,i4⟩:=r;obtain⟨⟨v,rfl,rfl⟩,E,x⟩:=(Zm.ok u).1 z;have hD:=o u;have p0:M (VR w w6 p g s f i4 #[I J a.sort,Y a.text,I J a.line,I J b.sort,Y b.text,I J b.line,I J 0,Y ⟨#[]⟩,I J 0,I J 0,Y ⟨#[]⟩,I J 0,H Z 0 0,H Z 0 0,G false,I J 0,Y ⟨#[]⟩,I J 0,I J 0,Y ⟨#[]⟩,I J 0,G false,G false,H Z 0 0] (H Z 0 0) [] (H Z 0 0) []):=o0.o.step E x;go_wp2_with fail;refine(Hb _ p g s f i4 p0.o.pa).mono ?_;intro e w7 z
     cases u:U2 f i4 with
     |error l=>
      obtain⟨B,x⟩:=(Zm.err u).1 z;unfold Zj at B;subst B;exact⟨rfl,(Zm.err (by unfold Wo;rw[Zh hA.o,Zh hB.o,Zh hC.o,Zh hD.o,Ye u])).2 ⟨rfl,p0.o.fr.trans x⟩⟩
     |ok r=>
      obtain⟨⟨c,d⟩,W⟩:=r;obtain⟨⟨v,rfl,rfl⟩,E,x⟩:=(Zm.ok u).1 z;have hE:=o u;have Q:M (VR w w7 p g s f W #[I J a.sort,Y a.text,I J a.line,I J b.sort,Y b.text,I J b.line,I J 0,Y ⟨#[]⟩,I J 0,I J 0,Y ⟨#[]⟩,I J 0,H Z 0 0,H Z 0 0,G false,I J 0,Y ⟨#[]⟩,I J 0,I J 0,Y ⟨#[]⟩,I J 0,G false,G false,H Z 0 0] (H Z 0 0) [] (H Z 0 0) []):=p0.o.step E x;have e6:=Zc Q.o.he 6;have e7:=Zc Q.o.he 7;have e8:=Zc Q.o.he 8;have e9:=Zc Q.o.he 9;have P0:=Zc Q.o.he 10;have Q0:=Zc Q.o.he 11;have ef:=bF Q.o.he;simp only[U3];go_wp2_with fail
      change L _ _ _ (tO w7 (w.heap.size+1) 6 c d) _
      have w0:=o (Q.o.write (Cf _ _ _ _ _) (VH (VH Q.o.he 6 c) 9 d));generalize tO w7 (w.heap.size+1) 6 c d=w8 at*;refine(Pk _ p g s f W Vj w0.o.pa).mono ?_;rintro e w9 ⟨rfl,E,x⟩;have f0:M (VR w w9 p g s f _ #[I J a.sort,Y a.text,I J a.line,I J b.sort,Y b.text,I J b.line,I J c.sort,Y c.text,I J c.line,I J d.sort,Y d.text,I J d.line,H Z 0 0,H Z 0 0,G false,I J 0,Y ⟨#[]⟩,I J 0,I J 0,Y ⟨#[]⟩,I J 0,G false,G false,H Z 0 0] (H Z 0 0) [] (H Z 0 0) []):=w0.o.step E x
      have hO:M (Xq f W Vj=if Zn (Zp f W) Vj=true then Xv f (if Zn (Zp f W) Vj=true then W+1 else W) 1 else .ok ([],(if Zn (Zp f W) Vj=true then W+1 else W))):=by
       show _=_
       unfold Xq
       cases Zn (Zp f W) Vj<;>rfl
      generalize Zn (Zp f W) Vj=q at*;generalize(if q=true then W+1 else W)=i6 at*
      go_upto_if 18 with fail
      go_cut [] (fun wc=>∃V lm j,M (Xq f W Vj=.ok (lm,j))/\M (VR w wc p g s f j #[I J a.sort,Y a.text,I J a.line,I J b.sort,Y b.text,I J b.line,I J c.sort,Y c.text,I J c.line,I J d.sort,Y d.text,I J d.line,V,H Z 0 0,G false,I J 0,Y ⟨#[]⟩,I J 0,I J 0,Y ⟨#[]⟩,I J 0,G false,G false,H Z 0 0] V lm (H Z 0 0) []))
      case first=>
       cases q with
       |false=>
        go_wp2;go_meet;exact⟨H Z 0 0,[],i6,hO.o,f0.o⟩
       |true=>
        go_wp2_with fail;refine(N9 _ p g s f i6 1 _ f0.o.pa aB aD).mono ?_;intro e R0 z
        cases u:Xv f i6 1 with
        |error l=>
         obtain⟨B,x⟩:=(Zm.err u).1 z;unfold Zj at B;subst B;exact⟨rfl,(Zm.err (by unfold Wo;rw[Zh hA.o,Zh hB.o,Zh hC.o,Zh hD.o,Zh hE.o,Ye (hO.o.trans u)])).2 ⟨rfl,f0.o.fr.trans x⟩⟩
        |ok r=>
         obtain⟨l,i7⟩:=r;obtain⟨⟨v,rfl,K⟩,E,x⟩:=(Zm.ok u).1 z;obtain⟨va,vn,vk,rfl⟩:=ZE K;have X:=o ((f0.o.step E x).mcc (oS K f0.o.size));have hL:=o (hO.o.trans u);have S0:=Zc X.o.he 12;have ef:=bF X.o.he;go_wp2;go_meet;exact⟨H va vn vk,l,i7,hL.o,X.o.write ((Fr.refl (fun k=>k=w.heap.size+1) _).setCell (p:=⟨w.heap.size+1,12,Z⟩) (z1 rfl) _) (Yq X.o.he 12 _)⟩
      obtain⟨V,lm,j6,hF,j0⟩:=hcut
      rename R=>wA
      go_wp2_with fail;refine(Pk _ p g s f j6 Z9 j0.o.pa).mono ?_;rintro e q0 ⟨rfl,E,x⟩;have S:M (VR w q0 p g s f _ _ V lm _ []):=j0.o.step E x
      have hO:M (Wz f j6 Z9=if Zn (Zp f j6) Z9=true then Y1 (U2 f (if Zn (Zp f j6) Z9=true then j6+1 else j6)) (fun ab i=>.ok (U ab,i))else .ok (Z,(if Zn (Zp f j6) Z9=true then j6+1 else j6))):=by
       show _=_
       unfold Wz
       cases Zn (Zp f j6) Z9<;>rfl
      generalize Zn (Zp f j6) Z9=q2 at*;generalize(if q2=true then j6+1 else j6)=i8 at*
      go_upto_if 23 with fail
      go_cut [] (fun wc=>∃t j,M (Wz f j6 Z9=.ok (t,j))/\M (VR w wc p g s f j #[I J a.sort,Y a.text,I J a.line,I J b.sort,Y b.text,I J b.line,I J c.sort,Y c.text,I J c.line,I J d.sort,Y d.text,I J d.line,V,H Z 0 0,G t.isSome,Uj t 0,Uj t 1,Uj t 2,Uj t 3,Uj t 4,Uj t 5,G false,G false,H Z 0 0] V lm (H Z 0 0) []))
      case first=>
       cases q2 with
       |false=>
        go_wp2;go_meet;exact⟨Z,i8,hO.o,S.o⟩
       |true=>
        have T0:=Zc S.o.he 14;have ef:=bF S.o.he;go_wp2_with fail;have g0:M (VR w (q0.setCell ⟨w.heap.size+1,14,Z⟩ (G true)) p g s f i8 #[I J a.sort,Y a.text,I J a.line,I J b.sort,Y b.text,I J b.line,I J c.sort,Y c.text,I J c.line,I J d.sort,Y d.text,I J d.line,V,H Z 0 0,G true,I J 0,Y ⟨#[]⟩,I J 0,I J 0,Y ⟨#[]⟩,I J 0,G false,G false,H Z 0 0] V lm (H Z 0 0) []):=S.o.write ((Fr.refl (fun k=>k=w.heap.size+1) _).setCell (p:=⟨w.heap.size+1,14,Z⟩) (z1 rfl) _) (Yq S.o.he 14 _);generalize q0.setCell ⟨w.heap.size+1,14,Z⟩ (G true)=V0 at*;refine(Hb _ p g s f i8 g0.o.pa).mono ?_;intro e x0 z
        cases u:U2 f i8 with
        |error l=>
         obtain⟨B,x⟩:=(Zm.err u).1 z;unfold Zj at B;subst B;exact⟨rfl,(Zm.err (by unfold Wo;rw[Zh hA.o,Zh hB.o,Zh hC.o,Zh hD.o,Zh hE.o,Zh hF.o,Ye (hO.o.trans (Ye u))])).2 ⟨rfl,g0.o.fr.trans x⟩⟩
        |ok r=>
         obtain⟨⟨m,n⟩,i9⟩:=r;obtain⟨⟨v,rfl,rfl⟩,E,x⟩:=(Zm.ok u).1 z;have D:M (VR w x0 p g s f i9 _ V lm _ []):=g0.o.step E x;have hL:=o (hO.o.trans (Zh u));have W0:=Zc D.o.he 15;have X0:=Zc D.o.he 16;have Y0:=Zc D.o.he 17;have Z0:=Zc D.o.he 18;have a1:=Zc D.o.he 19;have b1:=Zc D.o.he 20;have ef:=bF D.o.he;simp only[U3];go_wp2;go_meet;exact⟨U (m,n),i9,hL.o,D.o.write (Cf x0 (w.heap.size+1) 15 m n) (VH (VH D.o.he 15 m) 18 n)⟩
      obtain⟨t,j8,hG,k0⟩:=hcut
      rename R=>wB
      go_wp2_with fail;refine(Pk _ p g s f j8 VG k0.o.pa).mono ?_;rintro e B0 ⟨rfl,E,x⟩;have T:M (VR w B0 p g s f _ _ V lm _ []):=k0.o.step E x
      have hO:M (Xq f j8 VG=if Zn (Zp f j8) VG=true then Xv f (if Zn (Zp f j8) VG=true then j8+1 else j8) 1 else .ok ([],(if Zn (Zp f j8) VG=true then j8+1 else j8))):=by
       show _=_
       unfold Xq
       cases Zn (Zp f j8) VG<;>rfl
      generalize Zn (Zp f j8) VG=q3 at*;generalize(if q3=true then j8+1 else j8)=r0 at*
      go_upto_if 29 with fail
      go_cut [] (fun wc=>∃vc lc j,M (Xq f j8 VG=.ok (lc,j))/\M (VR w wc p g s f j #[I J a.sort,Y a.text,I J a.line,I J b.sort,Y b.text,I J b.line,I J c.sort,Y c.text,I J c.line,I J d.sort,Y d.text,I J d.line,V,vc,G t.isSome,Uj t 0,Uj t 1,Uj t 2,Uj t 3,Uj t 4,Uj t 5,G false,G false,H Z 0 0] V lm vc lc))
      case first=>
       cases q3 with
       |false=>
        go_wp2;go_meet;exact⟨H Z 0 0,[],r0,hO.o,T.o⟩
       |true=>
        go_wp2_with fail;refine(N9 _ p g s f r0 1 _ T.o.pa aB aD).mono ?_;intro e c1 z
        cases u:Xv f r0 1 with
        |error l=>
         obtain⟨B,x⟩:=(Zm.err u).1 z;unfold Zj at B;subst B;exact⟨rfl,(Zm.err (by unfold Wo;rw[Zh hA.o,Zh hB.o,Zh hC.o,Zh hD.o,Zh hE.o,Zh hF.o,Zh hG.o,Ye (hO.o.trans u)])).2 ⟨rfl,T.o.fr.trans x⟩⟩
        |ok r=>
         obtain⟨l,C0⟩:=r;obtain⟨⟨v,rfl,K⟩,E,x⟩:=(Zm.ok u).1 z;obtain⟨va,vn,vk,rfl⟩:=ZE K;have a0:=o ((T.o.step E x).cur (oS K T.o.size));have hL:=o (hO.o.trans u);have d1:=Zc a0.o.he 13;have ef:=bF a0.o.he;go_wp2;go_meet;exact⟨H va vn vk,l,C0,hL.o,a0.o.write ((Fr.refl (fun k=>k=w.heap.size+1) _).setCell (p:=⟨w.heap.size+1,13,Z⟩) (z1 rfl) _) (Yq a0.o.he 13 _)⟩
      obtain⟨vc,lc,y0,hH,h0⟩:=hcut
      rename R=>wD
      go_wp2_with fail;refine(Ui _ p g s f y0 Sq h0.o.pa).mono ?_;intro e D0 z
      cases u:ZG f y0 Sq with
      |error l=>
       obtain⟨B,x⟩:=(Zm.err u).1 z;unfold Zj at B;subst B;exact⟨rfl,(Zm.err (by unfold Wo;rw[Zh hA.o,Zh hB.o,Zh hC.o,Zh hD.o,Zh hE.o,Zh hF.o,Zh hG.o,Zh hH.o,Ye u])).2 ⟨rfl,h0.o.fr.trans x⟩⟩
      |ok r=>
       obtain⟨u3,s0⟩:=r;obtain⟨⟨v,rfl,rfl⟩,E,x⟩:=(Zm.ok u).1 z;have hI:=o u;have y:M (VR w D0 p g s f s0 _ V lm vc lc):=h0.o.step E x;have M0:=y.o.pl;have N0:=y.o.gl;go_wp2_with fail;refine(Ed _ p g s f s0 (w.heap.size+1) _ y.o.pa y.o.he az az rfl rfl rfl).mono ?_;intro e i0 z
       cases u:Xr f s0 with
       |error l=>
        obtain⟨B,x⟩:=(Qg.err u).1 z;unfold Zj at B;subst B;exact⟨rfl,(Zm.err (by unfold Wo;rw[Zh hA.o,Zh hB.o,Zh hC.o,Zh hD.o,Zh hE.o,Zh hF.o,Zh hG.o,Zh hH.o,Zh hI.o,Ye u])).2 ⟨rfl,y.o.fr.monoNew x (fun k hk=>az)⟩⟩
       |ok r=>
        obtain⟨F,f1⟩:=r;obtain⟨rfl,⟨vr,E0,K⟩,E,x⟩:=(Qg.ok u).1 z;have hJ:=o u;have F0:=o E;have G0:=o (y.o.fr.monoNew x (fun k hk=>az));have HM:=o (oF y.o.rm x (fun k hk=>az));have HC:=o (oF y.o.rc x (fun k hk=>az));have HT:=o (oS K y.o.size);have z0:=x.whole y.o.hr az;obtain⟨ma,mn,mk,rfl⟩:=ZE HM.o;obtain⟨ca,cn,ck,rfl⟩:=ZE HC.o;obtain⟨ra,rn,rk,rfl⟩:=ZE HT.o;have H0:=Hd z0 rfl;have I0:i0.heap[w.heap.size+1]?=U (N #[I J a.sort,Y a.text,I J a.line,I J b.sort,Y b.text,I J b.line,I J c.sort,Y c.text,I J c.line,I J d.sort,Y d.text,I J d.line,H ma mn mk,H ca cn ck,G t.isSome,Uj t 0,Uj t 1,Uj t 2,Uj t 3,Uj t 4,Uj t 5,G F.decline,G F.cheapest,H ra rn rk] 295):=E0
        have A0:(#[I J a.sort,Y a.text,I J a.line,I J b.sort,Y b.text,I J b.line,I J c.sort,Y c.text,I J c.line,I J d.sort,Y d.text,I J d.line,H ma mn mk,H ca cn ck,G t.isSome,Uj t 0,Uj t 1,Uj t 2,Uj t 3,Uj t 4,Uj t 5,G F.decline,G F.cheapest,H ra rn rk]:Array A).all (·.oneCell')=true:=by
         cases t<;>simp[y2,Uj]
        have HW:M (Fr _ i0 (i0.setCells w.heap.size 0 (#[I J a.sort,Y a.text,I J a.line,I J b.sort,Y b.text,I J b.line,I J c.sort,Y c.text,I J c.line,I J d.sort,Y d.text,I J d.line,H ma mn mk,H ca cn ck,G t.isSome,Uj t 0,Uj t 1,Uj t 2,Uj t 3,Uj t 4,Uj t 5,G F.decline,G F.cheapest,H ra rn rk]:Array A).toList)):=OU _ _ _ _;have HV:M ((i0.setCells w.heap.size 0 (#[I J a.sort,Y a.text,I J a.line,I J b.sort,Y b.text,I J b.line,I J c.sort,Y c.text,I J c.line,I J d.sort,Y d.text,I J d.line,H ma mn mk,H ca cn ck,G t.isSome,Uj t 0,Uj t 1,Uj t 2,Uj t 3,Uj t 4,Uj t 5,G F.decline,G F.cheapest,H ra rn rk]:Array A).toList).heap[w.heap.size]?=U (N #[I J a.sort,Y a.text,I J a.line,I J b.sort,Y b.text,I J b.line,I J c.sort,Y c.text,I J c.line,I J d.sort,Y d.text,I J d.line,H ma mn mk,H ca cn ck,G t.isSome,Uj t 0,Uj t 1,Uj t 2,Uj t 3,Uj t 4,Uj t 5,G F.decline,G F.cheapest,H ra rn rk] 295)):=Kl z0 rfl;generalize t0:(#[I J a.sort,Y a.text,I J a.line,I J b.sort,Y b.text,I J b.line,I J c.sort,Y c.text,I J c.line,I J d.sort,Y d.text,I J d.line,H ma mn mk,H ca cn ck,G t.isSome,Uj t 0,Uj t 1,Uj t 2,Uj t 3,Uj t 4,Uj t 5,G F.decline,G F.cheapest,H ra rn rk]:Array A)=cs at*;have HK:=o t0
        have v0:(O.info? 295).map (·.size)=U cs.size:=by rw[<-t0];kernel_rfl
        have J0:=o H0;have K0:=o I0;have HN:=o A0;have HZ:=o v0
        have L0:M (cs.size=24):=by show _=_;rw[<-t0];rfl
        go_wp2_with (first|(refine wpList_load_row rfl 295 _ rfl (w.heap.size+1) rfl 295 cs (0,0) _ K0.o Tryz.underlying295 rfl HZ.o ?_)|(refine wpList_store_mid rfl 295 _ _ rfl w.heap.size 0 cs rfl rfl (by rw[L0.o];exact J0.o) HZ.o HN.o ?_))
        have P:=HW.o
        exact bodyPost_ret (v:=y9 cs) (results_cell_row rfl _ _ w.heap.size 295 cs (0,0) _ rfl HV.o Tryz.underlying295 rfl HZ.o) rfl ((Zm.ok (by unfold Wo;rw[Zh hA.o,Zh hB.o,Zh hC.o,Zh hD.o,Zh hE.o,Zh hF.o,Zh hG.o,Zh hH.o,Zh hI.o,Zh hJ.o])).2 ⟨⟨_,rfl,H ma mn mk,H ca cn ck,H ra rn rk,congrArg Value.agg HK.o.symm,
         oS (oF HM.o P (fun k hk=>az)) az,oS (oF HC.o P (fun k hk=>az)) az,oS (oF HT.o P (fun k hk=>az)) az⟩,
         F0.o.fr P (fun k hk=>az),G0.o.monoNew P (fun k hk=>az)⟩)
end Go.Proofs.YtccikgogjfbpeaaGreatDoor
namespace Go.Proofs.YtccikgogjfbpeaaGreatDoor
def bI {α β}{r:Except Nat (α×Nat)}{f}{b:β}{k}(h:Y1 r f=.ok (b,k)):∃a j,r=.ok (a,j)/\f a j=.ok (b,k):=by
 unfold Y1 at h
 split at h
 ·cases h
 exact⟨_,_,rfl,h⟩
def Yz {b i m u a}(h:ZG b i m=.ok (u,a)):a=i+1:=by
 unfold ZG at h
 split at h
 ·injection h with h;injection h with d c;exact c.symm
 cases h
def WO (c i):U2 c i=Y1 (Yb c i 1) fun a i=>Y1 (ZG c i Ue) fun _ i=>Y1 (Yb c i 1) fun b i=>.ok ((a,b),i):=by
 unfold U2 Y1
 cases Yb c i 1 with
 |error l=>rfl
 |ok r=>
  obtain⟨a,d⟩:=r
  dsimp only
  cases ZG c d Ue with
  |error l=>rfl
  |ok r=>
   obtain⟨u,e⟩:=r
   dsimp only
   cases Yb c e 1 with
   |error l=>rfl
   |ok r=>rfl
def He {c i d k}(h:U2 c i=.ok (d,k)):i<k:=by
 rw[WO]at h;obtain⟨a,j,e,h⟩:=bI h;obtain⟨_,l,f,h⟩:=bI h;obtain⟨b,m,g,h⟩:=bI h;have n:=(Yx e).2.2;have o:=Yz f;have p:=(Yx g).2.2;injection h with h;injection h with _ h;omega
def yb {c a}:∀n i b l k,c.length-i=n->X5 c i a b=.ok (l,k)->i<=k:=by
 intro n
 induction n using k5 with
 |ind n f=>
  intro i b l k o h;rw[X5]at h
  split at h
  ·rename_i g;have j:=Uu g
   split at h
   ·cases h
   rename_i t d m;have e:=(Yx m).2.2;have:=f (c.length-d) z d _ l k rfl h;omega
  injection h with h;injection h with _ h;omega
def Md {b i a l k}(h:Xv b i a=.ok (l,k)):i<k:=by
 unfold Xv at h
 split at h
 ·cases h
 rename_i t c d;have e:=(Yx d).2.2;have:=yb _ c [t] l k rfl h;omega
def Me {a i b l k}(h:Xq a i b=.ok (l,k)):i<=k:=by
 unfold Xq at h
 split at h
 ·have:=Md h;omega
 injection h with h;injection h with _ h;omega
def Ee {b i c l k}(h:Wz b i c=.ok (l,k)):i<=k:=by
 unfold Wz at h
 split at h
 ·obtain⟨e,j,d,a⟩:=bI h;have:=He d;injection a with a;injection a with _ a;omega
 injection h with h;injection h with _ h;omega
def Ef {d i a k}(h:Xr d i=.ok (a,k)):i<k:=by
 unfold Xr at h
 split at h
 ·injection h with h;injection h with _ h;omega
 split at h
 ·obtain⟨l,j,c,b⟩:=bI h;have:=Md c;injection b with b;injection b with _ b;omega
 obtain⟨l,j,c,b⟩:=bI h;have:=Md c;injection b with b;injection b with _ b;omega
def Bz {d i r k}(h:WN d i=.ok (r,k)):i<k:=by
 unfold WN at h;obtain⟨a,j,e,h⟩:=bI h;obtain⟨b,l,f,h⟩:=bI h;obtain⟨c,m,g,h⟩:=bI h;have n:=(Yx e).2.2;have o:=(Yx f).2.2;have p:=(Yx g).2.2;injection h with h;injection h with _ h;omega
def yc {j i r k}(h:Wo j i=.ok (r,k)):i<k:=by
 unfold Wo at h;obtain⟨a,y,l,h⟩:=bI h;obtain⟨b,z,m,h⟩:=bI h;obtain⟨_,A,n,h⟩:=bI h;obtain⟨_,B,o,h⟩:=bI h;obtain⟨c,C,p,h⟩:=bI h;obtain⟨d,D,q,h⟩:=bI h;obtain⟨f,E,s,h⟩:=bI h;obtain⟨g,F,t,h⟩:=bI h;obtain⟨_,G,u,h⟩:=bI h;obtain⟨v,w,e,h⟩:=bI h;have H:=(Yx l).2.2;have I:=(Yx m).2.2;have J:=Yz n;have K:=Yz o;have L:=He p;have M:=Me q;have N:=Ee s;have O:=Me t;have P:=Yz u;have x:=Ef e;injection h with h;injection h with _ h;omega
def Vb {c i e k}(h:ZW c i=.ok (e,k)):i<k:=by
 unfold ZW at h
 split at h
 ·obtain⟨r,j,b,a⟩:=bI h;have:=Bz b;injection a with a;injection a with _ a;omega
 obtain⟨_,j,b,h⟩:=bI h;obtain⟨r,d,a,h⟩:=bI h;have:=Yz b;have:=yc a;injection h with h;injection h with _ h;omega
def Zs (ts:List Tk)(i:Nat)(a:List VC):Except Nat (List VC×Nat):=
 if _hs:(Zp ts i).sort=3 then .ok (a,i)
 else match _he:ZW ts i with
  | .error l=>.error l
  | .ok (e,j)=>match _hx:ZG ts j Vk with
   | .error l=>.error l
   | .ok (_,k)=>Zs ts k (a++[e])
 termination_by ts.length-i
 decreasing_by
  have c:=Vb _he;have d:=Yz _hx
  have f:i<ts.length:=by
   rcases q6 i ts.length with b|b
   ·exact b
   ·exfalso
    apply _hs;unfold Zp;rw[gD,v7 b];rfl
  omega
def XL {b i a}(h:(Zp b i).sort=3):Zs b i a=.ok (a,i):=by
 rw[Zs,dif_pos h]
def YR {a i b l}(h:¬(Zp a i).sort=3)(c:ZW a i=.error l):Zs a i b=.error l:=by
 rw[Zs,dif_neg h];split<;>simp_all
def Xg {a i b l e j}(h:¬(Zp a i).sort=3)(c:ZW a i=.ok (e,j))(d:ZG a j Vk=.error l):Zs a i b=.error l:=by
 rw[Zs,dif_neg h]
 split
 ·simp_all
 split<;>simp_all
def Wg {a i b e j u k}(h:¬(Zp a i).sort=3)(c:ZW a i=.ok (e,j))(d:ZG a j Vk=.ok (u,k)):Zs a i b=Zs a k (b++[e]):=by
 rw[Zs,dif_neg h]
 split
 ·simp_all
 split<;>simp_all
end Go.Proofs.YtccikgogjfbpeaaGreatDoor
namespace Go.Proofs.YtccikgogjfbpeaaGreatDoor
open Go.RowKit
def Pn (a:Nat)(w:R)(x:VC)(v:A):Prop:=
 match x with
 | .route r=>v=.iface 290 (U4 r)
 | .rule r=>∃b c d,v=.iface 295 (OT r b c d)/\w.ownsRow a 263 3 b r.mcc.length (Yw r.mcc)/\w.ownsRow a 263 3 c r.cur.length (Yw r.cur)/\w.ownsRow a 263 3 d r.act.routes.length (Yw r.act.routes)
def Pn.fr {base a w w' x v S}(h:Pn base w x v)(b:Fr S w w')(c:∀k,S k->k<base)(d:a<=base):Pn a w' x v:=by
 cases x with
 |route r=>exact h
 |rule r=>
  obtain⟨e,f,g,i,j,l,m⟩:=h;exact⟨e,f,g,i,oS (oF j b c) d,oS (oF l b c) d,oS (oF m b c) d⟩
def BA (w p g c f i)(h:Pa w p g c f i):
  L O 157 #[C (U ⟨p,0,Z⟩)] w (Zm (ZW f i) (fun x v R=>Pn w.heap.size R x v) w p g c f):=by
 have z:=o h;have S:p<w.heap.size:=bL w _ h.c0;clear h
 cases s:Zn (Zp f i) Va with
 |true=>
  go_enter Tryz.func157,Tryz.ntmps157;go_wp2_with fail;refine(Rh w p g c f i _ Va z.o z.o.at s).mono ?_;rintro e J ⟨rfl,A,a⟩;have j:=o a;have t:=o A;clear A a;go_wp2_with fail;refine(Bw _ p g c f (i+1) t.o).mono ?_;intro e T m
  cases b:WN f (i+1)with
  |error l=>
   obtain⟨q,a⟩:=(Zm.err b).1 m;unfold Zj at q;subst q;exact⟨rfl,(Zm.err (by unfold ZW;rw[if_pos s,Ye b])).2 ⟨rfl,j.o.trans a⟩⟩
  |ok r=>
   obtain⟨r,E⟩:=r;obtain⟨⟨v,rfl,rfl⟩,n,a⟩:=(Zm.ok b).1 m;have d:=o (j.o.trans a);have y:=o n
   have F:M (ZW f i=.ok (.route r,E)):=by show _=_;unfold ZW;rw[if_pos s,Zh b]
   clear b m n a;generalize B:U4 r=v;have G:=o B;clear B;go_wp2;go_ret;refine(Zm.ok F.o).2 ⟨⟨_,rfl,?_⟩,y.o,d.o⟩
   show _=_
   rw[G.o];rfl
 |false=>
  go_enter Tryz.func157,Tryz.ntmps157;go_wp2_with fail;refine(Pi w p g c f i _ Va z.o z.o.at s).mono ?_;rintro e J ⟨rfl,a⟩;have j:M (Fr (fun k=>k=p) w J):=a.mono;have t:=o (z.o.fr a);clear a;go_wp2_with fail;refine(Ui _ p g c f i Uh t.o).mono ?_;intro e T m
  cases b:ZG f i Uh with
  |error l=>
   obtain⟨q,a⟩:=(Zm.err b).1 m;unfold Zj at q;subst q;exact⟨rfl,(Zm.err (by unfold ZW;rw[if_neg (by simp[s]),Ye b])).2 ⟨rfl,j.o.trans a⟩⟩
  |ok r=>
   obtain⟨u,E⟩:=r;obtain⟨⟨v,rfl,rfl⟩,n,a⟩:=(Zm.ok b).1 m;have d:=o (j.o.trans a);have y:=o n;have K:=o b;clear b m n a;go_wp2_with fail;refine(ya _ p g c f E y.o).mono ?_;intro e V m
   cases b:Wo f E with
   |error l=>
    obtain⟨q,a⟩:=(Zm.err b).1 m;unfold Zj at q;subst q;exact⟨rfl,(Zm.err (by unfold ZW;rw[if_neg (by simp[s]),Zh K.o,Ye b])).2 ⟨rfl,d.o.trans a⟩⟩
   |ok r=>
    obtain⟨r,W⟩:=r;obtain⟨⟨v,rfl,X,Y,vr,B,N,P,Q⟩,D,a⟩:=(Zm.ok b).1 m;have H:=o (d.o.trans a);have I:=o D
    have F:M (ZW f i=.ok (.rule r,W)):=by show _=_;unfold ZW;rw[if_neg (by simp[s]),Zh K.o,Zh b]
    have G:M (Pn w.heap.size V (.rule r) (.iface 295 v)):=⟨X,Y,vr,by rw[B],oS N d.o.size,oS P d.o.size,oS Q d.o.size⟩;clear b m D a B N P Q;go_wp2;go_ret;exact(Zm.ok F.o).2 ⟨⟨_,rfl,G.o⟩,I.o,H.o⟩
def Y2 (a:Nat)(w:R):List VC->List A->Prop
 |[],[]=>True
 |x::xs,v::vs=>Pn a w x v/\Y2 a w xs vs
 |_,_=>False
def Y2.fr {base:Nat}{w w':R}{S:Nat->Prop}(a:Fr S w w')(b:∀k,S k->k<base):∀{c:List VC}{d:List A},Y2 base w c d->Y2 base w' c d
 |[],[],_=>trivial
 |_::_,_::_,h=>⟨h.1.fr a b (z2 _),Y2.fr a b h.2⟩
 |[],_::_,h=>h
 |_::_,[],h=>h
def Y2.base {base a:Nat}{w:R}(b:a<=base):∀{c:List VC}{d:List A},Y2 base w c d->Y2 a w c d
 |[],[],_=>trivial
 |_::_,_::_,h=>⟨h.1.fr (Fr.refl (fun _=>False) w) y b,Y2.base b h.2⟩
 |[],_::_,h=>h
 |_::_,[],h=>h
def Pn.iface {a w x v}(h:Pn a w x v):∃T u,v=.iface T u:=by
 cases x with
 |route r=>exact⟨_,_,h⟩
 |rule r=>obtain⟨_,_,_,b,_⟩:=h;exact⟨_,_,b⟩
def Y2.length {base:Nat}{w:R}:∀{a:List VC}{b:List A},Y2 base w a b->a.length=b.length
 |[],[],_=>rfl
 |_::_,_::_,h=>by simp[Y2.length h.2]
def Y2.snoc {a:Nat}{w:R}{x:VC}{v:A}(b:Pn a w x v):∀{c:List VC}{d:List A},Y2 a w c d->Y2 a w (c++[x]) (d++[v])
 |[],[],_=>⟨b,trivial⟩
 |_::_,_::_,h=>⟨h.1,Y2.snoc b h.2⟩
def WP {w:R}{j l c d o p v u n m q r}(h:w.ownsRow j c o v n q)(k:w.ownsRow l d p u m r)(b:c≠d):v.ownBlock=Z\/v.ownBlock≠u.ownBlock:=by
 rcases h.2 with⟨rfl,_⟩|⟨g,s,t,rfl,_,x,_⟩
 ·exact .inl rfl
 refine .inr fun e=>?_
 rcases k.2 with⟨rfl,_⟩|⟨y,f,i,rfl,_,a,_⟩
 ·simp[k7]at e
 simp[k7]at e;subst e;rw[x]at a;injection a with a;injection a with _ a;exact b a
def Pn.grown {base f m w b x v u g}(h:Pn base w x v)(k:w.ownsRow f 256 1 u m g)(a:w.grownBy b u.ownBlock):Pn base b x v:=by
 cases x with
 |route r=>exact h
 |rule r=>
  obtain⟨i,j,l,n,c,d,e⟩:=h;exact⟨i,j,l,n,c.kept a (WP c k aB),d.kept a (WP d k aB),e.kept a (WP e k aB)⟩
def Y2.grown {base e m:Nat}{w a:R}{u:A}{f:List A}(k:w.ownsRow e 256 1 u m f)(b:w.grownBy a u.ownBlock):∀{c:List VC}{d:List A},Y2 base w c d->Y2 base a c d
 |[],[],_=>trivial
 |_::_,_::_,h=>⟨h.1.grown k b,Y2.grown k b h.2⟩
 |[],_::_,h=>h
 |_::_,[],h=>h
def Mf:(O.info? 256).map (fun i=>(i.zero,i.size,i.bytes))=U (U .nilIface,1,16):=n
def Eg (a b c w):(Instr.field 263 (y9 #[a,b,c]) 0).run O w=.ok a w:=n
def WQ (w:R)(c:List Tk)(e:Ending)(a:R):Prop:=
 match Zs c 0 []with
 | .ok (xs,_)=>(∃v b,e=D v/\a.ownsRow w.heap.size 256 1 v xs.length b/\Y2 w.heap.size a xs b/\xs.length<=4000)/\Below w.heap.size w a
 | .error l=>e=Zj 3 l/\Below w.heap.size w a
def BB (w g c a)(p:∀j t,a[j]?=U t->w.cell? ⟨g,j*3,Z⟩=U (I J t.sort)/\w.cell? ⟨g,j*3+1,Z⟩=U (Y t.text)/\w.cell? ⟨g,j*3+2,Z⟩=U (I J t.line))(y:g<w.heap.size)(h0:0<a.length)(C:a.length<=4000)(z:(a.getLastD ⟨3,z7,0⟩).sort=3):
  L O 103 #[H (U ⟨g,0,Z⟩) a.length c] w (WQ w a):=by
 have HP:M (Pa (w.alloc (N #[H (U ⟨g,0,Z⟩) a.length c,I J 0] 260)) w.heap.size g c a 0):=by
  refine⟨aP,aP,aP,fun j t hj=>?_,az,aF,h0,C,z⟩;rw[x5 _ _ _ (by exact y),x5 _ _ _ (by exact y),x5 _ _ _ (by exact y)];exact p j t hj
 have A0:=Eg;go_enter Tryz.func103,Tryz.ntmps103;go_wp2
 go_loopg [4] a.length (fun m l wr=>∃j f B,m=a.length-j/\M (Pa wr w.heap.size g c a j)/\M (Below w.heap.size w wr)/\M (wr.ownsRow (w.heap.size+1) 256 1 l f.length B)/\M (Y2 (w.heap.size+1) wr f B)/\M (f.length<=j)/\M (Zs a 0 []=Zs a j f))
 case atStart=>exact⟨0,[],[],rfl,HP.o,(Below.refl _ _).alloc (z2 _) _,oZ _ _ _ _,trivial,x3 _,rfl⟩
 obtain⟨j,f,B,rfl,h,HB,HO,HV,HL,W⟩:=hrel;have e0:w.heap.size<wr.heap.size:=bL wr _ h.o.c0;by_cases h3:(Zp a j).sort=3
 ·go_wp2_with fail;refine(VP wr w.heap.size g c a j _ h.o h.o.at).mono ?_;rintro e X ⟨rfl,b⟩;have HF:=o b
  have d:M (WQ w a (D u4) X):=by
   show WQ w a (D u4) X
   unfold WQ;rw[W.o.trans (XL h3)];refine⟨⟨u4,B,rfl,oS (oF HO.o b) az,?_,?_⟩,HB.o.trans (b.below az)⟩
   ·exact Y2.base az (Y2.fr b aA HV.o)
   have:=HL.o;have:=h.o.lt;omega
  simp only[QD,h3];go_wp2;go_ret;exact d.o
 have B0:(((Zp a j).sort:Int) !=3)=true:=aF;have H3:=o h3;go_wp2_with fail;refine(VP wr w.heap.size g c a j _ h.o h.o.at).mono ?_;rintro e X ⟨rfl,b⟩;have E:=o (h.o.fr b);have F:=o (HB.o.trans (b.below az));have f0:=o (oF HO.o b);have g0:=o (Y2.fr b aA HV.o);have i0:w.heap.size<X.heap.size:=nL e0 b.size;simp only[QD];go_wp2_with fail;refine(BA _ w.heap.size g c a j E.o).mono ?_;intro e s G
 cases K:ZW a j with
 |error l=>
  obtain⟨P,b⟩:=(Zm.err K).1 G;unfold Zj at P;subst P
  have d:WQ w a (Zj 3 l) s:=by
   unfold WQ;rw[W.o.trans (YR H3.o K)];exact⟨rfl,F.o.trans (b.below az (fun k n=>az))⟩
  exact⟨rfl,d⟩
 |ok r=>
  obtain⟨x,j2⟩:=r;obtain⟨⟨v,rfl,hx⟩,j0,b⟩:=(Zm.ok K).1 G;obtain⟨T,u,rfl⟩:=hx.iface;have HX:M (Pn (w.heap.size+1) s x (.iface T u)):=hx.fr (Fr.refl (fun _=>False) s) aA az;have k0:=o j0;have l0:=o (F.o.trans (b.below az (fun k n=>az)));have q:=o (oF f0.o b (fun k n=>az));have m0:=o (Y2.fr b (fun k n=>az) g0.o);have n0:w.heap.size<s.heap.size:=nL i0 b.size;have HM:=o K;have C0:=Vb K;have y0:=HL.o;have hj:=E.o.lt
  go_wp2_with (at_builtin;refine ao (w.heap.size+1) Mf Tryz.underlying191 u4 f.length B ?h1 ⟨s.heap.size,0,Z⟩ [.iface T u] ?h2 ?_)
  case h1=>exact q.o.alloc _
  case h2=>exact z6 (aN s _)
  intro g2 z0 w3 Q i _ _;have R:=(Kk s (N #[.iface T u] 256)).1
  have p:∀k,u4.ownBlock=U k->w.heap.size+1<=k:=fun k n=>(q.o.lt k n).1
  have o0:=o Q;have p0:=o (Y2.snoc ((HX.o.fr R aA (z2 _)).grown (q.o.alloc _) i) (Y2.grown (q.o.alloc _) i (Y2.fr R aA m0.o)));have A:Fr (fun k=>w.heap.size+1<=k) s w3:=((Zo.alloc _).grown i (fun k n=>z1 (p k n)));have q0:=o (k0.o.fr A (fun k n=>az));have S:=o (l0.o.trans (A.below az (fun k n=>az)));have D0:w.heap.size<w3.heap.size:=nL n0 A.size;go_wp2_with fail;refine(Ui _ w.heap.size g c a j2 Vk q0.o).mono ?_;intro e w4 G
  cases V:ZG a j2 Vk with
  |error l=>
   obtain⟨P,b⟩:=(Zm.err V).1 G;unfold Zj at P;subst P
   have d:WQ w a (Zj 3 l) w4:=by
    unfold WQ;rw[W.o.trans (Xg H3.o HM.o V)];exact⟨rfl,S.o.trans (b.below az (fun k n=>az))⟩
   exact⟨rfl,d⟩
  |ok r=>
   obtain⟨u0,j4⟩:=r;obtain⟨⟨v,rfl,rfl⟩,r0,b⟩:=(Zm.ok V).1 G;have s0:=o r0;have t0:=o (S.o.trans (b.below az (fun k n=>az)));have v0:=o (oF o0.o b (fun k n=>az));have w0:=o (Y2.fr b (fun k n=>az) p0.o);have x0:=o (W.o.trans (Wg H3.o HM.o V));have E0:=Yz V;go_wp2;go_roundg (a.length-j4)
   case measure=>omega
   refine⟨j4,f++[x],B++[.iface T u],rfl,s0,t0,?_,w0,?_,x0⟩
   ·show q4 _ _ _ _ _ _ _
    rw[lA];exact v0.o
   show _<=_
   simp;omega
end Go.Proofs.YtccikgogjfbpeaaGreatDoor
namespace Go.Proofs.YtccikgogjfbpeaaGreatDoor
open Go.RowKit
def ZA (l:List UInt8):Nat:=l.foldl (fun n c=>n*10+(c.toNat-48)) 0
def Uk (l c):ZA (l++[c])=ZA l*10+(c.toNat-48):=by simp[ZA]
def Dg (t:ByteArray):Prop:=t.size<=9/\∀k,k<t.size->48<=Zy t k/\Zy t k<=57
def yd (s)(a:Dg s):∀k,k<=s.size->ZA (s.data.toList.take k)+1<=10^k:=by
 intro k
 induction k with
 |zero=>intro _;simp[ZA]
 |succ k b=>
  intro f;have g:=b z;have c:=(a.2 k z).2;have d:=(a.2 k z).1;rw[x4 aF,Uk];have e:Zy s k=((s.data.toList[k]' aF).toNat:Int):=P8 s k z;rw[e]at c d;rw[g6];omega
def Rk (s)(a:Dg s)(k)(b:k<=s.size):ZA (s.data.toList.take k)+1<=1000000000:=by
 have c:=yd s a k b;have d:10^k<=10^9:=Nat.pow_le_pow_right aB (aj a.1);exact v8 c d
def Mg (s)(a:Dg s)(k)(b:k<s.size):(ZA (s.data.toList.take (k+1)):Int)=(ZA (s.data.toList.take k):Int)*10+(Zy s k-48):=by
 rw[x4 aF,Uk];have c:Zy s k=((s.data.toList[k]' aF).toNat:Int):=P8 s k z;have d:=(a.2 k b).1;rw[c]at d ⊢;omega
def XM (w e s):F0 w (Lib.bytesWorld w e s):=
 ⟨by unfold Lib.bytesWorld k0;split<;>rfl,by unfold Lib.bytesWorld k0;split<;>rfl,by unfold Lib.bytesWorld k0;split<;>rfl,by rw[Lib.bytesWorld_size];omega,fun k a _=>Lib.bytesWorld_at_old w e s k a⟩
def RN (t w)(h:Dg t.text):
  L O 313 #[QD t] w fun e l=>e=D (I J (ZA t.text.data.toList))/\F0 w l:=by
 have d:=o h
 have f:=fun w=>Lib.run_convert_string_bytes (P:=O) w 9 50 5 t.text Tryz.underlying9 Tryz.underlying50 Tryz.underlying5
 clear h;unfold QD;go_enter Tryz.func313,Tryz.ntmps313;go_wp2_with fail;have m:M (Fr _ w (Lib.bytesWorld (w.alloc (N #[I J t.sort,Y t.text,I J t.line] 263)) 5 t.text)):=(Zo.alloc _).trans (XM _ _ _)
 have a:∀j,j<t.text.size->(Lib.bytesWorld (w.alloc (N #[I J t.sort,Y t.text,I J t.line] 263)) 5 t.text).cell? ⟨w.heap.size+1,j,Z⟩=U (I .u8 (Zy t.text j)):=fun j p=>by
  have:=Lib.bytesWorld_cell (w.alloc (N #[I J t.sort,Y t.text,I J t.line] 263)) 5 t.text j p
  simpa[Zy]using this
 have q:=o a;clear a f;have r:=d.o.1;generalize Lib.bytesWorld (w.alloc _) 5 t.text=W at*;generalize grownCap _ _ _ _=s at*
 go_loop [3,5,10] (fun n _ i=>∃k:Nat,k<=t.text.size/\i=I J k/\n=I J (ZA (t.text.data.toList.take k))) (fun _ _ i=>t.text.size-(intOf i).toNat)
 case atStart=>exact⟨0,x3 _,rfl,rfl⟩
 obtain⟨k,u,rfl,rfl⟩:=hrel;have y:=Rk t.text d.o k u;by_cases b:k<t.text.size
 ·have z:=q.o k b;have g:=o (Mg t.text d.o k b);have v:=d.o.2 k b;have x:=af k t.text.size;generalize ZA (t.text.data.toList.take k)=n at*;generalize Zy t.text k=c at*;go_wp2;refine⟨⟨k+1,az,aE,?_⟩,by simp[intOf];omega⟩;rw[g.o]
 go_wp2;go_ret;exact⟨ZQ (by rw[x2 aF]),m.o⟩
def Zd (t:Tk):Nat:=ZA t.text.data.toList
def OV (t)(a:Dg t.text):Zd t<=999999999:=by
 have:=Rk t.text a t.text.size (z2 _);rw[x2 y]at this;unfold Zd;omega
def RO (t w a)(c:Int)(d:Dg t.text)(l:Zd t<=a)(f:c=a):
  L O 316 #[QD t,I J c] w fun e b=>e=D (I J (Zd t))/\F0 w b:=by
 subst f
 have g:M (∀W,L O 313 #[y9 #[I J t.sort,Y t.text,I J t.line]] W fun e b=>e=D (I J (Zd t))/\F0 W b):=fun W=>RN t W d
 have h:¬(a:Int)<(Zd t:Int):=z;generalize Zd t=n at*;unfold QD;go_enter Tryz.func316,Tryz.ntmps316
 go_wp2_with (go_at_call 313;refine Bp (g.o _) fun i j=>?_;have k:M (F0 w i):=(Zo.alloc _).trans j)
 go_ret;exact⟨rfl,k.o⟩
def Po (t w a)(f:Int)(i:Dg t.text)(m:a<Zd t)(g:f=a):
  L O 316 #[QD t,I J f] w fun e c=>e=Zj 5 t.line/\F0 w c:=by
 subst g
 have j:M (∀W,L O 313 #[y9 #[I J t.sort,Y t.text,I J t.line]] W fun e c=>e=D (I J (Zd t))/\F0 W c):=fun W=>RN t W i
 have k:(a:Int)<(Zd t:Int):=z;generalize Zd t=n at*;unfold QD;go_enter Tryz.func316,Tryz.ntmps316;go_wp2_with fail;refine(j.o _).mono ?_;rintro e p ⟨rfl,b⟩;have l:=o ((Zo.alloc _).trans b);have d:=b.whole (aN w _);obtain⟨q,g,r⟩:=aq d;go_wp2_with fail;refine(YL t 5 _ _ aD).mono ?_;rintro e s ⟨h,b⟩;unfold Zj at h;subst h;exact⟨rfl,rfl,l.o.trans b⟩
end Go.Proofs.YtccikgogjfbpeaaGreatDoor
namespace Go.Proofs.YtccikgogjfbpeaaGreatDoor
def T1 (n:Nat)(t:Tk):Prop:=(t.sort=1->Dg t.text)/\t.text.size<=n/\t.sort<=3
def QE (p:Int->Bool):∀(l:List UInt8)(j:Nat),j<Z5 p l->∃c,l[j]?=U c/\p (c.toNat:Int)=true
 |[],j,h=>by simp[Z5]at h
 |c::r,j,h=>by
  simp only[Z5]at h
  split at h
  ·rename_i a
   cases j with
   |zero=>exact⟨c,rfl,a⟩
   |succ j=>
    obtain⟨d,b,e⟩:=QE p r j z;exact⟨d,by simpa using b,e⟩
  omega
def Rl (s a b j)(h:a+j<b):Zy (s.extract a b) j=Zy s (a+j):=by
 unfold Zy;rw[Lib.extract_data,gD,gD,x7,if_pos z,k4]
def tP (s k)(d:k<=s.size)(i:ZB iD s k<=9):Dg (s.extract k (k+ZB iD s k)):=by
 have f:=Xz iD s k d;refine⟨aF,fun j g=>?_⟩
 have a:j<ZB iD s k:=by simp at g;omega
 rw[Rl s k _ j z];obtain⟨c,b,h⟩:=QE iD (s.data.toList.drop k) j a;rw[k4]at b
 have e:Zy s (k+j)=(c.toNat:Int):=by unfold Zy;rw[gD,b];rfl
 rw[e]
 simpa[iD]using h
def Eh {s k f j t}(h:k<s.size)(c:Zt s k f=.tok t j):T1 s.size t:=by
 have g:∀a b,(s.extract a b).size<=s.size:=fun a b=>aF
 unfold Zt at c
 split at c
 ·contradiction
 split at c
 ·contradiction
 split at c
 ·contradiction
 split at c
 ·split at c
  ·injection c with d i;subst d;exact⟨fun e=>by simp at e,g _ _,y⟩
  split at c
  ·contradiction
  injection c with d i;subst d;exact⟨fun e=>by simp at e,g _ _,y⟩
 split at c
 ·split at c
  ·contradiction
  rename_i l;injection c with d i;subst d;exact⟨fun _=>tP s k z z,g _ _,y⟩
 split at c
 ·injection c with d i;subst d;exact⟨fun e=>by simp at e,g _ _,y⟩
 split at c
 ·injection c with d i;subst d;exact⟨fun e=>by simp at e,g _ _,y⟩
 contradiction
def Rm {s}:∀n k a c ts,s.size-k=n->(∀t,t∈c->T1 s.size t)->ZN s k a c=.ok ts->(∀t,t∈ts->T1 s.size t)/\(ts.getLastD ⟨3,z7,0⟩).sort=3/\0<ts.length:=by
 intro n
 induction n using k5 with
 |ind n j=>
  intro k a c ts m d h;by_cases f:k<s.size
  ·cases g:Zt s k a with
   |skip i l=>
    rw[YP f g]at h;have:=We f g;exact j (s.size-i) z i l c ts rfl d h
   |tok t i=>
    rw[WK f g]at h;have:=WJ f g;refine j (s.size-i) z i a (c++[t]) ts rfl (fun u b=>?_) h;rcases k6.1 b with b|b
    ·exact d u b
    simp at b;subst b;exact Eh f g
   |bad=>rw[XC f g]at h;cases h
  rw[WL f]at h;injection h with h;subst h;refine⟨fun u b=>?_,y,y⟩;rcases k6.1 b with b|b
  ·exact d u b
  simp at b;subst b;exact⟨fun e=>by simp at e,y,y⟩
end Go.Proofs.YtccikgogjfbpeaaGreatDoor
namespace Go.Proofs.YtccikgogjfbpeaaGreatDoor
open Go.RowKit
def BC (a b w)(d:a.text.size<=6)(f:b.text.size=a.text.size):
  L O 317 #[U3 (a,b)] w fun e c=>e=D (I J a.text.size)/\F0 w c:=by
 have g:=ai 6 a.text.size;have h:((b.text.size:Int) !=(a.text.size:Int))=false:=aF;unfold U3;go_enter Tryz.func317,Tryz.ntmps317;go_wp2;go_ret;exact⟨rfl,Zo.alloc _⟩
def Hf (a b w)(g:6<a.text.size):
  L O 317 #[U3 (a,b)] w fun e d=>e=Zj 5 a.line/\F0 w d:=by
 have h:=af 6 a.text.size;unfold U3;go_enter Tryz.func317,Tryz.ntmps317;go_wp2_with fail;refine(YL a 5 _ _ aD).mono ?_;rintro e i ⟨c,f⟩;unfold Zj at c;subst c;exact⟨rfl,rfl,(Zo.alloc _).trans f⟩
def J5 (a b w)(g:a.text.size<=6)(h:b.text.size≠a.text.size):
  L O 317 #[U3 (a,b)] w fun e d=>e=Zj 5 b.line/\F0 w d:=by
 have i:=ai 6 a.text.size;have j:((b.text.size:Int) !=(a.text.size:Int))=true:=aF;unfold U3;go_enter Tryz.func317,Tryz.ntmps317;go_wp2_with fail;refine(YL b 5 _ _ aD).mono ?_;rintro e k ⟨c,f⟩;unfold Zj at c;subst c;exact⟨rfl,rfl,(Zo.alloc _).trans f⟩
def Pp (x y:Nat):A:=y9 #[I J x,I J y]
def VS (x y a:Nat)(e:Ending):Prop:=if x<=y then e=D (Pp x y)else e=Zj 5 a
def VS.ok {x y a e}(h:x<=y):VS x y a e↔e=D (Pp x y):=by unfold VS;rw[if_pos h]
def VS.bad {x y a e}(h:¬x<=y):VS x y a e↔e=Zj 5 a:=by unfold VS;rw[if_neg h]
def Hg (a b w)(ha:Dg a.text)(hb:Dg b.text):
  L O 320 #[U3 (a,b)] w fun e q=>VS (Zd a) (Zd b) b.line e/\F0 w q:=by
 have HA:M (∀W,L O 313 #[y9 #[I J a.sort,Y a.text,I J a.line]] W fun e q=>e=D (I J (Zd a))/\F0 W q):=fun W=>RN a W ha
 have P:M (∀W,L O 313 #[y9 #[I J b.sort,Y b.text,I J b.line]] W fun e q=>e=D (I J (Zd b))/\F0 W q):=fun W=>RN b W hb
 clear ha hb;generalize Zd a=x at*;generalize Zd b=y at*;unfold U3;go_enter Tryz.func320,Tryz.ntmps320;go_wp2_with fail;obtain⟨Q,c,R⟩:=TL w (N #[I J a.sort,Y a.text,I J a.line,I J b.sort,Y b.text,I J b.line] 293) (N #[I J 0,I J 0] 118);generalize(w.alloc _).alloc _=u at*
 go_cut [3] (fun s wc=>∃X,s=C (U ⟨X,0,Z⟩)/\M (wc.heap[X]?=U (N #[I J x,I J y] 118))/\M (F0 u wc))
 case first=>
  obtain⟨b0,b1,b2,b3,b4,b5⟩:=ax c.o;refine wp_region_held_drew (S:=fun q=>F0 u q) aC Zo.drew (fun f=>?_);generalize u.drew=T at*;clear b0 b1 b2 b3 b4 b5;refine U0 0 (v:=?v0) ?y0 f ?r0
  case y0=>intro q h;obtain⟨g0,g1,g2,g3,V,g5⟩:=ax (h.whole c.o);clear h;go_simp;with_reducible rfl
  go_frame;refine U0 1 (v:=?v1) ?y1 f ?r1
  case y1=>intro q h;obtain⟨g0,g1,g2,g3,V,g5⟩:=ax (h.whole c.o);clear h;go_simp;with_reducible rfl
  go_frame;refine U0 3 (v:=?v3) ?y3 f ?r3
  case y3=>intro q h;obtain⟨g0,g1,g2,g3,V,g5⟩:=ax (h.whole c.o);clear h;go_simp;with_reducible rfl
  go_frame;refine U0 4 (v:=?v4) ?y4 f ?r4
  case y4=>intro q h;obtain⟨g0,g1,g2,g3,V,g5⟩:=ax (h.whole c.o);clear h;go_simp;with_reducible rfl
  go_frame;refine XA [2,7] ?_;refine Zb rfl (fun K g=>?_) ?_
  ·rw[if_pos aD];go_simp;refine(HA.o _).mono ?_;rintro e w1 ⟨rfl,l⟩;have d:=f.trans l;refine g.out _ _ d (fun f=>?_);clear g K d l
   try go_frame
   refine XA [5,7] ?_;refine Zb rfl (fun K g=>?_) ?_
   ·rw[if_pos aD];go_simp;refine(P.o _).mono ?_;rintro e w2 ⟨rfl,l⟩;have d:=f.trans l;refine g.out _ _ d (fun f=>?_);clear g K d l
    try go_frame
    refine ZJ 6 f ?_;go_frame;refine WI 7 (fun K g=>?_);go_simp;obtain⟨X,n⟩:=ae w2.heap.size
    have z:u.heap.size<=X:=by rw[n];exact f.size
    have j:M ((w2.alloc (N #[I J 0,I J 0] 118)).heap[X]?=U (N #[I J 0,I J 0] 118)):=by rw[n];exact aN _ _
    have d:=f.alloc (N #[I J 0,I J 0] 118);rw[<-n];refine g.out _ _ d (fun f=>?_);clear g K d
    try go_frame
    clear n;generalize A:w2.alloc _=q3 at*;clear A;obtain⟨s0,s1⟩:=ap j.o;have sf:=bF j.o;refine WI 8 (fun K g=>?_);go_simp;have B:Fr (fun k=>k=X) q3 ((q3.setCell ⟨X,0,Z⟩ (I J x)).setCell ⟨X,1,Z⟩ (I J y)):=((Fr.refl (fun k=>k=X) _).setCell (p:=⟨X,0,Z⟩) (z1 rfl) _).setCell (p:=⟨X,1,Z⟩) (z1 rfl) _;have m:=f.monoNew B (fun k G=>y7 az);have i:M (((q3.setCell ⟨X,0,Z⟩ (I J x)).setCell ⟨X,1,Z⟩ (I J y)).heap[X]?=U (N #[I J x,I J y] 118)):=Yq (Yq j.o 0 _) 1 _;refine g.out _ _ m (fun f=>?_);clear g K
    try go_frame
    refine wpAnyH_done aC ?_ _;go_wp2;go_meet;exact⟨X,rfl,i.o,m⟩
   refine Zb rfl (fun K g=>?_) y8;rw[if_pos aD];go_simp;obtain⟨X,n⟩:=ae w1.heap.size
   have z:u.heap.size<=X:=by rw[n];exact f.size
   have j:M ((w1.alloc (N #[I J 0,I J 0] 118)).heap[X]?=U (N #[I J 0,I J 0] 118)):=by rw[n];exact aN _ _
   have d:=f.alloc (N #[I J 0,I J 0] 118);rw[<-n];refine g.out _ _ d (fun f=>?_);clear g K d
   try go_frame
   clear n;generalize A:w1.alloc _=q5 at*;clear A;refine WI 5 (fun K g=>?_);go_simp;refine(P.o _).mono ?_;rintro e w6 ⟨rfl,l⟩;have d:=f.trans l;have i:=o (l.whole j.o);clear j;have j:=i;clear i;refine g.out _ _ d (fun f=>?_);clear g K d l
   try go_frame
   refine ZJ 6 f ?_;go_frame;obtain⟨s0,s1⟩:=ap j.o;have sf:=bF j.o;refine WI 8 (fun K g=>?_);go_simp;have B:Fr (fun k=>k=X) w6 ((w6.setCell ⟨X,0,Z⟩ (I J x)).setCell ⟨X,1,Z⟩ (I J y)):=((Fr.refl (fun k=>k=X) _).setCell (p:=⟨X,0,Z⟩) (z1 rfl) _).setCell (p:=⟨X,1,Z⟩) (z1 rfl) _;have m:=f.monoNew B (fun k G=>y7 az);have i:M (((w6.setCell ⟨X,0,Z⟩ (I J x)).setCell ⟨X,1,Z⟩ (I J y)).heap[X]?=U (N #[I J x,I J y] 118)):=Yq (Yq j.o 0 _) 1 _;refine g.out _ _ m (fun f=>?_);clear g K
   try go_frame
   refine wpAnyH_done aC ?_ _;go_wp2;go_meet;exact⟨X,rfl,i.o,m⟩
  refine Zb rfl (fun K g=>?_) y8;rw[if_pos aD];go_simp;obtain⟨X,n⟩:=ae T.heap.size
  have z:u.heap.size<=X:=by rw[n];exact f.size
  have j:M ((T.alloc (N #[I J 0,I J 0] 118)).heap[X]?=U (N #[I J 0,I J 0] 118)):=by rw[n];exact aN _ _
  have d:=f.alloc (N #[I J 0,I J 0] 118);rw[<-n];refine g.out _ _ d (fun f=>?_);clear g K d
  try go_frame
  clear n;generalize A:T.alloc _=q8 at*;clear A;refine WI 2 (fun K g=>?_);go_simp;refine(HA.o _).mono ?_;rintro e w9 ⟨rfl,l⟩;have d:=f.trans l;have i:=o (l.whole j.o);clear j;have j:=i;clear i;refine g.out _ _ d (fun f=>?_);clear g K d l
  try go_frame
  refine WI 5 (fun K g=>?_);go_simp;refine(P.o _).mono ?_;rintro e t ⟨rfl,l⟩;have d:=f.trans l;have i:=o (l.whole j.o);clear j;have j:=i;clear i;refine g.out _ _ d (fun f=>?_);clear g K d l
  try go_frame
  refine ZJ 6 f ?_;go_frame;obtain⟨s0,s1⟩:=ap j.o;have sf:=bF j.o;refine WI 8 (fun K g=>?_);go_simp;have B:Fr (fun k=>k=X) t ((t.setCell ⟨X,0,Z⟩ (I J x)).setCell ⟨X,1,Z⟩ (I J y)):=((Fr.refl (fun k=>k=X) _).setCell (p:=⟨X,0,Z⟩) (z1 rfl) _).setCell (p:=⟨X,1,Z⟩) (z1 rfl) _;have m:=f.monoNew B (fun k G=>y7 az);have i:M (((t.setCell ⟨X,0,Z⟩ (I J x)).setCell ⟨X,1,Z⟩ (I J y)).heap[X]?=U (N #[I J x,I J y] 118)):=Yq (Yq j.o 0 _) 1 _;refine g.out _ _ m (fun f=>?_);clear g K
  try go_frame
  refine wpAnyH_done aC ?_ _;go_wp2;go_meet;exact⟨X,rfl,i.o,m⟩
 obtain⟨X,rfl,j,HF⟩:=hcut;obtain⟨x0,x1⟩:=ap j.o;have r:=HF.o.whole c.o;have H:=HF.o.whole R.o;have b3:=Zc r 3;have b4:=Zc r 4;have b5:=Zc r 5;obtain⟨r0,r1⟩:=ap H;have rf:=bF H;have E:=o (Q.o.trans HF.o);clear r H;by_cases F:x<=y
 ·have hn:=ai y x;go_wp2;have hW:Fr (fun k=>w.heap.size<=k) wc ((wc.setCell ⟨w.heap.size+1,0,Z⟩ (I J x)).setCell ⟨w.heap.size+1,1,Z⟩ (I J y)):=((Fr.refl (fun k=>w.heap.size<=k) wc).setCell (p:=⟨w.heap.size+1,0,Z⟩) (z1 (v2 _)) _).setCell (p:=⟨w.heap.size+1,1,Z⟩) (z1 (v2 _)) _;exact bodyPost_ret (v:=Pp x y) (by simp[results,Tryz.results320,go_sem,Pp, *]) rfl ⟨(VS.ok F).2 rfl,E.o.monoNew hW (fun k G=>y7 G)⟩
 have hn:=af y x;go_wp2_with fail;refine(YL b 5 _ _ aD).mono ?_;rintro e w3 ⟨he,l⟩;unfold Zj at he;subst he;exact⟨rfl,(VS.bad F).2 rfl,E.o.trans l⟩
end Go.Proofs.YtccikgogjfbpeaaGreatDoor
namespace Go.Proofs.YtccikgogjfbpeaaGreatDoor
open Go.RowKit
def J6 (a b w)(m:Int)(u:Dg a.text)(z:Dg b.text)(A:m=(1000000000:Nat)):
  L O 322 #[U3 (a,b),I J m] w fun e l=>VS (Zd a) (Zd b) b.line e/\F0 w l:=by
 have U:=OV a u;have V:=OV b z
 have X:M (∀W,L O 316 #[y9 #[I J a.sort,Y a.text,I J a.line],I J m] W fun e l=>e=D (I J (Zd a))/\F0 W l):=fun W=>RO a W 1000000000 m u az A
 have HB:M (∀W,L O 316 #[y9 #[I J b.sort,Y b.text,I J b.line],I J m] W fun e l=>e=D (I J (Zd b))/\F0 W l):=fun W=>RO b W 1000000000 m z az A
 have HC:M (∀W,L O 320 #[y9 #[I J a.sort,Y a.text,I J a.line,I J b.sort,Y b.text,I J b.line]] W fun e l=>VS (Zd a) (Zd b) b.line e/\F0 W l):=fun W=>Hg a b W u z
 clear u z A U V;generalize Zd a=x at*;generalize Zd b=y at*;unfold U3;go_enter Tryz.func322,Tryz.ntmps322;go_wp2_with fail;obtain⟨n,q,r⟩:=TL w (N #[I J a.sort,Y a.text,I J a.line,I J b.sort,Y b.text,I J b.line] 293) (N #[I J 0,I J 0] 118);refine(X.o _).mono ?_;rintro e w1 ⟨rfl,f⟩;have c:=f.whole q.o;have s:=f.whole r.o;have B:=o (n.o.trans f);clear q r n f;have C:=bC c 0 _ rfl;have E:=bC c 1 _ rfl;have F:=bC c 2 _ rfl;have G:=bC c 3 _ rfl;have H:=bC c 4 _ rfl;have K:=bC c 5 _ rfl;have i:=o c;have j:=o s;clear c s;go_wp2_with fail;refine(HB.o _).mono ?_;rintro e w2 ⟨rfl,f⟩;have d:=f.whole i.o;have P:=o (f.whole j.o);have t:=o (B.o.trans f);clear f C E F G H K i j;have C:=bC d 0 _ rfl;have E:=bC d 1 _ rfl;have F:=bC d 2 _ rfl;have G:=bC d 3 _ rfl;have H:=bC d 4 _ rfl;have K:=bC d 5 _ rfl;clear d;go_wp2_with fail;refine(HC.o _).mono ?_;rintro e Q ⟨R,f⟩;by_cases g:x<=y
 ·obtain rfl:=(VS.ok g).1 R;have h:=f.whole P.o;have S:=o (t.o.trans f);obtain⟨r0,r1⟩:=ap h;have rf:=bF h;clear R f h C E F G H K;simp only[Pp];go_wp2;have hW:Fr (fun k=>w.heap.size<=k) Q ((Q.setCell ⟨w.heap.size+1,0,Z⟩ (I J x)).setCell ⟨w.heap.size+1,1,Z⟩ (I J y)):=((Fr.refl (fun k=>w.heap.size<=k) Q).setCell (p:=⟨w.heap.size+1,0,Z⟩) (z1 (v2 _)) _).setCell (p:=⟨w.heap.size+1,1,Z⟩) (z1 (v2 _)) _;exact bodyPost_ret (v:=Pp x y) (by simp[results,Tryz.results322,go_sem,Pp, *]) rfl ⟨(VS.ok g).2 rfl,S.o.monoNew hW (fun k hk=>y7 hk)⟩
 have T:=(VS.bad g).1 R;unfold Zj at T;subst T;exact⟨rfl,(VS.bad g).2 rfl,t.o.trans f⟩
def Zq (a:Nat):Nat->List Tk->Except (Nat×Nat) (List Nat)
 |_,[]=>.ok []
 |i,t::r=>if i=4 then .error (6,t.line)else if a<Zd t then .error (5,t.line)else
  match Zq a (i+1) r with
  | .error f=>.error f
  | .ok ns=>.ok (Zd t::ns)
def Zg (ns:List Nat):List A:=ns.map fun n:Nat=>Value.int J (n:Int)
def Y9:(O.info? 3).map (fun i=>(i.zero,i.size,i.bytes))=U (U (I J 0),1,8):=n
def WD (r:Except (Nat×Nat) (List Nat))(w:R)(e:Ending)(a:R):Prop:=
 match r with
 | .ok ns=>(∃v,e=D v/\a.ownsRow w.heap.size 3 1 v ns.length (Zg ns))/\F0 w a
 | .error f=>e=Zj f.1 f.2/\F0 w a
def WD.ok {r w w' e ns}(h:r=.ok ns):WD r w e w'↔(∃v,e=D v/\w'.ownsRow w.heap.size 3 1 v ns.length (Zg ns))/\F0 w w':=by subst h;exact Iff.rfl
def WD.err {r w a e f}(h:r=.error f):WD r w e a↔e=Zj f.1 f.2/\F0 w a:=by subst h;exact Iff.rfl
def XU (a:Nat)(b:List Nat)(i:Nat)(l:List Tk):Except (Nat×Nat) (List Nat):=
 match Zq a i l with
 | .error f=>.error f
 | .ok ns=>.ok (b++ns)
def J7 (a b i):XU a b i []=.ok b:=by simp[XU,Zq]
def Km {a b t r}:XU a b 4 (t::r)=.error (6,t.line):=by simp[XU,Zq]
def J8 {a b i t r}(h:i≠4)(c:a<Zd t):XU a b i (t::r)=.error (5,t.line):=by simp[XU,Zq,h,c]
def Hh {a b i t r}(h:i≠4)(c:¬a<Zd t):XU a b i (t::r)=XU a (b++[Zd t]) (i+1) r:=by
 simp only[XU,Zq,if_neg h,if_neg c]
 cases Zq a (i+1) r<;>simp
def NM {a:List Tk}{j t}(c:a[j]?=U t):a.drop j=t::a.drop (j+1):=by
 obtain⟨b,d⟩:=iG.1 c;rw[dC b,d]
def X6 (ns)(n:Nat):Zg (ns++[n])=Zg ns++[I J n]:=by simp[Zg]
def Oa:∀(a:List Tk)(j:Nat)(t:Tk),a[j]?=U t->(Yw a)[j*3]?=U (I J t.sort)/\(Yw a)[j*3+1]?=U (Y t.text)/\(Yw a)[j*3+2]?=U (I J t.line)
 |[],j,t,h=>by simp at h
 |x::r,0,t,h=>by simp at h;subst h;exact⟨rfl,rfl,rfl⟩
 |x::r,j+1,t,h=>by
  have:=Oa r j t (by simpa using h)
  have e:Yw (x::r)=NL x++Yw r:=by simp[Yw]
  have l:(NL x).length=3:=rfl;rw[e];refine⟨?_,?_,?_⟩
  ·rw[aR z,l,show(j+1)*3-3=j*3 from z];exact this.1
  ·rw[aR z,l,show(j+1)*3+1-3=j*3+1 from z];exact this.2.1
  rw[aR z,l,show(j+1)*3+2-3=j*3+2 from z];exact this.2.2
def OW {w:R}{e v i}(h:w.ownsRow e 263 3 v i.length (Yw i))(m:0<i.length):
  ∃g f,v=H (U ⟨g,0,Z⟩) i.length f/\e<=g/\g<w.heap.size/\∀j t,i[j]?=U t->w.cell? ⟨g,j*3,Z⟩=U (I J t.sort)/\w.cell? ⟨g,j*3+1,Z⟩=U (Y t.text)/\w.cell? ⟨g,j*3+2,Z⟩=U (I J t.line):=by
 obtain⟨g,f,rfl,n,o⟩:=h.form m;refine⟨g,f,rfl,n,o,fun j t p=>?_⟩;obtain⟨a,b,c⟩:=Oa i j t p
 have d:∀k,(⟨g,0,Z⟩:Addr).add k=⟨g,k,Z⟩:=fun k=>aK
 have l:=h.cells (g:=g) rfl;exact⟨by have:=l _ _ a;rwa [d]at this,by have:=l _ _ b;rwa [d]at this,by have:=l _ _ c;rwa [d]at this⟩
def OX (w x v d)(a:Nat)(i1:Int)(h:w.ownsRow x 263 3 v d.length (Yw d))(N:∀t,t∈d->Dg t.text)(c0:d.length<=4000)(e1:i1=a):
  L O 321 #[v,I J i1] w (WD (Zq a 0 d) w):=by
 subst e1
 have HM:M (Zq a 0 d=XU a [] 0 d):=by show _=_;unfold XU;cases Zq a 0 d<;>simp
 by_cases hn:0<d.length
 ·obtain⟨g,S,rfl,hb,T,f⟩:=OW h hn;have HR:=Za f;have HD:=Za N;clear h f N hn;go_enter Tryz.func321,Tryz.ntmps321;go_wp2
  go_loopg [5,6,7,10] d.length (fun m o _ _ c wr=>∃j b,j<=d.length/\m=d.length-j/\c=I J j/\M (wr.ownsRow w.heap.size 3 1 o b.length (Zg b))/\M (b.length=j)/\M (F0 w wr)/\M (Zq a 0 d=XU a b j (d.drop j)))
  case atStart=>exact⟨0,[],x3 _,rfl,rfl,oZ _ _ _ _,rfl,Zo,HM.o⟩
  obtain⟨j,b,hj,rfl,rfl,HO,HA,r,E⟩:=hrel;by_cases V:j<d.length
  ·obtain⟨t,F⟩:∃t,d[j]?=U t:=⟨_,gE V⟩
   have HT:=Za F;obtain⟨r0,r1,r2⟩:=HR.o j t F;rw[<-r.o.cell (p:=⟨g,j*3,Z⟩) T aA]at r0;rw[<-r.o.cell (p:=⟨g,j*3+1,Z⟩) T aA]at r1;rw[<-r.o.cell (p:=⟨g,j*3+2,Z⟩) T aA]at r2;have W:=af j d.length;have i:M (d.drop j=t::d.drop (j+1)):=NM F;clear F;by_cases h4:j=4
   ·have X:((j:Int)==4)=true:=aF;have G:=Za h4;clear h4;go_wp2_with fail;refine(YL t 6 _ _ aD).mono ?_;rintro e u ⟨y,s⟩;unfold Zj at y;subst y;exact⟨rfl,(WD.err (by rw[E.o,i.o,G.o];exact Km)).2 ⟨rfl,(r.o.alloc _).trans s⟩⟩
   have X:((j:Int)==4)=false:=aF;have G:=Za h4;clear h4;by_cases K:a<Zd t
   ·have z:=Za K;clear K;go_wp2_with fail;refine(Po t _ a _ (HD.o t (mG HT.o)) z.o aD).mono ?_;rintro e u ⟨y,s⟩;unfold Zj at y;subst y;exact⟨rfl,(WD.err (by rw[E.o,i.o];exact J8 G.o z.o)).2 ⟨rfl,(r.o.alloc _).trans s⟩⟩
   have z:=Za K;clear K;go_wp2_with fail;refine(RO t _ a _ (HD.o t (mG HT.o)) (Nat.le_of_not_lt z.o) aD).mono ?_;rintro e u ⟨rfl,s⟩;have A:M (F0 w u):=(r.o.alloc _).trans s;have B:M (u.ownsRow w.heap.size 3 1 u5 b.length (Zg b)):=oF (HO.o.alloc _) s;have Y:M (Zq a 0 d=XU a (b++[Zd t]) (j+1) (d.drop (j+1))):=E.o.trans (by rw[i.o];exact Hh G.o z.o);have d0:b.length<=d.length:=aj HA.o;have f0:=A.o.size;clear s r0 r1 r2;generalize Zd t=n at*
   go_wp2_with (at_builtin;refine ao w.heap.size Y9 Tryz.underlying25 u5 b.length (Zg b) ?h1 ⟨u.heap.size,0,Z⟩ [I J n] ?h2 ?_)
   case h1=>exact B.o.alloc _
   case h2=>exact z6 (aN u _)
   intro g2 e0 w4 q l _ _
   have f:∀k,u5.ownBlock=U k->w.heap.size<=k:=fun k hk=>(B.o.lt k hk).1
   have a0:=Za q;have b0:M (F0 w w4):=(A.o.alloc _).grown l (fun k hk=>y7 (f k hk));clear l q f;go_wp2;go_roundg (d.length-(j+1))
   case measure=>omega
   refine⟨j+1,b++[n],az,rfl,aE,?_,?_,b0,Y⟩
   ·show q4 _ _ _ _ _ _ _
    rw[X6,lA];exact a0.o
   show _=_
   have:=HA.o;simp;omega
  have W:=ai j d.length
  have C:M (WD (Zq a 0 d) w (D u5) wr):=by
   show WD _ _ _ _
   refine(WD.ok (ns:=b) ?_).2 ⟨⟨u5,rfl,HO.o⟩,r.o⟩;rw[E.o,dL az];exact J7 _ _ _
  go_wp2;go_ret;exact C.o
 have hz:d=[]:=y6 az;subst hz;rcases h.2 with⟨rfl,_⟩|⟨g,S,g0,rfl,_⟩
 all_goals
  clear h N;go_enter Tryz.func321,Tryz.ntmps321;go_wp2
  go_loopg [5,6,7,10] 1 (fun m o _ _ c wr=>m=1/\o=H Z 0 0/\c=I J 0/\wr=w)
  case atStart=>exact⟨rfl,rfl,rfl,rfl⟩
  obtain⟨rfl,rfl,rfl,rfl⟩:=hrel;go_wp2;go_ret;exact(WD.ok (ns:=[]) rfl).2 ⟨⟨_,rfl,oZ _ _ _ _⟩,Zo⟩
end Go.Proofs.YtccikgogjfbpeaaGreatDoor
namespace Go.Proofs.YtccikgogjfbpeaaGreatDoor
open Go.RowKit
structure Zf where
 name:ByteArray
 base:Nat
 rate:Nat
def Sr (r:Zf):List A:=[Y r.name,I J r.base,I J r.rate]
def Ym (a:List Zf):List A:=a.flatMap Sr
def Mh (a r):Ym (a++[r])=Ym a++Sr r:=by simp[Ym]
def T2:∀(a:List Zf)(j:Nat)(r:Zf),a[j]?=U r->(Ym a)[j*3]?=U (Y r.name)/\(Ym a)[j*3+1]?=U (I J r.base)/\(Ym a)[j*3+2]?=U (I J r.rate)
 |[],j,t,h=>by simp at h
 |x::r,0,t,h=>by simp at h;subst h;exact⟨rfl,rfl,rfl⟩
 |x::r,j+1,t,h=>by
  have:=T2 r j t (by simpa using h)
  have e:Ym (x::r)=Sr x++Ym r:=by simp[Ym]
  have l:(Sr x).length=3:=rfl;rw[e];refine⟨?_,?_,?_⟩
  ·rw[aR z,l,show(j+1)*3-3=j*3 from z];exact this.1
  ·rw[aR z,l,show(j+1)*3+1-3=j*3+1 from z];exact this.2.1
  rw[aR z,l,show(j+1)*3+2-3=j*3+2 from z];exact this.2.2
def U5 {w:R}{e v i}(h:w.ownsRow e 148 3 v i.length (Ym i))(m:0<i.length):
  ∃g f,v=H (U ⟨g,0,Z⟩) i.length f/\e<=g/\g<w.heap.size/\∀j r,i[j]?=U r->w.cell? ⟨g,j*3,Z⟩=U (Y r.name)/\w.cell? ⟨g,j*3+1,Z⟩=U (I J r.base)/\w.cell? ⟨g,j*3+2,Z⟩=U (I J r.rate):=by
 obtain⟨g,f,rfl,n,o⟩:=h.form m;refine⟨g,f,rfl,n,o,fun j t p=>?_⟩;obtain⟨a,b,c⟩:=T2 i j t p
 have d:∀k,(⟨g,0,Z⟩:Addr).add k=⟨g,k,Z⟩:=fun k=>aK
 have l:=h.cells (g:=g) rfl;exact⟨by have:=l _ _ a;rwa [d]at this,by have:=l _ _ b;rwa [d]at this,by have:=l _ _ c;rwa [d]at this⟩
def Zk (a:ByteArray):Nat->List Zf->Int
 |_,[]=> -1
 |i,r::rs=>if(r.name.toList==a.toList)=true then(i:Int)else Zk a (i+1) rs
def Mi (w B i v a d)(S:w.cell? ⟨B,0,Z⟩=U v)(h:w.ownsRow i 148 3 v a.length (Ym a))(y:a.length<=6):
  L O 315 #[C (U ⟨B,0,Z⟩),Y d] w fun e E=>e=D (I J (Zk d 0 a))/\F0 w E:=by
 by_cases F:0<a.length
 ·obtain⟨g,q,rfl,T,s,k⟩:=U5 h F;have G:=o k;go_enter Tryz.func315,Tryz.ntmps315;go_wp2
  go_loopg [5,6,12] a.length (fun m _ _ c wr=>∃j,j<=a.length/\m=a.length-j/\c=I J j/\M (F0 w wr)/\M (Zk d 0 a=Zk d j (a.drop j)))
  case atStart=>exact⟨0,x3 _,rfl,rfl,Zo,rfl⟩
  obtain⟨j,V,rfl,rfl,f,t⟩:=hrel;by_cases u:j<a.length
  ·obtain⟨r,z⟩:∃r,a[j]?=U r:=⟨_,gE u⟩
   obtain⟨H,K,N⟩:=G.o j r z;rw[<-f.o.cell (p:=⟨g,j*3,Z⟩) s aA]at H;rw[<-f.o.cell (p:=⟨g,j*3+1,Z⟩) s aA]at K;rw[<-f.o.cell (p:=⟨g,j*3+2,Z⟩) s aA]at N;have x:=af j a.length
   have b:M (a.drop j=r::a.drop (j+1)):=by
    obtain⟨l,P⟩:=iG.1 z
    show _=_
    rw[dC l,P]
   cases A:(r.name.toList==d.toList)with
   |true=>
    have n:M (Zk d 0 a=(j:Int)):=by show _=_;rw[t.o,b.o];simp only[Zk];rw[if_pos A]
    go_wp2;go_ret;exact⟨ZQ n.o.symm,f.o.alloc _⟩
   |false=>
    have n:M (Zk d 0 a=Zk d (j+1) (a.drop (j+1))):=by show _=_;rw[t.o,b.o];simp only[Zk];rw[if_neg (by simp[A])]
    go_wp2;go_roundg (a.length-(j+1))
    case measure=>omega
    exact⟨j+1,az,rfl,aE,f.o.alloc _,n⟩
  have x:=ai j a.length
  have n:M (Zk d 0 a= -1):=by show _=_;rw[t.o,dL az];rfl
  go_wp2;go_ret;exact⟨ZQ n.o.symm,f.o⟩
 have Q:a=[]:=y6 az;subst Q;rcases h.2 with⟨rfl,_⟩|⟨g,q,R,rfl,_⟩
 all_goals
  go_enter Tryz.func315,Tryz.ntmps315;go_wp2
  go_loopg [5,6,12] 1 (fun m _ _ c wr=>m=1/\c=I J 0/\wr=w)
  case atStart=>exact⟨rfl,rfl,rfl⟩
  obtain⟨rfl,rfl,rfl⟩:=hrel;go_wp2;go_ret;exact⟨rfl,Zo⟩
end Go.Proofs.YtccikgogjfbpeaaGreatDoor
namespace Go.Proofs.YtccikgogjfbpeaaGreatDoor
open Go.RowKit
def SL (b:ByteArray):∀(a:List Zf)(i:Nat),Zk b i a= -1\/((i:Int)<=Zk b i a/\Zk b i a<(i:Int)+a.length)
 |[],_=>.inl rfl
 |r::a,i=>by
  simp only[Zk]
  split
  ·right;simp;omega
  rcases SL b a (i+1)with h|h
  ·exact .inl h
  right
  simp at h ⊢;omega
def Zx (a:List Zf):Nat->List Tk->Except (Nat×Nat) (List Nat)
 |_,[]=>.ok []
 |i,t::r=>if i=4 then .error (6,t.line)else if Zk t.text 0 a<0 then .error (4,t.line)else
  match Zx a (i+1) r with
  | .error f=>.error f
  | .ok ns=>.ok ((Zk t.text 0 a).toNat::ns)
def Vc (b:List Zf)(a:List Nat)(i:Nat)(l:List Tk):Except (Nat×Nat) (List Nat):=
 match Zx b i l with
 | .error f=>.error f
 | .ok ns=>.ok (a++ns)
def Hi (b a i):Vc b a i []=.ok a:=by simp[Vc,Zx]
def J9 {b a t r}:Vc b a 4 (t::r)=.error (6,t.line):=by simp[Vc,Zx]
def Hj {b a i t r}(h:i≠4)(c:Zk t.text 0 b<0):Vc b a i (t::r)=.error (4,t.line):=by simp[Vc,Zx,h,c]
def Ei {a b i t r}(h:i≠4)(c:¬Zk t.text 0 a<0):Vc a b i (t::r)=Vc a (b++[(Zk t.text 0 a).toNat]) (i+1) r:=by
 simp only[Vc,Zx,if_neg h,if_neg c]
 cases Zx a (i+1) r<;>simp
def Ej (w B E l v vr b d)(hB:w.cell? ⟨B,0,Z⟩=U vr)(F:w.ownsRow l 148 3 vr d.length (Ym d))(x:d.length<=6)(h:w.ownsRow E 263 3 v b.length (Yw b))(h0:b.length<=4000):
  L O 323 #[C (U ⟨B,0,Z⟩),v] w (WD (Zx d 0 b) w):=by
 have HM:M (Zx d 0 b=Vc d [] 0 b):=by show _=_;unfold Vc;cases Zx d 0 b<;>simp
 have G:B<w.heap.size:=bL w _ hB
 have HP:M (∀W nm,F0 w W->L O 315 #[C (U ⟨B,0,Z⟩),Y nm] W fun e w'=>e=D (I J (Zk nm 0 d))/\F0 W w'):=
  fun W nm r=>Mi W B l vr d nm (by rw[r.cell (p:=⟨B,0,Z⟩) G];exact hB) (oF F r) x
 have H6:=Za x;clear hB F G x;by_cases A:0<b.length
 ·obtain⟨g,d0,rfl,hb,hl,f⟩:=OW h A;have HR:=Za f;clear h f A;go_enter Tryz.func323,Tryz.ntmps323;go_wp2
  go_loopg [5,6,7,8,11] b.length (fun m o _ _ _ c wr=>∃j a,j<=b.length/\m=b.length-j/\c=I J j/\M (wr.ownsRow w.heap.size 3 1 o a.length (Zg a))/\M (a.length=j)/\M (F0 w wr)/\M (Zx d 0 b=Vc d a j (b.drop j)))
  case atStart=>exact⟨0,[],x3 _,rfl,rfl,oZ _ _ _ _,rfl,Zo,HM.o⟩
  obtain⟨j,a,hj,rfl,rfl,HO,HA,y,HN⟩:=hrel;by_cases e0:j<b.length
  ·obtain⟨t,ht⟩:∃t,b[j]?=U t:=⟨_,gE e0⟩
   obtain⟨r0,r1,r2⟩:=HR.o j t ht;rw[<-y.o.cell (p:=⟨g,j*3,Z⟩) hl aA]at r0;rw[<-y.o.cell (p:=⟨g,j*3+1,Z⟩) hl aA]at r1;rw[<-y.o.cell (p:=⟨g,j*3+2,Z⟩) hl aA]at r2;have K:=af j b.length;have i:M (b.drop j=t::b.drop (j+1)):=NM ht;clear ht;by_cases h4:j=4
   ·have P:((j:Int)==4)=true:=aF;have H4:=Za h4;clear h4;go_wp2_with fail;refine(YL t 6 _ _ aD).mono ?_;rintro e Q ⟨R,r⟩;unfold Zj at R;subst R;exact⟨rfl,(WD.err (by rw[HN.o,i.o,H4.o];exact J9)).2 ⟨rfl,(y.o.alloc _).trans r⟩⟩
   have P:((j:Int)==4)=false:=aF;have H4:=Za h4;clear h4;go_wp2_with fail;refine(HP.o _ t.text (by exact y.o.alloc _)).mono ?_;rintro e Q ⟨rfl,r⟩;have z:M (F0 w Q):=(y.o.alloc _).trans r;have S:M (Q.ownsRow w.heap.size 3 1 u5 a.length (Zg a)):=oF (HO.o.alloc _) r;have hT:=r.whole (aN wr (N #[I J t.sort,Y t.text,I J t.line] 263));clear r0 r1 r2 r;obtain⟨t0,t1,t2⟩:=aq hT;clear hT;have T:=SL t.text d 0;by_cases hv:Zk t.text 0 d<0
   ·have HQ:M (Zx d 0 b=.error (4,t.line)):=HN.o.trans (by rw[i.o];exact Hj H4.o hv);generalize Zk t.text 0 d=q at*;clear T;go_wp2_with fail;refine(YL t 4 _ _ aD).mono ?_;rintro e w4 ⟨R,r⟩;unfold Zj at R;subst R;exact⟨rfl,(WD.err HQ.o).2 ⟨rfl,z.o.trans r⟩⟩
   have V:M (Zx d 0 b=Vc d (a++[(Zk t.text 0 d).toNat]) (j+1) (b.drop (j+1))):=HN.o.trans (by rw[i.o];exact Ei H4.o hv)
   obtain⟨n,A⟩:∃n:Nat,Zk t.text 0 d=(n:Int):=⟨(Zk t.text 0 d).toNat,az⟩
   have i0:a.length<=b.length:=aj HA.o;have k0:=z.o.size;clear T t0 t1 t2 hv;rw[A,Int.toNat_natCast]at V;rw[A];clear A;have l0:¬(n:Int)<0:=az;clear P K
   go_wp2_with (at_builtin;refine ao w.heap.size Y9 Tryz.underlying25 u5 a.length (Zg a) ?h1 ⟨Q.heap.size,0,Z⟩ [I J n] ?h2 ?_)
   case h1=>exact S.o.alloc _
   case h2=>exact z6 (aN Q _)
   intro g2 j0 w4 u s _ _
   have f:∀k,u5.ownBlock=U k->w.heap.size<=k:=fun k hk=>(S.o.lt k hk).1
   have f0:=Za u;have g0:=Za ((z.o.alloc _).grown s (fun k hk=>y7 (f k hk)));clear s u f;go_wp2;go_roundg (b.length-(j+1))
   case measure=>omega
   refine⟨j+1,a++[n],az,rfl,aE,?_,?_,g0,V⟩
   ·show q4 _ _ _ _ _ _ _
    rw[X6,lA];exact f0.o
   show _=_
   have:=HA.o;simp;omega
  have K:=ai j b.length
  have X:M (WD (Zx d 0 b) w (D u5) wr):=by
   show WD _ _ _ _
   refine(WD.ok (ns:=a) ?_).2 ⟨⟨u5,rfl,HO.o⟩,y.o⟩;rw[HN.o,dL az];exact Hi _ _ _
  go_wp2;go_ret;exact X.o
 have hz:b=[]:=y6 az;subst hz;rcases h.2 with⟨rfl,_⟩|⟨g,d0,m0,rfl,_⟩
 all_goals
  clear h;go_enter Tryz.func323,Tryz.ntmps323;go_wp2
  go_loopg [5,6,7,8,11] 1 (fun m o _ _ _ c wr=>m=1/\o=H Z 0 0/\c=I J 0/\wr=w)
  case atStart=>exact⟨rfl,rfl,rfl,rfl⟩
  obtain⟨rfl,rfl,rfl,rfl⟩:=hrel;go_wp2;go_ret;exact(WD.ok (ns:=[]) rfl).2 ⟨⟨_,rfl,oZ _ _ _ _⟩,Zo⟩
end Go.Proofs.YtccikgogjfbpeaaGreatDoor
namespace Go.Proofs
open Go.Shelf
def Ob:Go.Shelf.Ren:=⟨fun|316=>153|n=>n,fun|9=>9|3=>3|4=>4|37=>50|0=>0|127=>201|5=>5|n=>n,fun|n=>n⟩
def Ia:LaysM.n316 O Ob:={
 mixed:=by kernel_rfl
 f316:=Tryz.func153.trans (congrArg U (by kernel_rfl))
 t0:=Tryz.underlying0
 a0:=Tryz.isAgg0
 z0:=Tryz.sizeOf0
 v0:=Tryz.zeroValue0
 t3:=Tryz.underlying3
 a3:=Tryz.isAgg3
 z3:=Tryz.sizeOf3
 v3:=Tryz.zeroValue3
 t4:=Tryz.underlying4
 a4:=Tryz.isAgg4
 z4:=Tryz.sizeOf4
 v4:=Tryz.zeroValue4
 t9:=Tryz.underlying9
 a9:=Tryz.isAgg9
 z9:=Tryz.sizeOf9
 v9:=Tryz.zeroValue9
 t37:=Tryz.underlying50
 a37:=Tryz.isAgg50
 z37:=Tryz.sizeOf50
 v37:=Tryz.zeroValue50
 t127:=Tryz.underlying201
 a127:=Tryz.isAgg201
 z127:=Tryz.sizeOf201
 v127:=Tryz.zeroValue201
 t5:=Tryz.underlying5
 a5:=Tryz.isAgg5
 z5:=Tryz.sizeOf5
 v5:=Tryz.zeroValue5
 i0:=by kernel_rfl
 i3:=by kernel_rfl
 i4:=by kernel_rfl
 i5:=by kernel_rfl
 i9:=by kernel_rfl
 i37:=by kernel_rfl
 i127:=by kernel_rfl}
namespace YtccikgogjfbpeaaGreatDoor
open Go.RowKit
def Mj (s w)(b:s.size<=3000):L O 153 #[Y s] w fun e a=>e=D (Y s)/\F0 w a:=
 (Any.stringslite_Clone Ia s w z).mono fun _ _ h=>⟨h.1,Fr.of_below h.2⟩
def Vd (s w)(a:s.size<=3000):L O 96 #[Y s] w fun e c=>e=D (Y s)/\F0 w c:=by
 have d:=o (Mj s w a);clear a;go_enter Tryz.func96,Tryz.ntmps96;go_wp2_with fail;refine d.o.mono ?_;rintro e g ⟨rfl,b⟩;have f:=o b;clear b;go_wp2;go_ret;exact⟨rfl,f.o⟩
structure Ze where
 name:ByteArray
 rank:Nat
 digits:Nat
 lo:Nat
 hi:Nat
 mcc:List Nat
 am:Option (Nat×Nat)
 cur:List Nat
 decline:Bool
 cheapest:Bool
 routes:List Nat
 ahead:Nat
def zH (a:Nat)(w:R)(r:Ze)(e:List A):Prop:=
 ∃b c d,e=[Y r.name,I J r.rank,I J r.digits,I J r.lo,I J r.hi,b,G r.am.isSome,I J (r.am.getD (0,0)).1,I J (r.am.getD (0,0)).2,c,G r.decline,G r.cheapest,d,I J r.ahead]/\
  w.ownsRow a 3 1 b r.mcc.length (Zg r.mcc)/\w.ownsRow a 3 1 c r.cur.length (Zg r.cur)/\w.ownsRow a 3 1 d r.routes.length (Zg r.routes)
def TM (a:Nat)(w:R):List Ze->List A->Prop
 |[],xs=>xs=[]
 |r::rs,xs=>∃c b,xs=c++b/\zH a w r c/\TM a w rs b
def zH.keep {base w w' r cs}(h:zH base w r cs)(a:∀v n b,w.ownsRow base 3 1 v n b->w'.ownsRow base 3 1 v n b):zH base w' r cs:=by
 obtain⟨c,d,f,e,g,i,j⟩:=h;exact⟨c,d,f,e,a _ _ _ g,a _ _ _ i,a _ _ _ j⟩
def TM.keep {base:Nat}{w w':R}(b:∀v n a,w.ownsRow base 3 1 v n a->w'.ownsRow base 3 1 v n a):∀{rs:List Ze}{a:List A},TM base w rs a->TM base w' rs a
 |[],_,h=>h
 |_::_,_,⟨c,rest,e,h1,h2⟩=>⟨c,rest,e,h1.keep b,TM.keep b h2⟩
def TM.snoc {a:Nat}{w:R}{r:Ze}{c:List A}(b:zH a w r c):∀{f:List Ze}{g:List A},TM a w f g->TM a w (f++[r]) (g++c)
 |[],_,h=>by
  have i:_=[]:=h;subst i;exact⟨c,[],y,b,rfl⟩
 |_::_,_,⟨d,rest,e,h1,h2⟩=>⟨d,rest++c,by rw[e,List.append_assoc],h1,TM.snoc b h2⟩
structure Bk (w:R)(B:Nat)(vr vl:A)(rts:List Zf)(rls:List Ze)(xs:List A):Prop where
 c0:w.cell? ⟨B,0,Z⟩=U vr
 c1:w.cell? ⟨B,1,Z⟩=U vl
 fz:∀o,w.frozen? ⟨B,o,Z⟩=false
 ro:w.ownsRow (B+1) 148 3 vr rts.length (Ym rts)
 lo:w.ownsRow (B+1) 120 14 vl rls.length xs
 ru:TM (B+1) w rls xs
 r6:rts.length<=6
 l8:rls.length<=8
def Bk.fr {w w' B j l b c m S}(h:Bk w B j l b c m)(a:Fr S w w')(f:∀k,S k->k<B:=by simp):Bk w' B j l b c m:=by
 have g:B<w.heap.size:=bL w _ h.c0
 have i:¬S B:=fun e=>aj (f B e)
 exact⟨(a.cell (p:=⟨B,0,Z⟩) g i).trans h.c0,(a.cell (p:=⟨B,1,Z⟩) g i).trans h.c1,fun o=>(a.frozen (p:=⟨B,o,Z⟩) g i).trans (h.fz o),
  oF h.ro a (fun k d=>aj (f k d)),oF h.lo a (fun k d=>aj (f k d)),TM.keep (fun v n r q=>oF q a (fun k d=>aj (f k d))) h.ru,h.r6,h.l8⟩
def ZF (a:List Zf)(r:Ma):Except (Nat×Nat) Zf:=
 if a.length=6 then .error (6,r.name.line)
 else if 0<=Zk r.name.text 0 a then .error (4,r.name.line)
 else if 1000000<Zd r.base then .error (5,r.base.line)
 else if 1000<Zd r.rate then .error (5,r.rate.line)
 else .ok ⟨r.name.text,Zd r.base,Zd r.rate⟩
def UC (x:Except (Nat×Nat) Zf)(w:R)(B:Nat)(d:A)(a:List Zf)(b:List Ze)(g:List A)(e:Ending)(c:R):Prop:=
 match x with
 | .ok r=>e=D (.tuple #[])/\(∃h,Bk c B h d (a++[r]) b g)/\Below B w c
 | .error f=>e=Zj f.1 f.2/\Below B w c
def UC.ok {x w w' B c a b d e r}(h:x=.ok r):UC x w B c a b d e w'↔e=D (.tuple #[])/\(∃f,Bk w' B f c (a++[r]) b d)/\Below B w w':=by subst h;exact Iff.rfl
def UC.err {x w c B d a b g e f}(h:x=.error f):UC x w B d a b g e c↔e=Zj f.1 f.2/\Below B w c:=by subst h;exact Iff.rfl
def oL {w:R}{base e b v n d}(h:w.ownsRow base e b v n d):∃a c,v=H a n c:=by
 rcases h.2 with⟨rfl,f⟩|⟨g,cap,i,rfl,_⟩
 ·exact⟨Z,0,by rw[f]⟩
 exact⟨_,_,rfl⟩
def Mk:(O.info? 148).map (fun i=>(i.zero,i.size,i.bytes))=U (U (y9 #[Y z7,I J 0,I J 0]),3,32):=n
end YtccikgogjfbpeaaGreatDoor
end Go.Proofs
namespace Go.Proofs.YtccikgogjfbpeaaGreatDoor
open Go.RowKit
def BD {w i b B l s V a f t rt}(h:Bk w B l s a f t)(c:Below w.heap.size w i)(d:i.grownBy b l.ownBlock)(y:b.ownsRow (B+1) 148 3 V (a.length+1) (Ym a++Sr rt)):
  b.cell? ⟨B,0,Z⟩=U l/\(∀o,b.frozen? ⟨B,o,Z⟩=false)/\(a.length<=5->Bk (b.setCell ⟨B,0,Z⟩ V) B V s (a++[rt]) f t/\Below B w (b.setCell ⟨B,0,Z⟩ V)):=by
 have r:B<w.heap.size:=bL w _ h.c0
 have g:∀j,j<=B->U j≠l.ownBlock:=fun j D e=>aj (h.ro.lt j e.symm)
 have u:∀o,b.cell? ⟨B,o,Z⟩=w.cell? ⟨B,o,Z⟩:=fun o=>(d.cell_far ⟨B,o,Z⟩ (nL r c.size) (g B (z2 _))).trans (c.cell (p:=⟨B,o,Z⟩) r)
 have x:∀o,b.frozen? ⟨B,o,Z⟩=w.frozen? ⟨B,o,Z⟩:=fun o=>(d.frozen_far ⟨B,o,Z⟩ (nL r c.size) (g B (z2 _))).trans (c.frozen (p:=⟨B,o,Z⟩) r)
 have m:i.ownsRow (B+1) 148 3 l a.length (Ym a):=oF h.ro (Fr.of_below (S:=fun _=>False) c);have z:Below B w b:=(c.mono az).trans ⟨d.os,d.tape,d.output,d.size,fun k E=>d.block k (nL az c.size) (g k az)⟩;refine⟨(u 0).trans h.c0,fun o=>(x o).trans (h.fz o),fun F=>⟨⟨?_,?_,fun o=>by simp[x o,h.fz o],?_,?_,?_,aF,h.l8⟩,z.setCell aA _⟩⟩
 ·exact cS _ _ _ ((u 0).trans h.c0)
 ·rw[cO _ _ _ _ aA];exact(u 1).trans h.c1
 ·rw[Mh,lA];exact oB y aA _
 ·have q:i.ownsRow (B+1) 120 14 s f.length t:=oF h.lo (Fr.of_below (S:=fun _=>False) c);exact oB (q.kept d (WP q m aB)) aA _
 refine TM.keep (fun v n A C=>?_) h.ru;have q:i.ownsRow (B+1) 3 1 v n A:=oF C (Fr.of_below (S:=fun _=>False) c);exact oB (q.kept d (WP q m aB)) aA _
def Ib (w B vr vl a a0 xs r)(h:Bk w B vr vl a a0 xs)(hn:r.name.text.size<=3000)(hb:Dg r.base.text)(hr:Dg r.rate.text):
  L O 314 #[U4 r,C (U ⟨B,0,Z⟩)] w (UC (ZF a r) w B vl a a0 xs):=by
 have X:=Za h;have O0:B<w.heap.size:=bL w _ h.c0;obtain⟨va,vc,rfl⟩:=oL h.ro;obtain⟨ii,hi,x0,y0,z0⟩:=info_parts Mk;have A0:=Za hn;have b0:=Za hb;have f0:=Za hr;have c0:=h.c0;have s:=(WM w (N #[I J r.name.sort,Y r.name.text,I J r.name.line,I J r.base.sort,Y r.base.text,I J r.base.line,I J r.rate.sort,Y r.rate.text,I J r.rate.line] 290)).1;unfold U4;by_cases h6:a.length=6
 ·have hq:((a.length:Int)==6)=true:=aF
  have z:M (ZF a r=.error (6,r.name.line)):=by show _=_;unfold ZF;rw[if_pos h6]
  go_enter Tryz.func314,Tryz.ntmps314;go_wp2_with fail;refine(YL r.name 6 _ _ aD).mono ?_;rintro e w9 ⟨g,c⟩;unfold Zj at g;subst g;exact⟨rfl,(UC.err z.o).2 ⟨rfl,(s.o.trans c).below az⟩⟩
 have hq:((a.length:Int)==6)=false:=aF;have z:=Za h6;go_enter Tryz.func314,Tryz.ntmps314;go_wp2_with fail;refine(Mi _ B (B+1) _ a r.name.text (X.o.fr s.o).c0 (X.o.fr s.o).ro X.o.r6).mono ?_;rintro e b ⟨rfl,c⟩;have d:=c.whole (aN w _);have g0:=Za (s.o.trans c);have e0:=bC d 0 _ rfl;have e1:=bC d 1 _ rfl;have e2:=bC d 2 _ rfl;have e3:=bC d 3 _ rfl;have e4:=bC d 4 _ rfl;have e5:=bC d 5 _ rfl;have e6:=bC d 6 _ rfl;have e7:=bC d 7 _ rfl;have e8:=bC d 8 _ rfl;have v:=Za d;by_cases hp:0<=Zk r.name.text 0 a
 ·have A:M (ZF a r=.error (4,r.name.line)):=by show _=_;unfold ZF;rw[if_neg z.o,if_pos hp]
  generalize Zk r.name.text 0 a=q at*;go_wp2_with fail;refine(YL r.name 4 _ _ aD).mono ?_;rintro e w9 ⟨g,c⟩;unfold Zj at g;subst g;exact⟨rfl,(UC.err A.o).2 ⟨rfl,(g0.o.trans c).below az⟩⟩
 have HP:=Za hp;have B0:Zk r.name.text 0 a<0:=az;generalize hg:Zk r.name.text 0 a=q at hp B0;have P0:w.heap.size<b.heap.size:=(iA.1 v.o).1;go_wp2_with fail;refine(Vd r.name.text _ A0.o).mono ?_;rintro e w2 ⟨rfl,c⟩;have t:=c.whole (((Fr.refl (fun _=>False) _).alloc _).whole v.o);have D:=c.whole (aN b _);have C0:=Za ((g0.o.alloc _).trans c);have h0:=Za t;have i0:=Za D;have e3:=Zc t 3;have e4:=Zc t 4;have e5:=Zc t 5;have n0:=Zc D 0;have nf:=bF D;have Q0:¬w.heap.size=b.heap.size:=az;have L0:¬b.heap.size=w.heap.size:=az;go_wp2_with fail;have j0:Fr (fun k=>k=b.heap.size) w2 (w2.setCell ⟨b.heap.size,0,Z⟩ (Y r.name.text)):=(Fr.refl (fun k=>k=b.heap.size) _).setCell (p:=⟨b.heap.size,0,Z⟩) (z1 rfl) _;have D0:=Za (j0.whole h0.o az);have E0:M ((w2.setCell ⟨b.heap.size,0,Z⟩ (Y r.name.text)).heap[b.heap.size]?=U (N #[Y r.name.text,I J 0,I J 0] 148)):=Yq i0.o 0 _;have k0:=Za (C0.o.monoNew j0 (fun k hk=>y7 az));generalize w2.setCell ⟨b.heap.size,0,Z⟩ (Y r.name.text)=w3 at*;by_cases E:1000000<Zd r.base
 ·have A:M (ZF a r=.error (5,r.base.line)):=by show _=_;unfold ZF;rw[if_neg z.o,if_neg (aj HP.o),if_pos E]
  refine(Po r.base _ 1000000 _ b0.o E aD).mono ?_;rintro e w9 ⟨g,c⟩;unfold Zj at g;subst g;exact⟨rfl,(UC.err A.o).2 ⟨rfl,(k0.o.trans c).below az⟩⟩
 have l0:=Za E;refine(RO r.base _ 1000000 _ b0.o az aD).mono ?_;rintro e w4 ⟨rfl,c⟩;have u:=c.whole D0.o;have F:=c.whole E0.o;have F0:=Za (k0.o.trans c);have M0:=Za u;have o0:=Za F;have e6:=Zc u 6;have e7:=Zc u 7;have e8:=Zc u 8;have n1:=Zc F 1;have nf:=bF F;generalize G0:Zd r.base=n at*;have p0:=Za G0;go_wp2_with fail;have H0:Fr (fun k=>k=b.heap.size) w4 (w4.setCell ⟨b.heap.size,1,Z⟩ (I J n)):=(Fr.refl (fun k=>k=b.heap.size) _).setCell (p:=⟨b.heap.size,1,Z⟩) (z1 rfl) _;have I0:M ((w4.setCell ⟨b.heap.size,1,Z⟩ (I J n)).heap[b.heap.size]?=U (N #[Y r.name.text,I J n,I J 0] 148)):=Yq o0.o 1 _;have q0:=Za (F0.o.monoNew H0 (fun k hk=>y7 az));generalize w4.setCell ⟨b.heap.size,1,Z⟩ (I J n)=w5 at*;by_cases G:1000<Zd r.rate
 ·have A:M (ZF a r=.error (5,r.rate.line)):=by show _=_;unfold ZF;rw[if_neg z.o,if_neg (aj HP.o),p0.o,if_neg l0.o,if_pos G]
  refine(Po r.rate _ 1000 _ f0.o G aD).mono ?_;rintro e w9 ⟨g,c⟩;unfold Zj at g;subst g;exact⟨rfl,(UC.err A.o).2 ⟨rfl,(q0.o.trans c).below az⟩⟩
 have A:M (ZF a r=.ok ⟨r.name.text,n,Zd r.rate⟩):=by show _=_;unfold ZF;rw[if_neg z.o,if_neg (aj HP.o),p0.o,if_neg l0.o,if_neg G]
 refine(RO r.rate _ 1000 _ f0.o az aD).mono ?_;rintro e w6 ⟨rfl,c⟩;have P:=c.whole I0.o;have J0:=Za (q0.o.trans c);have r0:=Za P;have n2:=Zc P 2;have nf:=bF P;generalize Zd r.rate=x at*;go_wp2_with fail;have K0:Fr (fun k=>k=b.heap.size) w6 (w6.setCell ⟨b.heap.size,2,Z⟩ (I J x)):=(Fr.refl (fun k=>k=b.heap.size) _).setCell (p:=⟨b.heap.size,2,Z⟩) (z1 rfl) _;have Q:M ((w6.setCell ⟨b.heap.size,2,Z⟩ (I J x)).heap[b.heap.size]?=U (N #[Y r.name.text,I J n,I J x] 148)):=Yq r0.o 2 _;have s0:=Za (J0.o.monoNew K0 (fun k hk=>y7 az));generalize w6.setCell ⟨b.heap.size,2,Z⟩ (I J x)=i at*;have R:=Za (X.o.fr s0.o);have c0:=R.o.c0;obtain⟨m0,m1,m2⟩:=aq Q.o;have R0:=X.o.r6;have S0:B<i.heap.size:=bL i _ c0;have y:b.heap.size<i.heap.size:=bL i _ m0;refine wp_region_held_drew (S:=fun w'=>w'.cell? ⟨b.heap.size,0,Z⟩=U (Y r.name.text)/\w'.cell? ⟨b.heap.size,1,Z⟩=U (I J n)/\w'.cell? ⟨b.heap.size,2,Z⟩=U (I J x)) aC ?_ (fun f=>?_)
 ·exact⟨by simpa using m0,by simpa using m1,by simpa using m2⟩
 refine ZJ 0 f ?_;go_frame;refine ZJ 1 f ?_;go_frame;refine ZJ 2 f ?_;go_frame;refine ZJ 3 f ?_;go_frame;refine ZJ 5 f ?_;go_frame;refine XA [4,6] ?_;refine Zb rfl (fun K l=>?p1) (Zb rfl (fun K l=>?p2) y8)
 case' p1=>
  rw[if_pos aD];go_simp;refine l.out _ _ f (fun _=>?_)
  try go_frame
  refine WI 6 (fun K l=>?_);go_simp;refine l.out _ _ (by simp[*,z8]) (fun f=>?_)
 case' p2=>
  rw[if_pos aD];go_simp;refine l.out _ _ (by simp[*,z8]) (fun f=>?_)
  try go_frame
  refine WI 4 (fun K l=>?_)
  have T0:=fun o=>(z8 i ⟨B,0,Z⟩ o (by simp[c0])).trans c0
  go_simp;refine l.out _ _ f (fun _=>?_)
 all_goals
  try go_frame
  refine XA [7] ?_;refine Zb rfl (fun K l=>?_) y8;refine step_append_lies _ rfl (.tmp 40) (.tmp 42) 86 rfl (B+1) 148 ii _ 3 32 Tryz.underlying86 hi x0 y0 z0 rfl aB (H va a.length vc) a.length (Ym a) rfl ?h1 ⟨i.heap.size,0,Z⟩ 1 1 [Y r.name.text,I J n,I J x] rfl rfl ?h2 ?h3 aB ?h4 ?h5 ?h6 _ rfl ?_
  case h1=>exact(R.o.ro.alloc _).drew
  case h2=>exact z6 (aN i _)
  case h3=>simp[y2]
  case h4=>unfold maxLen;omega
  case h5=>omega
  case h6=>simp;omega
  intro g2 N0 w8 t0 m _ _;have T:Below i.heap.size i (i.alloc (N #[Y r.name.text,I J n,I J x] 148)).drew:=((Below.refl _ _).alloc (z2 _) _).drew;have V:=BD (rt:=⟨r.name.text,n,x⟩) R.o T m t0;have d0:=V.1;have df:=V.2.1;have v0:=Za (V.2.2 (aj z.o))
  have w0:U b.heap.size≠(Value.slice va a.length vc).ownBlock:=fun e=>aj (X.o.ro.lt _ e.symm).2
  have W:∀j,w8.cell? ⟨b.heap.size,j,Z⟩=i.cell? ⟨b.heap.size,j,Z⟩:=fun j=>(m.cell_far ⟨b.heap.size,j,Z⟩ (nL y T.size) w0).trans (T.cell (p:=⟨b.heap.size,j,Z⟩) y)
  refine l.out _ _ ⟨(W 0).trans m0,(W 1).trans m1,(W 2).trans m2⟩ (fun f=>?_);go_frame;refine ZJ 8 f ?_;go_frame;refine ZJ 9 f ?_;go_frame;refine WI 10 (fun K l=>?_);go_simp;refine l.out _ _ ?_ (fun _=>?_)
  ·have hx:∀o,(⟨B,0,Z⟩:Addr)≠⟨b.heap.size,o,Z⟩:=fun o e=>by injection e with e1;omega
   exact⟨(cO _ _ _ _ (hx 0)).trans f.1,(cO _ _ _ _ (hx 1)).trans f.2.1,(cO _ _ _ _ (hx 2)).trans f.2.2⟩
  try go_frame
  refine wpAnyH_done aC ?_ _;go_wp2
  go_end0
  exact(UC.ok A.o).2 ⟨rfl,⟨_,v0.o.1⟩,(s0.o.below az).trans v0.o.2⟩
end Go.Proofs.YtccikgogjfbpeaaGreatDoor
namespace Go.Proofs.YtccikgogjfbpeaaGreatDoor
open Go.RowKit
def zH.length {base w r c}(h:zH base w r c):c.length=14:=by
 obtain⟨_,_,_,rfl,_⟩:=h;rfl
def Hk {a:Nat}{w:R}:∀{b:List Ze}{f:List A}{j:Nat}{r:Ze},TM a w b f->b[j]?=U r->∃c,zH a w r c/\∀k,k<14->f[j*14+k]?=c[k]?
 |[],_,j,_,_,hj=>by simp at hj
 |x::b,f,0,r,⟨c,rest,e,h1,h2⟩,hj=>by
  simp at hj;subst hj;refine⟨c,h1,fun k h=>?_⟩;have i:=h1.length;rw[e,Nat.zero_mul,k9,List.getElem?_append_left z]
 |x::b,f,j+1,r,⟨c,rest,e,h1,h2⟩,hj=>by
  obtain⟨d,l,h⟩:=Hk (j:=j) h2 (by simpa using hj);refine⟨d,l,fun k g=>?_⟩;have i:=h1.length;rw[e,aR z,i,show(j+1)*14+k-14=j*14+k from z];exact h k g
def XR (a:ByteArray):List Ze->Bool
 |[]=>false
 |r::rs=>if(r.name.toList==a.toList)=true then true else XR a rs
def Hl (w B vr vl P a xs d)(h:Bk w B vr vl P a xs):
  L O 319 #[C (U ⟨B,0,Z⟩),Y d] w fun e w'=>e=D (G (XR d a))/\F0 w w':=by
 have c1:=h.c1;have a0:=h.l8;by_cases hn:0<a.length
 ·obtain⟨g,Q,rfl,hb,hl⟩:=h.lo.form hn
  have l:∀k,(⟨g,0,Z⟩:Addr).add k=⟨g,k,Z⟩:=fun k=>aK
  have HR:M (∀j r,a[j]?=U r->∃n q s t u x y z A,w.rangeAt g (j*14) [Y r.name,I J r.rank,I J r.digits,I J r.lo,I J r.hi,H n q s,G r.am.isSome,I J (r.am.getD (0,0)).1,I J (r.am.getD (0,0)).2,H t u x,G r.decline,G r.cheapest,H y z A,I J r.ahead]):=fun j r W=>by
   obtain⟨c,⟨vm,vc,vp,rfl,h1,h2,h3⟩,hk⟩:=Hk h.ru W;obtain⟨n,q,s,rfl⟩:=ZE h1;obtain⟨t,u,x,rfl⟩:=ZE h2;obtain⟨y,z,A,rfl⟩:=ZE h3;refine⟨n,q,s,t,u,x,y,z,A,fun k v K=>?_⟩;have i:k<14:=(iG.1 K).1;have:=h.lo.cells (g:=g) rfl (j*14+k) v (by rw[hk k i];exact K)
   rwa [l]at this
  have f:M ((O.info? 120).map (·.size)=U 14):=by show _=_;kernel_rfl
  go_enter Tryz.func319,Tryz.ntmps319;go_wp2
  go_loopg [6,12] a.length (fun m _ c wr=>∃j,j<=a.length/\m=a.length-j/\c=I J j/\M (F0 w wr)/\M (XR d a=XR d (a.drop j)))
  case atStart=>exact⟨0,x3 _,rfl,rfl,Zo,rfl⟩
  obtain⟨j,W,rfl,rfl,N,R⟩:=hrel;by_cases i:j<a.length
  ·obtain⟨r,X⟩:∃r,a[j]?=U r:=⟨_,gE i⟩
   obtain⟨n,q,s,t,u,x,y,z,A,S⟩:=HR.o j r X
   have HG:M (wr.rangeAt g (j*14) [Y r.name,I J r.rank,I J r.digits,I J r.lo,I J r.hi,H n q s,G r.am.isSome,I J (r.am.getD (0,0)).1,I J (r.am.getD (0,0)).2,H t u x,G r.decline,G r.cheapest,H y z A,I J r.ahead]):=fun k v K=>by rw[N.o.cell (p:=⟨g,j*14+k,Z⟩) hl];exact S k v K
   have T:=af j a.length
   have b:M (a.drop j=r::a.drop (j+1)):=by
    obtain⟨E,he⟩:=iG.1 X
    show _=_
    rw[dC E,he]
   cases hq:(r.name.toList==d.toList)with
   |true=>
    have F:M (XR d a=true):=by show _=_;rw[R.o,b.o];simp only[XR];rw[if_pos hq]
    go_wp2_with (first|(refine wpList_load_mid rfl 120 _ rfl g (j*14) rfl _ _ HG.o Tryz.underlying120 rfl f.o ?_))
    go_ret;exact⟨by rw[F.o];rfl,N.o.alloc _⟩
   |false=>
    have F:M (XR d a=XR d (a.drop (j+1))):=by show _=_;rw[R.o,b.o];simp only[XR];rw[if_neg (by simp[hq])]
    go_wp2_with (first|(refine wpList_load_mid rfl 120 _ rfl g (j*14) rfl _ _ HG.o Tryz.underlying120 rfl f.o ?_))
    go_roundg (a.length-(j+1))
    case measure=>omega
    exact⟨j+1,az,rfl,aE,N.o.alloc _,F⟩
  have T:=ai j a.length
  have F:M (XR d a=false):=by show _=_;rw[R.o,dL az];rfl
  go_wp2;go_ret;exact⟨by rw[F.o];rfl,N.o⟩
 have hz:a=[]:=y6 az;subst hz;have V:=h.lo;rcases V.2 with⟨rfl,_⟩|⟨g,Q,b0,rfl,_⟩
 all_goals
  go_enter Tryz.func319,Tryz.ntmps319;go_wp2
  go_loopg [6,12] 1 (fun m _ c wr=>m=1/\c=I J 0/\wr=w)
  case atStart=>exact⟨rfl,rfl,rfl⟩
  obtain⟨rfl,rfl,rfl⟩:=hrel;go_wp2;go_ret;exact⟨rfl,Zo⟩
end Go.Proofs.YtccikgogjfbpeaaGreatDoor
namespace Go.Proofs.YtccikgogjfbpeaaGreatDoor
structure Z6 where
 d:Nat
 x:Nat
def Z6.longer (p:Z6)(k:Nat):Z6:=⟨p.d+1,p.x*10+k⟩
def Z6.holds (p q:Z6):Bool:=decide (p.d<=q.d)&&(q.x/10^(q.d-p.d)==p.x)
def SM (a b:Nat):Nat->Nat->Nat
 |0,k=>k
 |n+1,k=>if a/10^k % 10=0/\a+10^(k+1)<=b+1 then SM a b n (k+1)else k
def SZ (a b:Nat):Nat:=SM a b 9 0
def Yr (d a:Nat):Nat->Nat->List Z6
 |0,_=>[]
 |n+1,low=>if low<=a then⟨d-SZ low a,low/10^SZ low a⟩::Yr d a n (low+10^SZ low a)else[]
def YX (d lo a:Nat):List Z6:=Yr d a (a+1-lo) lo
def ZK (q:Z6):List Z6->Nat
 |[]=>0
 |p::r=>if p.holds q then 2 else if q.holds p then 1 else ZK q r
def YY (q:Z6)(c:Nat):Prop:=c/10^(6-q.d)=q.x
def Qi (d a b c:Nat):Prop:=a<=c/10^(6-d)/\c/10^(6-d)<=b
def Xb (c a b):c/10^(a+b)=c/10^a/10^b:=by rw[Nat.pow_add,Nat.div_div_eq_div_mul]
def UT {p q:Z6}:p.holds q=true↔p.d<=q.d/\q.x/10^(q.d-p.d)=p.x:=by
 unfold Z6.holds;simp
def Hm {p q c}(h:p.holds q=true)(e:q.d<=6)(a:YY q c):YY p c:=by
 obtain⟨f,b⟩:=UT.1 h;unfold YY at*;rw[show 6-p.d=(6-q.d)+(q.d-p.d)from z,Xb,a,b]
def rI {p q c}(b:YY p c)(e:YY q c)(a:p.d<=q.d)(f:q.d<=6):p.holds q=true:=by
 refine UT.2 ⟨a,?_⟩;unfold YY at*;rw[<-e,<-Xb,show(6-q.d)+(q.d-p.d)=6-p.d from z];exact b
def vC (a b k:Nat):Prop:=10^k∣a/\a+10^k<=b+1
def Hn {a c k}(h:vC a c k)(d:a/10^k % 10=0)(f:a+10^(k+1)<=c+1):vC a c (k+1):=by
 refine⟨?_,f⟩;obtain⟨m,e⟩:=h.1;have b:0<10^k:=v6 z
 have g:a/10^k=m:=by rw[e,q7 _ b]
 rw[g]at d;obtain⟨j,i⟩:10∣m:=Nat.dvd_of_mod_eq_zero d;exact⟨j,by rw[e,i,g6,Nat.mul_assoc]⟩
def KT {a b:Nat}:∀(n k:Nat),vC a b k->vC a b (SM a b n k)
 |0,_,h=>h
 |n+1,k,h=>by
  unfold SM
  split
  ·rename_i c;exact KT n (k+1) (Hn h c.1 c.2)
  exact h
def NN {a b}(h:a<=b):vC a b (SZ a b):=KT 9 0 ⟨y,aF⟩
def Ss {a b}(h:10^a<=10^b):a<=b:=(Nat.pow_le_pow_iff_right z).1 h
def ye {a b d}(h:a<=b)(c:b<10^d):SZ a b<=d:=by
 have e:=(NN h).2;exact Ss z
def Ho {d a f c}(h:a<=f)(j:f<10^d)(p:d<=6):YY ⟨d-SZ a f,a/10^SZ a f⟩ c↔a<=c/10^(6-d)/\c/10^(6-d)<a+10^SZ a f:=by
 have q:=ye h j;obtain⟨m,l⟩:=(NN h).1;generalize SZ a f=k at*;unfold YY;have b:0<10^k:=v6 z
 show c/10^(6-(d-k))=a/10^k↔_
 rw[show 6-(d-k)=(6-d)+k from z,Xb,l,q7 _ b];generalize c/10^(6-d)=y
 constructor
 ·intro e;have g:=Nat.div_add_mod y (10^k);have i:=Nat.mod_lt y b;rw[e]at g;omega
 rintro⟨g,i⟩;have n:=g
 have o:y<10^k*(m+1):=by rw[Nat.mul_add,Nat.mul_one];exact i
 apply Nat.le_antisymm
 ·exact Nat.le_of_lt_succ ((Nat.div_lt_iff_lt_mul b).2 (by rw[g7];exact o))
 exact(Nat.le_div_iff_mul_le b).2 (by rw[g7];exact n)
def Uv {d b c:Nat}(i:b<10^d)(j:d<=6){p:Z6}:∀(n a:Nat),p∈Yr d b n a->p.d<=d/\(YY p c->a<=c/10^(6-d)/\c/10^(6-d)<=b)
 |0,_,h=>by simp[Yr]at h
 |n+1,a,h=>by
  unfold Yr at h
  split at h
  ·rename_i k;rcases k8.1 h with e|h
   ·subst e;refine⟨Nat.sub_le _ _,fun f=>?_⟩;have g:=(Ho k i j).1 f;have m:=(NN k).2;omega
   have g:=Uv i j n _ h (c:=c);have l:0<10^SZ a b:=v6 z;exact⟨g.1,fun f=>aj (g.2 f)⟩
  cases h
def OY {d b c:Nat}(f:b<10^d)(g:d<=6):∀(n a:Nat),b+1-a<=n->a<=c/10^(6-d)->c/10^(6-d)<=b->∃p,p∈Yr d b n a/\YY p c
 |0,a,hn,h1,h2=>z
 |n+1,a,hn,h1,h2=>by
  have h:a<=b:=z;unfold Yr;rw[if_pos h];have i:0<10^SZ a b:=v6 z;by_cases j:c/10^(6-d)<a+10^SZ a b
  ·exact⟨_,x8,(Ho h f g).2 ⟨h1,j⟩⟩
  obtain⟨p,k,e⟩:=OY f g n (a+10^SZ a b) z z h2;exact⟨p,x6 _ k,e⟩
def KU {q:Z6}:∀{a:List Z6},ZK q a=2->∃p,p∈a/\p.holds q=true
 |[],h=>by simp[ZK]at h
 |p::r,h=>by
  unfold ZK at h
  split at h
  ·rename_i b;exact⟨p,x8,b⟩
  split at h
  ·omega
  obtain⟨c,d,e⟩:=KU h;exact⟨c,x6 _ d,e⟩
def KV {q:Z6}:∀{c:List Z6},ZK q c=1->∃p,p∈c/\q.d<p.d
 |[],h=>by simp[ZK]at h
 |p::r,h=>by
  unfold ZK at h
  split at h
  ·omega
  rename_i g
  split at h
  ·rename_i i;refine⟨p,x8,?_⟩;obtain⟨f,a⟩:=UT.1 i;rcases q6 q.d p.d with b|j
   ·exact b
   exfalso
   have e:q.d=p.d:=z;apply g;refine UT.2 ⟨z,?_⟩;rw[e,Nat.sub_self,Nat.pow_zero,Nat.div_one]at a ⊢;exact a.symm
  obtain⟨k,f,a⟩:=KV h;exact⟨k,x6 _ f,a⟩
def Ml {q:Z6}:∀{c:List Z6},ZK q c=0->∀p,p∈c->p.holds q=false/\q.holds p=false
 |[],_,_,b=>by cases b
 |p::r,h,p',a=>by
  unfold ZK at h
  split at h
  ·omega
  rename_i b
  split at h
  ·omega
  rename_i d;rcases k8.1 a with e|a
  ·subst e;exact⟨by simpa using b,by simpa using d⟩
  exact Ml h p' a
def KW (q:Z6):∀a:List Z6,ZK q a<=2
 |[]=>by simp[ZK]
 |p::r=>by
  unfold ZK
  split
  ·omega
  split
  ·omega
  exact KW q r
def BE {d b a q}(e:a<10^d)(f:d<=6)(g:q.d<=6)(h:ZK q (YX d b a)=2){c}(i:YY q c):Qi d b a c:=by
 obtain⟨p,j,k⟩:=KU h;exact(Uv e f _ _ j).2 (Hm k g i)
def Ek {d e f q}(i:f<10^d)(j:d<=6)(m:q.d<=6)(h:ZK q (YX d e f)=0){c}(k:YY q c):¬Qi d e f c:=by
 rintro⟨n,o⟩;obtain⟨p,l,b⟩:=OY i j (f+1-e) e (z2 _) n o;have g:=Ml h p l;have r:=(Uv (c:=c) i j _ _ l).1;rcases Nat.le_total p.d q.d with a|a
 ·rw[rI b k a m]at g;exact absurd g.1 y
 rw[rI k b a z]at g;exact absurd g.2 y
def Mm {d b a q}(e:a<10^d)(f:d<=6)(h:ZK q (YX d b a)=1):q.d<d:=by
 obtain⟨p,g,i⟩:=KV h;have:=(Uv (c:=0) e f _ _ g).1;omega
end Go.Proofs.YtccikgogjfbpeaaGreatDoor
