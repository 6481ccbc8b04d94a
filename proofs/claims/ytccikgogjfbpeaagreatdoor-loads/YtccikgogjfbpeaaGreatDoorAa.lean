import Derived.Below
import Derived.Test.YtccikgogjfbpeaaGreatDoorProg
import Derived.WalkKit
import Derived.WalkSpells
import Derived.WalkLawsBesides
import Derived.Deep.QuietTactic
import Derived.BigQuiet
import Derived.Deep.RegionHeld3
import Derived.Deep.AppendLies
import Derived.Maps.RangeWalk
import Derived.Deep.RegionWith
import Derived.Lib.Strings
import Derived.Deep.LoopGhost
open Go.World renaming cell?_setCell_other->I,block_lt_of_cell?->H,cell?_setCell_same->L,news_of_block->y0,ownsRow_nil->y2,cell?_alloc_some->y4
open Option renaming none->J,some->Y
open Go.Value renaming int->Z,string->O,pointer->X,bool->C,slice->z9,oneCell'->y6,agg->x5
open Go.IntKind renaming i64->U,i64->x1
open Go.Proofs.Tryz renaming prog->D
open Go.Ending renaming returned->G
open Nat renaming lt_of_lt_of_le->M,le_refl->z2,lt_or_ge->x3,le_trans->x4
open Go renaming Calls->N,World->z0,Value->y5
open List renaming getD_eq_getElem?_getD->A,length_append->z6,getElem?_eq_getElem->z8,drop_eq_getElem_cons->y1,drop_of_length_le->y3,getElem?_append_right->y7,getElem?_eq_some_iff->y9,mem_of_getElem?->x2
open Go.RowKit renaming Hid->z1
open Or renaming inl->z3,inr->x0
open Go.Obj renaming cells->z4
open Int renaming natCast_add->z5
open _root_.ByteArray renaming empty->z7
open Go.AllReadyH renaming nil->y8,cons->x6
namespace Go.Proofs.YtccikgogjfbpeaaGreatDoor
set_option maxRecDepth 30000
set_option maxHeartbeats 8000000
open RowKit
theorem Za {p}(h:p):RowKit.Hid p:=h
theorem _root_.Go.RowKit.Hid.o {p:Prop}(h:z1 p):p:=h
theorem bL:type_of% @H:=@H
theorem cO:type_of% @I:=@I
theorem cS:type_of% @L:=@L
theorem aN:type_of% @heap_alloc_new:=@heap_alloc_new
theorem gE:type_of% @z8:=@z8
theorem iG:type_of% @y9:=@y9
theorem iA:type_of% @Array.getElem?_eq_some_iff:=@Array.getElem?_eq_some_iff
theorem nL:type_of% @M:=@M
theorem mG:type_of% @x2:=@x2
theorem gD:type_of% @A:=@A
theorem aR:type_of% @y7:=@y7
theorem oZ:type_of% @y2:=@y2
theorem dL:type_of% @y3:=@y3
theorem dC:type_of% @y1:=@y1
theorem lA:type_of% @z6:=@z6
theorem oB:type_of% @ownsRow_setCell_below:=@ownsRow_setCell_below
theorem DZ {P f a w v}{R:z0->Prop}{Q:Ending->z0->Prop}(h:N P f a w fun e w'=>e=v/\R w')(k:∀w',R w'->Q v w'):N P f a w Q:=h.mono (by rintro e w' ⟨rfl,d⟩;exact k w' d)
def ZK (c:Int):Bool:=decide (97<=c/\c<=122)
def XJ (c:Int):Bool:=decide (48<=c/\c<=57)
def Zq (c:Int):Bool:=ZK c||XJ c
def ZW (c:Int):Bool:=!decide (c=10)
def ZD (s:ByteArray)(k:Nat):Int:=((s.data.toList.getD k 0).toNat:Int)
theorem Nh (s k h):ZD s k=(s[k].toNat:Int):=by
 unfold ZD
 rw[A,z8 (by simpa using h)]
 rfl
def X4 (p:Int->Bool):List UInt8->Nat
 |[]=>0
 |c::r=>if p (c.toNat:Int)then X4 p r+1 else 0
theorem D0 (p l):X4 p l<=l.length:=by
 induction l with
 |nil=>simp[X4]
 |cons c r a=>simp only[X4];split<;>simp<;>omega
theorem Ni (p)(s:ByteArray)(k)(h:s.size<=k):X4 p (s.data.toList.drop k)=0:=by
 rw[y3 (by simpa using h)];rfl
theorem Th (p s k)(h:k<s.size):
  X4 p (s.data.toList.drop k)=if p (ZD s k)then X4 p (s.data.toList.drop (k+1))+1 else 0:=by
 rw[y1 (by simpa using h)]
 rw[Nh s k h]
 simp only[X4]
 rfl
def ZN (p:Int->Bool)(s:ByteArray)(k:Nat):Nat:=X4 p (s.data.toList.drop k)
theorem Wi (p s k)(h:k<=s.size):k+ZN p s k<=s.size:=by
 have:=D0 p (s.data.toList.drop k)
 simp at this
 unfold ZN
 omega
theorem XK (p s k)(h:k<s.size)(a:p (ZD s k)=true):1<=ZN p s k:=by
 unfold ZN
 rw[Th p s k h,if_pos a]
 omega
structure Tk where
 sort:Nat
 text:ByteArray
 line:Nat
def yH:List (List UInt8):=
 [[114,111,117,116,101],[114,117,108,101],[98,105,110],[109,99,99],[97,109,111,117,110,116],[99,117,114],[100,101,99,108,105,110,101],[99,104,101,97,112,101,115,116]]
def Y8 (t:ByteArray):Bool:=yH.contains t.toList
inductive Lx where
 |skip (at' line:Nat)
 |tok (t:Tk) (at':Nat)
 |bad
def P9 (s:ByteArray)(k:Nat)(a b:Int):Bool:=decide (k+2<=s.size)&&decide (ZD s k=a)&&decide (ZD s (k+1)=b)
def G5 (t m:ByteArray):Bool:=decide (m.size<=t.size)&&((t.extract 0 m.size).toList==m.toList)
def Zs (s:ByteArray)(k a:Nat):Lx:=
 if ZD s k=10 then .skip (k+1) (a+1)
 else if ZD s k=32\/ZD s k=9 then .skip (k+1) a
 else if ZD s k=35 then .skip (k+ZN ZW s k) a
 else if ZK (ZD s k)then
  if Y8 (s.extract k (k+ZN Zq s k))then .tok ⟨2,s.extract k (k+ZN Zq s k),a⟩ (k+ZN Zq s k)
  else if 8<ZN Zq s k then .bad
  else .tok ⟨0,s.extract k (k+ZN Zq s k),a⟩ (k+ZN Zq s k)
 else if XJ (ZD s k)then
  if 9<ZN XJ s k then .bad
  else .tok ⟨1,s.extract k (k+ZN XJ s k),a⟩ (k+ZN XJ s k)
 else if ZD s k=59\/ZD s k=58\/ZD s k=44 then .tok ⟨2,s.extract k (k+1),a⟩ (k+1)
 else if P9 s k 46 46||P9 s k 45 62 then .tok ⟨2,s.extract k (k+2),a⟩ (k+2)
 else .bad
theorem X5 {s k a k' l'}(h:k<s.size)(b:Zs s k a=.skip k' l'):k<k'/\k'<=s.size/\a<=l'/\l'<=a+1:=by
 unfold Zs at b
 split at b
 ·injection b;omega
 split at b
 ·injection b;omega
 split at b
 ·rename_i c
  have:=Wi ZW s k (by omega)
  have:=XK ZW s k h (by simp[ZW,c])
  injection b;omega
 repeat' (split at b)
 all_goals contradiction
theorem Jb {s k a b}(h:P9 s k a b=true):k+2<=s.size:=by
 simp[P9]at h
 exact h.1.1
theorem WG {s k b k' t}(h:k<s.size)(a:Zs s k b=.tok t k'):k<k'/\k'<=s.size:=by
 unfold Zs at a
 split at a
 ·contradiction
 split at a
 ·contradiction
 split at a
 ·contradiction
 split at a
 ·rename_i d
  have:=Wi Zq s k (by omega)
  have:=XK Zq s k h (by simp[Zq,d])
  split at a
  ·injection a;omega
  split at a
  ·contradiction
  injection a;omega
 split at a
 ·rename_i e
  have:=Wi XJ s k (by omega)
  have:=XK XJ s k h e
  split at a
  ·contradiction
  injection a;omega
 split at a
 ·injection a;omega
 split at a
 ·rename_i c
  simp only[Bool.or_eq_true]at c
  have:k+2<=s.size:=by rcases c with c|c<;>exact Jb c
  injection a;omega
 contradiction
def ZL (s:ByteArray)(k a:Nat)(b:List Tk):Except Nat (List Tk):=
 if h:k<s.size then
  match _hs:Zs s k a with
  | .skip k' l'=>ZL s k' l' b
  | .tok t k'=>ZL s k' a (b++[t])
  | .bad=>.error a
 else .ok (b++[⟨3,z7,a⟩])
 termination_by s.size-k
 decreasing_by
  ·have:=X5 h _hs;omega
  ·have:=WG h _hs;omega
open Go.RowKit
theorem Ti (c w):
  N D 150 #[Z .u8 c] w fun e w'=>e=G (C (ZK c))/\w'=w:=by
 by_cases a:97<=c
 all_goals by_cases b:c<=122
 all_goals
  go_enter Tryz.func150,Tryz.ntmps150
  go_wp2
  go_ret
  exact⟨by simp[ZK,a,b],rfl⟩
theorem Tj (c w):
  N D 188 #[Z .u8 c] w fun e w'=>e=G (C (XJ c))/\w'=w:=by
 by_cases a:48<=c
 all_goals by_cases b:c<=57
 all_goals
  go_enter Tryz.func188,Tryz.ntmps188
  go_wp2
  go_ret
  exact⟨by simp[XJ,a,b],rfl⟩
theorem Jc (c w):
  N D 196 #[Z .u8 c] w fun e w'=>e=G (C (ZW c))/\w'=w:=by
 go_enter Tryz.func196,Tryz.ntmps196
 go_wp2
 go_ret
 exact⟨by simp[ZW,bne,BEq.beq],rfl⟩
theorem Nj (c w):
  N D 152 #[Z .u8 c] w fun e w'=>e=G (C (Zq c))/\w'=w:=by
 cases h:ZK c
 all_goals
  go_enter Tryz.func152,Tryz.ntmps152
  go_wp2_with (first|(go_at_call 150;refine(Ti _ _).mono ?_;rintro e w' ⟨rfl,rfl⟩)|(go_at_call 188;refine(Tj _ _).mono ?_;rintro e w' ⟨rfl,rfl⟩))
  go_ret
  exact⟨by simp[Zq,h],rfl⟩
theorem VK {P t}(h:P.underlying t=Y .string)(s)(k:Nat)(i:Int)(hi:i=k)(a:k<s.size)(w):
  (Instr.index t (.string s) (.int .i64 i)).run P w=.ok (.int .u8 (ZD s k)) w:=by
 subst hi
 rw[run_index_string w t s .i64 k h,dif_pos (by omega),Nh s k a]
 simp
def Dr (w w':z0):Prop:=∃d,w'=w.drewN d
theorem Dr.refl (w):Dr w w:=⟨0,rfl⟩
theorem Dr.next {w w'}(h:Dr w w')(n):Dr w (w'.drewN n):=by
 obtain⟨d,rfl⟩:=h
 exact⟨d+n,by rw[World.drewN_drewN]⟩
theorem Dr.trans {a b c}(h:Dr a b)(k:Dr b c):Dr a c:=by
 obtain⟨d,rfl⟩:=k
 exact h.next d
theorem Dr.cell {w w'}(h:Dr w w')(a):w'.cell? a=w.cell? a:=by
 obtain⟨d,rfl⟩:=h
 simp
theorem ZP {k a b}(h:a=b):Ending.returned (Z k a)=G (Z k b):=by rw[h]
theorem wM (F K)(x:∀args W,(callFunc F args).run D W=.ok (.enter F args) W)(m:z1 (∀c w,N D F #[Z .u8 c] w fun e w'=>e=G (C (K c))/\w'=w))(b s)(a:Nat)(w)(o:s.size<=maxLen)(p:a<=s.size)(q:w.cell? ⟨b,0,J⟩=Y (O s))(r:w.cell? ⟨b,1,J⟩=Y (Z U a)):
  N D 195 #[X (Y ⟨b,0,J⟩),.func (.func F) #[] #[]] w fun e w'=>e=G (Z U (X4 K (s.data.toList.drop a)))/\Dr w w':=by
 unfold maxLen at o
 go_enter Tryz.func195,Tryz.ntmps195
 go_wp2
 go_loopw [5] (fun n w'=>∃k:Nat,a+k<=s.size/\n=Z U k/\z1 (X4 K (s.data.toList.drop a)=k+X4 K (s.data.toList.drop (a+k)))/\Dr w w') (fun n _=>s.size-(intOf n).toNat)
 case atStart=>exact⟨0,by omega,rfl,(by show _=_;simp),Dr.refl _⟩
 obtain⟨k,y,rfl,g,f⟩:=hrel
 rw[<-f.cell]at q r
 have t:x1.wrap ((a:Int)+(k:Int))=(a:Int)+(k:Int):=IntWalk.i64_in _ (by omega)
 by_cases d:a+k<s.size
 ·have h:=Th K s (a+k) d
  have i:=Za h
  have hi:(a:Int)+(k:Int)<(s.size:Int):=by omega
  have u:=fun w=>VK (P:=D) Tryz.underlying9 s (a+k) ((a:Int)+(k:Int)) (by omega) d w
  cases j:K (ZD s (a+k))
  all_goals
   go_wp2_with fail
   go_quiet ((exact Calls.quiet_of_same (m.out _ _)))
  ·go_wp2
   go_ret
   exact⟨ZP (by rw[g.out,i.out,j];simp),f.next _⟩
  go_wp2
  go_roundw
  case rel=>
   refine⟨k+1,by omega,by go_num,?_,f.next _⟩
   have l:=i.out
   rw[j,if_pos rfl]at l
   have v:X4 K (s.data.toList.drop a)=(k+1)+X4 K (s.data.toList.drop (a+(k+1))):=by
    rw[g.out,l,Nat.add_assoc a k 1];omega
   exact v
  simp[intOf];omega
 have z:decide ((a:Int)+k<s.size)=false:=by simp;omega
 go_wp2_with fail
 go_quiet (fail)
 go_wp2
 go_ret
 exact⟨ZP (by rw[g.out,Ni _ _ _ (by omega)];simp),f.next _⟩
theorem RG (t:ByteArray)(w:z0):
  N D 151 #[O t] w fun e w'=>e=G (C (Y8 t))/\w'=w:=by
 go_enter Tryz.func151,Tryz.ntmps151
 go_wp2
 all_goals
  go_ret
  refine⟨?_,rfl⟩
  simp_all [Y8,yH]
theorem SL (t:ByteArray)(w:z0):
  N D 128 #[O t] w fun e w'=>e=G (C (Y8 t))/\w'=w:=by
 go_enter Tryz.func128,Tryz.ntmps128
 go_wp2
 all_goals
  go_ret
  refine⟨?_,rfl⟩
  simp_all [Y8,yH]
theorem Nk (t m w)(d:t.size<=9223372036854775807)(f:m.size<=9223372036854775807):
  N D 239 #[O t,O m] w fun e w'=>e=G (C (G5 t m))/\w'=w:=by
 have b:(t.size:Int)<=9223372036854775807:=by omega
 have c:(m.size:Int)<=9223372036854775807:=by omega
 by_cases a:m.size<=t.size
 ·go_enter Tryz.func239,Tryz.ntmps239
  go_wp2
  go_ret
  exact⟨by simp[G5,a],rfl⟩
 go_enter Tryz.func239,Tryz.ntmps239
 go_wp2
 go_ret
 exact⟨by simp[G5,a],rfl⟩
theorem Ls (t m w)(a:t.size<=maxLen)(b:m.size<=maxLen):
  N D 203 #[O t,O m] w fun e w'=>e=G (C (G5 t m))/\w'=w:=by
 go_enter Tryz.func203,Tryz.ntmps203
 go_wp2_with (go_at_call 239;refine(Nk _ _ _ a b).mono ?_;rintro e w' ⟨rfl,rfl⟩)
 go_ret
 exact⟨rfl,rfl⟩
theorem D2 (b s m)(a:Nat)(w)(c:s.size<=maxLen)(d:m.size<=maxLen)(f:a<=s.size)(j:w.cell? ⟨b,0,J⟩=Y (O s))(k:w.cell? ⟨b,1,J⟩=Y (Z U a)):
  N D 199 #[X (Y ⟨b,0,J⟩),O m] w fun e w'=>e=G (C (G5 (s.extract a s.size) m))/\Dr w w':=by
 have hi:(a:Int)<=(s.size:Int):=by omega
 have g:(s.extract a s.size).size<=maxLen:=by simp;omega
 have h:=Za g
 have i:=Za d
 unfold maxLen at c
 go_enter Tryz.func199,Tryz.ntmps199
 go_wp2
 go_quiet ((go_at_call 203;exact Calls.quiet_of_same (Ls _ _ _ h.out i.out)))
 go_wp2
 go_ret
 exact⟨rfl,(Dr.refl w).next _⟩
def B4:List Oper->Nat->Option Oper
 |[],_=>J
 |o::_,0=>Y o
 |_::r,n+1=>B4 r n
theorem Jd (l i):l.toArray[i]?=B4 l i:=by
 rw[List.getElem?_toArray]
 induction l generalizing i with
 |nil=>rfl
 |cons o r a=>cases i with
  |zero=>rfl
  |succ i=>simpa[B4]using a i
theorem TI {P l Q f S}(i){e v d b a w}(hi:B4 l i=Y e)(g:Region.noSelect l.toArray=true)(j:Region.free f l.toArray b i=true)(k:(Region.ready f l.toArray b).contains i=true)(m:∀c a w,Q (.panic c) (a.put e.dst v) w->Q (.panic c) a w)(n:Region.wanted e (yielded l.toArray a.tmps)=true)(o:∀w,S w->(execOp a.eval e).run P w=.ok (.value v) w)(p:S w)(h:wpAnyH P f l.toArray Q S d (b.setIfInBounds i true) (a.put e.dst v) w):wpAnyH P f l.toArray Q S (d+1) b a w:=
 wpAnyH_take ((Jd l i).trans hi) g j k m (z3 ⟨n,o⟩) p h
theorem US {P:Program}{l:List Oper}{Q:Exit->Act->z0->Prop}{f:Region.Mode}{S:z0->Prop}(i:Nat){e:Oper}{v:y5}{d:Nat}{b:Array Bool}{a:Act}{w:z0}(g:∀w,S w->(execOp a.eval e).run P w=.ok (.value v) w)(j:S w)
  (h:wpAnyH P f l.toArray Q S d (b.setIfInBounds i true) (a.put e.dst v) w)(hi:B4 l i=Y e:=by rfl)(k:Region.noSelect l.toArray=true:=by kernel_rfl)(m:Region.free f l.toArray b i=true:=by kernel_rfl)(n:(Region.ready f l.toArray b).contains i=true:=by kernel_rfl)
  (o:∀c a w,Q (.panic c) (a.put e.dst v) w->Q (.panic c) a w:=by exact fun _ _ _ h=>h)(p:Region.wanted e (yielded l.toArray a.tmps)=true:=by rfl):wpAnyH P f l.toArray Q S (d+1) b a w:=
 TI i hi k m n o p g j h
theorem Zb {P l Q d S c b a w i o rs}(f:B4 l i=Y o)(h:∀e:Act->z0->Prop,Shut (∀a w,S w->(S w->wpAnyH P d l.toArray Q S c (b.setIfInBounds i true) a w)->e a w)->if Region.wanted o (yielded l.toArray a.tmps)=true then Oper.wp P o a w e Q else e (a.put o.dst undef) w)(g:AllReadyH P d l.toArray Q S c b a w rs):AllReadyH P d l.toArray Q S c b a w (i::rs):=
 x6 ((Jd l i).trans f) h g
theorem ZY {P l Q f S}(i){e v d b a w}(j:S w)(h:wpAnyH P f l.toArray Q S d (b.setIfInBounds i true) (a.put e.dst v) w)(hi:B4 l i=Y e:=by rfl)(k:Region.noSelect l.toArray=true:=by kernel_rfl)(m:Region.free f l.toArray b i=true:=by kernel_rfl)(n:(Region.ready f l.toArray b).contains i=true:=by kernel_rfl)(o:∀c a w,Q (.panic c) (a.put e.dst v) w->Q (.panic c) a w:=by exact fun _ _ _ h=>h)(g:Region.wanted e (yielded l.toArray a.tmps)=true:=by rfl)(p:∀w,S w->(execOp a.eval e).run P w=.ok (.value v) w:=by(intro w g;(try dsimp only at g);go_simp;with_reducible rfl)):wpAnyH P f l.toArray Q S (d+1) b a w:=
 TI i hi k m n o g p j h
theorem XC (rs:List Nat){P e d Q S c b a w}(h:AllReadyH P e d Q S c b a w rs)(g:Region.ready e d b=rs:=by kernel_rfl)(f:rs≠[]:=by simp):wpAnyH P e d Q S (c+1) b a w:=wpAnyH_ready g f h
theorem Vy {P l Q d S}(i){o c b a w}(h:∀e:Act->z0->Prop,Shut (∀a w,S w->(S w->wpAnyH P d l.toArray Q S c (b.setIfInBounds i true) a w)->e a w)->Oper.wp P o a w e Q)(f:B4 l i=Y o:=by rfl)(g:Region.ready d l.toArray b=[i]:=by kernel_rfl)(j:Region.wanted o (yielded l.toArray a.tmps)=true:=by rfl):wpAnyH P d l.toArray Q S (c+1) b a w:=
 wpAnyH_ready g (by simp) (Zb f (fun K k=>by rw[if_pos j];exact h K k) y8)
def O2 (t:Tk):List y5:=[Z U t.sort,O t.text,Z U t.line]
def Ys (ts:List Tk):List y5:=ts.flatMap O2
theorem T7 (ts t):Ys (ts++[t])=Ys ts++O2 t:=by simp[Ys]
structure Sc (w:z0)(b:Nat)(s:ByteArray)(k line:Nat)(v:y5)(ts:List Tk):Prop where
 c0:w.cell? ⟨b,0,J⟩=Y (O s)
 c1:w.cell? ⟨b,1,J⟩=Y (Z U k)
 c2:w.cell? ⟨b,2,J⟩=Y (Z U line)
 c3:w.cell? ⟨b,3,J⟩=Y v
 fz:∀o,w.frozen? ⟨b,o,J⟩=false
 Yr:w.ownsRow (b+1) 263 3 v ts.length (Ys ts)
 few:ts.length<=k
 at':k<=s.size
 ln:line<=k+1
 sz:s.size<=3000
theorem UT:(D.info? 263).map (fun i=>(i.zero,i.size,i.bytes))=Y (Y (x5 #[Z U 0,O z7,Z U 0]),3,32):=by kernel_rfl
theorem Pw {w h f b n v i}(Yr:w.ownsRow (b+1) 263 3 v n i)(g:b<w.heap.size)(d:Below w.heap.size w h)(a:h.grownBy f v.ownBlock):
  (∀o,f.cell? ⟨b,o,J⟩=w.cell? ⟨b,o,J⟩)/\(∀o,f.frozen? ⟨b,o,J⟩=w.frozen? ⟨b,o,J⟩)/\Below b w f:=by
 have c:∀j,j<=b->Y j≠v.ownBlock:=fun j l e=>by have:=Yr.lt j e.symm;omega
 refine⟨fun o=>?_,fun o=>?_,?_⟩
 ·exact(a.cell_far ⟨b,o,J⟩ (M g d.size) (c b (z2 _))).trans (d.cell (p:=⟨b,o,J⟩) g)
 ·exact(a.frozen_far ⟨b,o,J⟩ (M g d.size) (c b (z2 _))).trans (d.frozen (p:=⟨b,o,J⟩) g)
 exact(d.mono (by omega)).trans ⟨a.os,a.tape,a.output,a.size,fun k m=>a.block k (M (by omega) d.size) (c k (by omega))⟩
theorem EU {w c b s}{k a k':Nat}{V ts}(g:c.cell? ⟨b,0,J⟩=Y (O s))(c1:c.cell? ⟨b,1,J⟩=Y (Z U k))(h:c.cell? ⟨b,2,J⟩=Y (Z U a))(d:∃v,c.cell? ⟨b,3,J⟩=Y v)(i:∀o,c.frozen? ⟨b,o,J⟩=false)(Yr:c.ownsRow (b+1) 263 3 V ts.length (Ys ts))(e:Below b w c)(few:ts.length<=k')(f:k'<=s.size)(j:a<=k'+1)(l:s.size<=3000):
  Sc ((c.setCell ⟨b,3,J⟩ V).setCell ⟨b,1,J⟩ (Z U k')) b s k' a V ts/\Below b w ((c.setCell ⟨b,3,J⟩ V).setCell ⟨b,1,J⟩ (Z U k')):=by
 obtain⟨v,d⟩:=d
 refine⟨⟨?_,?_,?_,?_,fun o=>by simp[i o],?_,few,f,j,l⟩,?_⟩
 ·rw[I _ _ _ _ (by simp),I _ _ _ _ (by simp)];exact g
 ·exact L _ _ _ (u:=Z U k) (by rw[I _ _ _ _ (by simp)];exact c1)
 ·rw[I _ _ _ _ (by simp),I _ _ _ _ (by simp)];exact h
 ·rw[I _ _ _ _ (by simp)];exact L _ _ _ d
 ·exact ownsRow_setCell_below (ownsRow_setCell_below Yr (by simp) _) (by simp) _
 exact(e.setCell (by simp) _).setCell (by simp) _
theorem B5 (b s k d v ts w)(f a m:Nat)(M:Sc w b s k d v ts)(hl:a<=m)(h1:1<=a)(hk:k+a<=s.size)(P:m<=3000):
  N D 198 #[X (Y ⟨b,0,J⟩),Z U f,Z U a,Z U m] w fun e w'=>e=G (.tuple #[])/\
   (∃v',Sc w' b s (k+a) d v' (ts++[⟨f,s.extract k (k+a),d⟩]))/\Below b w w':=by
 obtain⟨y,c1,F,x,L,Yr,few,b0,ln,sz⟩:=M
 have hb:=H w _ y
 have f0:x1.wrap ((k:Int)+(a:Int))=(k:Int)+(a:Int):=IntWalk.i64_in _ (by omega)
 have g0:¬(m:Int)<(a:Int):=by omega
 have h0:(k:Int)<=(k:Int)+(a:Int):=by omega
 have i0:(k:Int)+(a:Int)<=(s.size:Int):=by omega
 obtain⟨i,hi,z,A,B⟩:=info_parts UT
 go_enter Tryz.func198,Tryz.ntmps198
 go_wp2
 refine wp_region_held_drew (S:=fun w'=>w'.cell? ⟨b,0,J⟩=Y (O s)/\w'.cell? ⟨b,1,J⟩=Y (Z U k)/\w'.cell? ⟨b,2,J⟩=Y (Z U d)) (by kernel_rfl) ?_ (fun c=>?_)
 ·simp[*]
 refine ZY 0 c ?_
 go_frame
 refine ZY 1 c ?_
 go_frame
 refine ZY 2 c ?_
 go_frame
 refine ZY 3 c ?_
 go_frame
 refine ZY 5 c ?_
 go_frame
 refine ZY 6 c ?_
 go_frame
 refine ZY 7 c ?_
 go_frame
 refine ZY 8 c ?_
 go_frame
 refine ZY 9 c ?_
 go_frame
 refine ZY 10 c ?_
 go_frame
 refine ZY 11 c ?_
 go_frame
 refine ZY 12 c ?_
 go_frame
 refine ZY 13 c ?_
 go_frame
 refine ZY 14 c ?_
 go_frame
 refine ZY 15 c ?_
 go_frame
 refine ZY 16 c ?_
 go_frame
 refine ZY 17 c ?_
 go_frame
 refine ZY 18 c ?_
 go_frame
 refine ZY 19 c ?_
 go_frame
 refine ZY 20 c ?_
 go_frame
 refine ZY 21 c ?_
 go_frame
 refine ZY 22 c ?_
 go_frame
 refine ZY 23 c ?_
 go_frame
 refine ZY 24 c ?_
 go_frame
 refine ZY 25 c ?_
 go_frame
 refine XC [4,26] ?_
 refine Zb rfl (fun K h=>?_) ?_
 ·rw[if_pos (by rfl)]
  go_simp
  refine h.out _ _ c (fun _=>?_)
  clear h K
  try go_frame
  refine Vy 26 (fun K h=>?_)
  go_simp
  refine h.out _ _ ?_ (fun c=>?_)
  ·simp[*,y4]
  clear h K
  try go_frame
  refine XC [27] ?_
  refine Zb rfl (fun K h=>?_) y8
  refine step_append_lies _ rfl (.tmp 21) (.tmp 43) 193 rfl (b+1) 263 i _ 3 32 Tryz.underlying193 hi z A B rfl (by decide) v ts.length (Ys ts) rfl ?h1 ⟨w.heap.size,0,J⟩ 1 1 [Z U f,O (s.extract k ((k:Int)+(a:Int)).toNat),Z U d] rfl rfl ?h2 ?h3 (by decide) ?h4 ?h5 ?h6 _ rfl ?h7
  case h1=>exact(Yr.alloc _).drew
  case h2=>exact y0 (heap_alloc_new w _)
  case h3=>simp[y6]
  case h4=>unfold maxLen;omega
  case h5=>omega
  case h6=>simp;omega
  intro g cap Q l j _ _
  obtain⟨n,C,p⟩:=Pw Yr hb ((Below.refl _ _).alloc (z2 _) _).drew j
  have q:=(n 0).trans y
  have r:=(n 1).trans c1
  have t:=(n 2).trans F
  have R:=(n 3).trans x
  have T:∀o,Q.frozen? ⟨b,o,J⟩=false:=fun o=>(C o).trans (L o)
  have W:=Za l
  have HB:=Za p
  clear n C j l p y c1 F x L Yr
  refine h.out _ _ ⟨q,r,t⟩ (fun c=>?_)
  clear h K
  go_frame
  refine ZY 28 c ?_
  go_frame
  refine ZY 29 c ?_
  go_frame
  refine Vy 30 (fun K h=>?_)
  go_simp
  refine h.out _ _ ?_ (fun c=>?_)
  ·refine⟨?_,?_,?_⟩
   ·rw[I _ _ _ _ (by simp)];exact q
   ·rw[I _ _ _ _ (by simp)];exact r
   rw[I _ _ _ _ (by simp)];exact t
  clear h K
  try go_frame
  refine wpAnyH_done (by kernel_rfl) ?_ _
  obtain⟨e0,e1,e2⟩:=c
  go_wp2
  go_end0
  have et:((k:Int)+(a:Int)).toNat=k+a:=by omega
  have E:=W.out
  rw[et]at E
  have u:=EU (k':=k+a) (ts:=ts++[⟨f,s.extract k (k+a),d⟩]) (V:=z9 (Y ⟨g,0,J⟩) (ts.length+1) cap) q r t ⟨_,R⟩ T (by rw[T7,z6];exact E) HB.out (by simp;omega) hk (by omega) sz
  rw[z5]at u
  exact⟨rfl,⟨_,u.1⟩,u.2⟩
 refine Zb rfl (fun K h=>?_) y8
 rw[if_pos (by rfl)]
 go_simp
 refine h.out _ _ ?_ (fun c=>?_)
 ·simp[*,y4]
 clear h K
 try go_frame
 refine Vy 4 (fun K h=>?_)
 have a0:(w.alloc (z4 #[Z U f,O (s.extract k ((k:Int)+(a:Int)).toNat),Z U d] 263)).cell? ⟨b,3,J⟩=Y v:=by rw[y4 _ _ _ (by simp[x])];exact x
 go_simp
 refine h.out _ _ c (fun _=>?_)
 clear h K a0
 try go_frame
 refine XC [27] ?_
 refine Zb rfl (fun K h=>?_) y8
 refine step_append_lies _ rfl (.tmp 21) (.tmp 43) 193 rfl (b+1) 263 i _ 3 32 Tryz.underlying193 hi z A B rfl (by decide) v ts.length (Ys ts) rfl ?h1 ⟨w.heap.size,0,J⟩ 1 1 [Z U f,O (s.extract k ((k:Int)+(a:Int)).toNat),Z U d] rfl rfl ?h2 ?h3 (by decide) ?h4 ?h5 ?h6 _ rfl ?h7
 case h1=>exact(Yr.alloc _).drew
 case h2=>exact y0 (heap_alloc_new w _)
 case h3=>simp[y6]
 case h4=>unfold maxLen;omega
 case h5=>omega
 case h6=>simp;omega
 intro g cap Q l j _ _
 obtain⟨n,C,p⟩:=Pw Yr hb ((Below.refl _ _).alloc (z2 _) _).drew j
 have q:=(n 0).trans y
 have r:=(n 1).trans c1
 have t:=(n 2).trans F
 have R:=(n 3).trans x
 have T:∀o,Q.frozen? ⟨b,o,J⟩=false:=fun o=>(C o).trans (L o)
 have W:=Za l
 have HB:=Za p
 clear n C j l p y c1 F x L Yr
 refine h.out _ _ ⟨q,r,t⟩ (fun c=>?_)
 clear h K
 go_frame
 refine ZY 28 c ?_
 go_frame
 refine ZY 29 c ?_
 go_frame
 refine Vy 30 (fun K h=>?_)
 go_simp
 refine h.out _ _ ?_ (fun c=>?_)
 ·refine⟨?_,?_,?_⟩
  ·rw[I _ _ _ _ (by simp)];exact q
  ·rw[I _ _ _ _ (by simp)];exact r
  rw[I _ _ _ _ (by simp)];exact t
 clear h K
 try go_frame
 refine wpAnyH_done (by kernel_rfl) ?_ _
 obtain⟨e0,e1,e2⟩:=c
 go_wp2
 go_end0
 have et:((k:Int)+(a:Int)).toNat=k+a:=by omega
 have E:=W.out
 rw[et]at E
 have u:=EU (k':=k+a) (ts:=ts++[⟨f,s.extract k (k+a),d⟩]) (V:=z9 (Y ⟨g,0,J⟩) (ts.length+1) cap) q r t ⟨_,R⟩ T (by rw[T7,z6];exact E) HB.out (by simp;omega) hk (by omega) sz
 rw[z5]at u
 exact⟨rfl,⟨_,u.1⟩,u.2⟩
def Zj (a b:Nat):Ending:=.panicked [{v:=.iface 111 (x5 #[Z U a,Z U b]),recovered:=false}]
theorem D3 (b s k c v ts w)(f d a:Nat)(g:Sc w b s k c v ts)(j:a<d):
  N D 198 #[X (Y ⟨b,0,J⟩),Z U f,Z U d,Z U a] w fun e w'=>e=Zj 2 c/\w'=w:=by
 obtain⟨l,c1,m,n,o,Yr,few,h,p,q⟩:=g
 have i:(a:Int)<(d:Int):=by omega
 go_enter Tryz.func198,Tryz.ntmps198
 go_wp2
 exact⟨rfl,rfl,rfl⟩
def EV (s:ByteArray)(k a n:Nat):Lx:=if Y8 (s.extract k (k+n))then .tok ⟨2,s.extract k (k+n),a⟩ (k+n)else if 8<n then .bad else .tok ⟨0,s.extract k (k+n),a⟩ (k+n)
def QB (x:Lx)(w:z0)(b:Nat)(s:ByteArray)(a:Nat)(ts:List Tk)(e:Ending)(w':z0):Prop:=
 match x with
 | .skip k' l'=>e=G (.tuple #[])/\(∃v',Sc w' b s k' l' v' ts)/\Below b w w'
 | .tok t k'=>e=G (.tuple #[])/\(∃v',Sc w' b s k' a v' (ts++[t]))/\Below b w w'
 | .bad=>e=Zj 2 a/\Below b w w'
section
variable {x y:Lx} {w W w':z0} {b:Nat} {s:ByteArray} {k line:Nat} {v:y5} {ts:List Tk} {e:Ending}
theorem QB.fin (h:QB x w b s line ts e w'):e=G (.tuple #[])\/e=Zj 2 line:=by
 cases x<;>first|exact .inl h.1|exact .inr h.1
theorem QB.pre (h:QB x W b s line ts e w')(a:Below b w W)(c:y=x):QB y w b s line ts e w':=by
 subst c
 cases y<;>first|exact⟨h.1,h.2.1,a.trans h.2.2⟩|exact⟨h.1,a.trans h.2⟩
theorem Sc.dr {w w' b s k a v ts}(h:Sc w b s k a v ts)(e:Dr w w'):Sc w' b s k a v ts:=by
 obtain⟨d,rfl⟩:=e
 obtain⟨f,c1,g,i,j,Yr,few,c,l,m⟩:=h
 exact⟨by simpa using f,by simpa using c1,by simpa using g,by simpa using i,by simpa using j,Yr,few,c,l,m⟩
theorem Dr.below {w w'}(a:Dr w w')(B):Below B w w':=by
 obtain⟨d,rfl⟩:=a
 exact⟨rfl,rfl,rfl,z2 _,fun _ _=>rfl⟩
theorem TJ (d a c:Nat)(i j l:Int)(g:Sc w b s k line v ts)(m:1<=a)(n:k+a<=s.size)(f:c<=3000)(o:i=d)(p:j=a)(q:l=c):
  N D 198 #[X (Y ⟨b,0,J⟩),Z U i,Z U j,Z U l] w (QB (if c<a then .bad else .tok ⟨d,s.extract k (k+a),line⟩ (k+a)) w b s line ts):=by
 subst o p q
 split
 ·exact(D3 b s k line v ts w d a c g (by omega)).mono fun e w' h=>⟨h.1,h.2▸Below.refl _ _⟩
 exact B5 b s k line v ts w d a c g (by omega) m n f
theorem G6 {F K}(f:∀args W,(callFunc F args).run D W=.ok (.enter F args) W)(g:z1 (∀c w,N D F #[Z .u8 c] w fun e w'=>e=G (C (K c))/\w'=w))(a:Sc w b s k line v ts)(W)(d:Dr w W):
  N D 195 #[X (Y ⟨b,0,J⟩),.func (.func F) #[] #[]] W fun e w'=>e=G (Z U (ZN K s k))/\Dr W w':=
 wM F K f g b s k W (by have:=a.sz;unfold maxLen;omega) a.at' (a.dr d).c0 (a.dr d).c1
theorem B7 (a:Sc w b s k line v ts)(o:k<s.size)(g:ZK (ZD s k)=true):
  N D 197 #[X (Y ⟨b,0,J⟩)] w (QB (EV s k line (ZN Zq s k)) w b s line ts):=by
 have l:=XK Zq s k o (by simp[Zq,g])
 have c:=Wi Zq s k (by omega)
 have p:=Za (G6 (F:=152) (fun _ _=>by kernel_rfl) Nj a w (Dr.refl w))
 have f:=Za a
 have q:=a.sz
 generalize ZN Zq s k=n at*
 have r:x1.wrap ((k:Int)+(n:Int))=(k:Int)+(n:Int):=IntWalk.i64_in _ (by omega)
 have x:((k:Int)+(n:Int)).toNat=k+n:=by omega
 have t:(k:Int)<=(k:Int)+(n:Int):=by omega
 have u:(k:Int)+(n:Int)<=(s.size:Int):=by omega
 cases d:Y8 (s.extract k (k+n))
 all_goals
  go_enter Tryz.func197,Tryz.ntmps197
  go_wp2_with (go_at_call 195;refine DZ p.out fun z i=>?_;have j:=Za i;have A:=(f.out.dr i).c0;have c1:=(f.out.dr i).c1)
  go_big_quiet ((go_at_call 151;exact Calls.quiet_of_same (RG _ _)))
  simp only[d]
  go_wp2_with fail
  first|refine(TJ 2 n n _ _ _ ((f.out.dr j.out).dr ⟨_,rfl⟩) l c (by omega) (by rfl) (by rfl) (by rfl)).mono ?_|refine(TJ 0 n 8 _ _ _ ((f.out.dr j.out).dr ⟨_,rfl⟩) l c (by omega) (by rfl) (by rfl) (by rfl)).mono ?_
  intro e w2 h
  have h:=h.pre (y:=EV s k line n) ((j.out.next _).below b) (by simp[EV,d])
  rcases h.fin with rfl|m
  ·go_wp2_with fail
   go_end0
   exact h
  unfold Zj at m
  subst m
  exact⟨rfl,h⟩
end
theorem Sc.move {w b s k a v ts}(h:Sc w b s k a v ts)(k')(l:k<=k')(c:k'<=s.size):
  Sc (w.setCell ⟨b,1,J⟩ (Z U k')) b s k' a v ts/\Below b w (w.setCell ⟨b,1,J⟩ (Z U k')):=by
 obtain⟨d,c1,e,f,g,Yr,few,i,m,j⟩:=h
 refine⟨⟨?_,?_,?_,?_,fun o=>by simp[g o],?_,by omega,c,by omega,j⟩,?_⟩
 ·rw[I _ _ _ _ (by simp)];exact d
 ·exact L _ _ _ c1
 ·rw[I _ _ _ _ (by simp)];exact e
 ·rw[I _ _ _ _ (by simp)];exact f
 ·exact ownsRow_setCell_below Yr (by simp) _
 exact(Below.refl _ _).setCell (by simp) _
theorem Sc.line {w b s k a v ts}(h:Sc w b s k a v ts)(k')(l:k<k')(c:k'<=s.size):
  Sc ((w.setCell ⟨b,2,J⟩ (Z U (a+1:Nat))).setCell ⟨b,1,J⟩ (Z U k')) b s k' (a+1) v ts/\
   Below b w ((w.setCell ⟨b,2,J⟩ (Z U (a+1:Nat))).setCell ⟨b,1,J⟩ (Z U k')):=by
 obtain⟨d,c1,e,f,g,Yr,few,i,m,j⟩:=h
 refine⟨⟨?_,?_,?_,?_,fun o=>by simp[g o],?_,by omega,c,by omega,j⟩,?_⟩
 ·rw[I _ _ _ _ (by simp),I _ _ _ _ (by simp)];exact d
 ·exact L _ _ _ (u:=Z U k) (by rw[I _ _ _ _ (by simp)];exact c1)
 ·rw[I _ _ _ _ (by simp)];exact L _ _ _ e
 ·rw[I _ _ _ _ (by simp),I _ _ _ _ (by simp)];exact f
 ·exact ownsRow_setCell_below (ownsRow_setCell_below Yr (by simp) _) (by simp) _
 exact((Below.refl _ _).setCell (by simp) _).setCell (by simp) _
theorem Dr.drew {w w'}(h:Dr w w'):Dr w w'.drew:=h.trans ⟨1,rfl⟩
theorem B8 (s k a b):G5 (s.extract k s.size) ⟨#[a,b]⟩=P9 s k (a.toNat:Int) (b.toNat:Int):=by
 unfold G5 P9 ZD
 have d:(⟨#[a,b]⟩:ByteArray).size=2:=rfl
 by_cases h:k+2<=s.size
 ·rw[ByteArray.toList_eq,ByteArray.toList_eq,Lib.extract_data,Lib.extract_data,d]
  have c:(s.data.toList.drop k).length=s.size-k:=by simp
  have g0:s.data.toList.getD k 0=(s.data.toList.drop k).getD 0 0:=by simp[A]
  have g1:s.data.toList.getD (k+1) 0=(s.data.toList.drop k).getD 1 0:=by simp[A]
  rw[g0,g1]
  generalize s.data.toList.drop k=l at*
  match l,c with
  |[],c=>simp at c;omega
  |[_],c=>simp at c;omega
  |x::y::r,c=>
   obtain⟨n,f⟩:∃n,s.size-k=n+2:=⟨s.size-k-2,by omega⟩
   rw[f]
   have e:∀u v:UInt8,(u==v)=decide ((u.toNat:Int)=(v.toNat:Int)):=by
    intro u v
    rw[Bool.eq_iff_iff]
    simp only[beq_iff_eq,decide_eq_true_eq]
    rw[<-UInt8.toNat_inj]
    omega
   simp[h,e]
   omega
 simp[d,h]
 omega
theorem B9 (b s k a v ts w)(d:Sc w b s k a v ts)(H:k<s.size):
  N D 159 #[X (Y ⟨b,0,J⟩)] w (QB (Zs s k a) w b s a ts):=by
 have U:=fun w=>VK (P:=D) Tryz.underlying9 s k (k:Int) rfl H w
 have V:(k:Int)<(s.size:Int):=by omega
 have r:=Wi ZW s k (by omega)
 have t:=Wi XJ s k (by omega)
 have Q:=Za (XK XJ s k H)
 have u:=Za (G6 (F:=196) (fun _ _=>by kernel_rfl) Jc d)
 have z:=Za (G6 (F:=188) (fun _ _=>by kernel_rfl) Tj d)
 have R:z1 (∀(x y:UInt8)(c:Bool) W,P9 s k (x.toNat:Int) (y.toNat:Int)=c->Dr w W->N D 199 #[X (Y ⟨b,0,J⟩),O ⟨#[x,y]⟩] W fun e w'=>e=G (C c)/\Dr W w'):=
  fun x y c W i f=>(D2 b s ⟨#[x,y]⟩ k W (by have:=d.sz;unfold maxLen;omega) (by unfold maxLen;show 2<=_;decide) (by omega) (d.dr f).c0 (d.dr f).c1).mono fun e w' h=>by rw[B8,i]at h;exact h
 have j:=Za d
 obtain⟨c0,c1,c2,Z,fz,Yr,few,I,ln,sz⟩:=d
 have l:∀c:Int,ZD s k≠c->(ZD s k==c)=false:=fun c h=>by simp[h]
 obtain⟨n,en⟩:∃n,ZN ZW s k=n:=⟨_,rfl⟩
 obtain⟨m,K⟩:∃m,ZN XJ s k=m:=⟨_,rfl⟩
 rw[en]at r u
 rw[K]at t z Q
 have L:x1.wrap ((k:Int)+(n:Int))=(k:Int)+(n:Int):=IntWalk.i64_in _ (by omega)
 clear Yr few I Z
 obtain⟨x,A⟩:∃x,Zs s k a=x:=⟨_,rfl⟩
 rw[A]
 unfold Zs at A
 rw[en,K]at A
 have E:=Za A
 clear A en K
 rcases(by omega:ZD s k=10\/ZD s k=32\/ZD s k=9\/ZD s k=35\/(ZD s k≠10/\ZD s k≠32/\ZD s k≠9/\ZD s k≠35))with i|i|i|i|⟨h1,h2,h3,h4⟩
 iterate 3
  ·clear L
   go_enter Tryz.func159,Tryz.ntmps159
   go_wp2_with fail
   go_big_quiet ((fail))
   go_wp2
   go_end0
   have o:=(j.out.dr ⟨nq,rfl⟩).line (k+1) (by omega) (by omega)
   have M:=(j.out.dr ⟨nq,rfl⟩).move (k+1) (by omega) (by omega)
   rw[z5]at M
   rw[z5,z5]at o
   have e:=E.out
   simp[i]at e
   subst e
   first|exact⟨rfl,⟨v,o.1⟩,(Dr.below ⟨nq,rfl⟩ b).trans o.2⟩|exact⟨rfl,⟨v,M.1⟩,(Dr.below ⟨nq,rfl⟩ b).trans M.2⟩
 ·go_enter Tryz.func159,Tryz.ntmps159
  go_wp2_with fail
  go_big_quiet ((fail))
  go_wp2_with fail
  go_region_with (go_at_call 195;refine(u.out _ (by exact((Dr.refl w).next nq).drew)).mono ?_;rintro e w1 ⟨rfl,f⟩;have g:=Za ((((Dr.refl w).next nq).drew).trans f);have e1:=(j.out.dr g.out).c1;have ef:=(j.out.dr g.out).fz;clear f)
  all_goals
   go_wp2
   go_end0
   have o:=(j.out.dr g.out).move (k+n) (by omega) r
   rw[z5]at o
   have e:=E.out
   simp[i]at e
   subst e
   exact⟨rfl,⟨v,o.1⟩,(g.out.below b).trans o.2⟩
 have n1:=l _ h1
 have n2:=l _ h2
 have n3:=l _ h3
 have n4:=l _ h4
 cases p:ZK (ZD s k)
 case' true=>have HC:=Za (fun W (f:Dr w W)=>B7 (j.out.dr f) H p)
 case' false=>cases q:XJ (ZD s k)
 case' false.false=>rcases(by omega:ZD s k=59\/ZD s k=58\/ZD s k=44\/(ZD s k≠59/\ZD s k≠58/\ZD s k≠44))with i|i|i|⟨h5,h6,h7⟩
 case' false.false.inl|false.false.inr.inl|false.false.inr.inr.inl=>rw[i]at p q
 case' false.false.inr.inr.inr=>
  have n5:=l _ h5
  have n6:=l _ h6
  have n7:=l _ h7
  cases S:P9 s k 46 46
 case' false.false.inr.inr.inr.false=>cases B:P9 s k 45 62
 all_goals
  go_enter Tryz.func159,Tryz.ntmps159
  go_wp2_with fail
  go_big_quiet ((fail))
  go_wp2_with (first|(go_at_call 150;refine(Ti _ _).mono ?_;rintro e w' ⟨rfl,rfl⟩;simp only[p])|(go_at_call 188;refine(Tj _ _).mono ?_;rintro e w' ⟨rfl,rfl⟩;simp only[q]))
  try
   first|refine(z.out _ ⟨_,rfl⟩).mono ?_|refine(R.out 46 46 _ _ S ⟨_,rfl⟩).mono ?_
   rintro e w1 ⟨rfl,f⟩
   have g:=Za ((Dr.refl w|>.next nq).trans f)
   clear f
   go_wp2_with fail
  try
   refine(R.out 45 62 _ _ B g.out).mono ?_
   rintro e w2 ⟨rfl,f⟩
   replace g:=Za (g.out.trans f)
   clear f
   have e2:=(j.out.dr g.out).c2
   go_wp2_with fail
 ·exact⟨rfl,(show QB .bad w b s a ts _ _ from⟨rfl,g.out.below b⟩).pre (Below.refl _ _) (by rw[<-E.out];simp[*])⟩
 iterate 2 (refine(TJ 2 2 2 _ _ _ (j.out.dr g.out) (by omega) (by first|exact Jb S|exact Jb B) (by omega) (by rfl) (by rfl) (by rfl)).mono ?_;rotate_left)
 iterate 3 (refine(TJ 2 1 1 _ _ _ (j.out.dr ⟨_,rfl⟩) (by omega) (by omega) (by omega) (by rfl) (by rfl) (by rfl)).mono ?_;rotate_left)
 refine(TJ 1 m 9 _ _ _ (j.out.dr g.out) (Q.out q) t (by omega) (by rfl) (by rfl) (by rfl)).mono ?_
 rotate_left
 refine(HC.out _ ⟨_,rfl⟩).mono ?_
 all_goals
  intro e w3 h
  replace h:=h.pre (y:=x) (by first|exact g.out.below b|exact Dr.below ⟨_,rfl⟩ b) (by rw[<-E.out];simp[*,EV])
  rcases h.fin with rfl|T
  ·go_wp2_with fail
   go_end0
   exact h
  unfold Zj at T
  subst T
  exact⟨rfl,h⟩
def Vn (w:z0)(s:ByteArray)(e:Ending)(w':z0):Prop:=
 match ZL s 0 1 []with
 | .ok ts=>(∃v,e=G v/\w'.ownsRow w.heap.size 263 3 v ts.length (Ys ts)/\ts.length<=s.size+1)/\Below w.heap.size w w'
 | .error l=>e=Zj 2 l/\Below w.heap.size w w'
theorem YI {s k a k' l' ts}(b:k<s.size)(c:Zs s k a=.skip k' l'):ZL s k a ts=ZL s k' l' ts:=by
 rw[ZL,dif_pos b]
 split<;>simp_all
theorem WH {s k a k' t ts}(b:k<s.size)(c:Zs s k a=.tok t k'):ZL s k a ts=ZL s k' a (ts++[t]):=by
 rw[ZL,dif_pos b]
 split<;>simp_all
theorem Xq {s k a ts}(b:k<s.size)(c:Zs s k a=.bad):ZL s k a ts=.error a:=by
 rw[ZL,dif_pos b]
 split<;>simp_all
theorem WI {s k a ts}(b:¬k<s.size):ZL s k a ts=.ok (ts++[⟨3,z7,a⟩]):=by
 rw[ZL,dif_neg b]
theorem wO (w:z0)(s)(a:s.size<=3000):Sc (w.alloc (z4 #[O s,Z U 0,Z U 1,z9 J 0 0] 268)) w.heap.size s 0 1 (z9 J 0 0) []:=by
 refine⟨?_,?_,?_,?_,?_,y2 _ _ _ _,by simp,by simp,by simp,a⟩
 all_goals simp[go_sem]
theorem Aa (s w)(M:s.size<=3000):N D 104 #[O s] w (Vn w s):=by
  obtain⟨i,hi,u,x,y⟩:=info_parts UT
  go_enter Tryz.func104,Tryz.ntmps104
  go_wp2
  go_loopg [18] s.size (fun m _ wr=>∃k a v ts,m=s.size-k/\z1 (Sc wr w.heap.size s k a v ts)/\z1 (Below w.heap.size w wr)/\z1 (ZL s 0 1 []=ZL s k a ts))
  case atStart=>exact⟨0,1,z9 J 0 0,[],rfl,wO w s M,(Below.refl _ _).alloc (z2 _) _,rfl⟩
  obtain⟨k,a,v,ts,rfl,p,G,q⟩:=hrel
  have P:=p.out.c0
  have c1:=p.out.c1
  by_cases b:k<s.size
  · have Q:decide ((k:Int)<(s.size:Int))=true:=by simp;omega
    go_wp2_with fail
    go_big_quiet ((fail))
    go_wp2_with fail
    have j:=Za (G.out.trans (Dr.below ⟨nq,rfl⟩ _))
    refine(B9 w.heap.size s k a v ts _ (p.out.dr ⟨nq,rfl⟩) b).mono ?_
    intro e w2 h
    cases d:Zs s k a with
    | skip k' l'=>
      rw[d]at h
      obtain⟨rfl,⟨v',z⟩,l⟩:=h
      have A:=X5 b d
      go_wp2
      go_roundg (s.size-k')
      case measure=>omega
      exact⟨k',l',v',ts,rfl,z,j.out.trans l,q.out.trans (YI b d)⟩
    | tok t k'=>
      rw[d]at h
      obtain⟨rfl,⟨v',z⟩,l⟩:=h
      have A:=WG b d
      go_wp2
      go_roundg (s.size-k')
      case measure=>omega
      exact⟨k',a,v',ts++[t],rfl,z,j.out.trans l,q.out.trans (WH b d)⟩
    | bad=>
      rw[d]at h
      obtain⟨I,l⟩:=h
      unfold Zj at I
      subst I
      have n:Vn w s (Zj 2 a) w2:=by
        unfold Vn
        rw[q.out.trans (Xq b d)]
        exact⟨rfl,j.out.trans l⟩
      exact⟨rfl,n⟩
  have Q:decide ((k:Int)<(s.size:Int))=false:=by simp;omega
  go_wp2_with fail
  go_big_quiet ((fail))
  go_wp2_with fail
  have B:=p.out.dr (w':=wr.drewN nq) ⟨nq,rfl⟩
  have j:=Za (G.out.trans (Dr.below ⟨nq,rfl⟩ _))
  generalize wr.drewN nq=r at*
  obtain⟨P,c1,K,R,fz,Yr,few,S,ln,sz⟩:=B
  have C:w.heap.size<r.heap.size:=H r _ K
  go_region_held3 (fun w'=>w'.cell? ⟨w.heap.size,2,J⟩=Y (Z U a)/\w'.cell? ⟨w.heap.size,3,J⟩=Y v) (go_keep)
    ((refine step_append_lies _ rfl (.tmp 22) (.tmp 28) 193 rfl (w.heap.size+1) 263 i _ 3 32 Tryz.underlying193 hi u x y rfl (by decide) v ts.length (Ys ts) rfl (by exact(Yr.alloc _).drew) ⟨r.heap.size,0,J⟩ 1 1 [Z U 3,O z7,Z U a] rfl rfl (by exact y0 (heap_alloc_new r _)) (by simp[y6]) (by decide) (by unfold maxLen;omega) (by omega) (by simp;omega) _ rfl (fun g cap w1 f c _ _=>?_)
      obtain⟨E,_,o⟩:=Pw Yr C ((Below.refl _ _).alloc (z2 _) _).drew c
      have d2:=(E 2).trans K
      have d3:=(E 3).trans R
      have T:=Za f
      have V:=Za o
      clear E c f o))
  go_wp2
  go_ret
  unfold Vn
  rw[q.out.trans (WI b)]
  refine⟨⟨_,rfl,?_,by simp;omega⟩,j.out.trans V.out⟩
  have L:=T.out
  rw[T7,z6]
  exact⟨L.1,L.2.imp id (fun⟨g,cap,F,W,h2,h3⟩=>⟨g,cap,F,W,by omega,h3⟩)⟩
def Zn (t:Tk)(m:ByteArray):Bool:=decide (t.sort=2)&&(t.text.toList==m.toList)
def Zo (ts:List Tk)(i:Nat):Tk:=ts.getD i ⟨3,z7,0⟩
def ZF (ts:List Tk)(i:Nat)(m:ByteArray):Except Nat (Unit×Nat):=if Zn (Zo ts i) m then .ok ((),i+1)else .error (Zo ts i).line
def Z9 (ts:List Tk)(i a:Nat):Except Nat (Tk×Nat):=if(Zo ts i).sort=a then .ok (Zo ts i,i+1)else .error (Zo ts i).line
def WX:ByteArray:=⟨#[114,111,117,116,101]⟩
def Ue:ByteArray:=⟨#[114,117,108,101]⟩
def RH:ByteArray:=⟨#[98,105,110]⟩
def Vc:ByteArray:=⟨#[109,99,99]⟩
def Z7:ByteArray:=⟨#[97,109,111,117,110,116]⟩
def Vz:ByteArray:=⟨#[99,117,114]⟩
def YM:ByteArray:=⟨#[100,101,99,108,105,110,101]⟩
def Yj:ByteArray:=⟨#[99,104,101,97,112,101,115,116]⟩
def Vd:ByteArray:=⟨#[59]⟩
def Ty:ByteArray:=⟨#[58]⟩
def Y2:ByteArray:=⟨#[44]⟩
def Ub:ByteArray:=⟨#[46,46]⟩
def T8:ByteArray:=⟨#[45,62]⟩
def UU (ts:List Tk)(i:Nat):Except Nat ((Tk×Tk)×Nat):=
 match Z9 ts i 1 with
 | .error l=>.error l
 | .ok (a,i1)=>match ZF ts i1 Ub with
  | .error l=>.error l
  | .ok (_,i2)=>match Z9 ts i2 1 with
   | .error l=>.error l
   | .ok (b,i3)=>.ok ((a,b),i3)
theorem Up {ts i m}(h:Zn (Zo ts i) m=true):i<ts.length:=by
 rcases x3 i ts.length with a|a
 ·exact a
 exfalso
 unfold Zn Zo at h
 rw[A,List.getElem?_eq_none a]at h
 simp at h
theorem Yt {ts i a t b}(h:Z9 ts i a=.ok (t,b)):t=Zo ts i/\t.sort=a/\b=i+1:=by
 unfold Z9 at h
 split at h
 ·injection h with h;injection h with c d;subst c d;exact⟨rfl,‹_›,rfl⟩
 cases h
def XW (ts:List Tk)(i a:Nat)(b:List Tk):Except Nat (List Tk×Nat):=
 if _h:Zn (Zo ts i) Y2=true then
  match _ht:Z9 ts (i+1) a with
  | .error l=>.error l
  | .ok (t,i')=>XW ts i' a (b++[t])
 else .ok (b,i)
 termination_by ts.length-i
 decreasing_by
  have c:=Up _h
  have d:=(Yt _ht).2.2
  omega
def Xl (ts:List Tk)(i a:Nat):Except Nat (List Tk×Nat):=
 match Z9 ts i a with
 | .error l=>.error l
 | .ok (t,i1)=>XW ts i1 a [t]
structure Fr (S:Nat->Prop)(w w':z0):Prop where
 os:w'.os=w.os
 tape:w'.tape=w.tape
 output:w'.output=w.output
 size:w.heap.size<=w'.heap.size
 block:∀k,k<w.heap.size->¬S k->w'.heap[k]?=w.heap[k]?
abbrev F0:z0->z0->Prop:=Fr (fun(_:Nat)=>False)
theorem Fr.refl (S w):Fr S w w:=⟨rfl,rfl,rfl,z2 _,fun _ _ _=>rfl⟩
theorem Fr.trans {S a b c}(h:Fr S a b)(k:Fr S b c):Fr S a c:=
 ⟨k.os.trans h.os,k.tape.trans h.tape,k.output.trans h.output,x4 h.size k.size,fun i hi d=>(k.block i (M hi h.size) d).trans (h.block i hi d)⟩
theorem Zt {S w}:Fr S w w:=Fr.refl _ _
theorem Fr.mono {S T w w'}(h:Fr S w w')(a:∀k,S k->T k:=by simp):Fr T w w':=⟨h.os,h.tape,h.output,h.size,fun k b c=>h.block k b fun d=>c (a k d)⟩
theorem Fr.monoNew {S T a w w'}(h:Fr S a w)(k:Fr T w w')(c:∀i,T i->S i\/a.heap.size<=i):Fr S a w':=
 ⟨k.os.trans h.os,k.tape.trans h.tape,k.output.trans h.output,x4 h.size k.size,fun i hi b=>
  (k.block i (M hi h.size) fun d=>(c i d).elim b (fun e=>by omega)).trans (h.block i hi b)⟩
theorem Fr.of_below {S w w'}(h:Below w.heap.size w w'):Fr S w w':=⟨h.os,h.tape,h.output,h.size,fun k a _=>h.block k a⟩
theorem Fr.alloc {S a w}(h:Fr S a w)(o):Fr S a (w.alloc o):=
 h.trans (Fr.of_below ((Below.refl _ _).alloc (z2 _) o))
theorem Fr.drew {S a w}(h:Fr S a w):Fr S a w.drew:=h.trans ⟨rfl,rfl,rfl,z2 _,fun _ _ _=>rfl⟩
theorem Fr.setCell {S a w}(h:Fr S a w){p}(c:S p.block\/a.heap.size<=p.block)(u):Fr S a (w.setCell p u):=
 ⟨h.os,h.tape,h.output,by simpa using h.size,fun k d b=>by
  rw[Below.heap_setCell _ _ _ _ (fun e=>by subst e;exact c.elim b (fun f=>by omega))]
  exact h.block k d b⟩
theorem Fr.cell {S w w'}(h:Fr S w w'){p}(a:p.block<w.heap.size)(b:¬S p.block:=by simp):w'.cell? p=w.cell? p:=World.cell?_of_block (w:=w) (h.block p.block a b)
theorem Fr.frozen {S w w'}(h:Fr S w w'){p}(a:p.block<w.heap.size)(b:¬S p.block:=by simp):w'.frozen? p=w.frozen? p:=World.frozen?_of_block (w:=w) (h.block p.block a b)
theorem Fr.below {S w w'}(h:Fr S w w'){B}(c:B<=w.heap.size)(a:∀k,S k->B<=k:=by simp):Below B w w':=
 ⟨h.os,h.tape,h.output,h.size,fun k d=>h.block k (by omega) fun b=>by have:=a k b;omega⟩
def Qc (t:Tk):y5:=x5 #[Z U t.sort,O t.text,Z U t.line]
structure Pa (w:z0)(p g cap:Nat)(ts:List Tk)(i:Nat):Prop where
 c0:w.cell? ⟨p,0,J⟩=Y (z9 (Y ⟨g,0,J⟩) ts.length cap)
 c1:w.cell? ⟨p,1,J⟩=Y (Z U i)
 fz:∀o,w.frozen? ⟨p,o,J⟩=false
 row:∀j t,ts[j]?=Y t->w.cell? ⟨g,j*3,J⟩=Y (Z U t.sort)/\w.cell? ⟨g,j*3+1,J⟩=Y (O t.text)/\w.cell? ⟨g,j*3+2,J⟩=Y (Z U t.line)
 ne:g≠p
 gl:g<w.heap.size
 lt:i<ts.length
 few:ts.length<=4000
 last:(ts.getLastD ⟨3,z7,0⟩).sort=3
theorem VL (w p g cap ts i t)(h:Pa w p g cap ts i)(b:ts[i]?=Y t):
  N D 156 #[X (Y ⟨p,0,J⟩)] w fun e w'=>e=G (Qc t)/\Fr (fun _=>False) w w':=by
 obtain⟨c,c1,f,row,j,k,l,few,a⟩:=h
 obtain⟨m,n,o⟩:=row i t b
 have d:=H w _ c
 have q:(i:Int)<(ts.length:Int):=by omega
 clear row a
 go_enter Tryz.func156,Tryz.ntmps156
 go_wp2_with fail
 go_region_held3 (fun w'=>w'.cell? ⟨p,0,J⟩=Y (z9 (Y ⟨g,0,J⟩) ts.length cap)/\w'.cell? ⟨p,1,J⟩=Y (Z U i)/\w'.cell? ⟨g,i*3,J⟩=Y (Z U t.sort)/\w'.cell? ⟨g,i*3+1,J⟩=Y (O t.text)/\w'.cell? ⟨g,i*3+2,J⟩=Y (Z U t.line)) (go_keep) (fail)
 go_wp2
 exact bodyPost_ret (v:=Qc t) (by simp[results,Tryz.results156,go_sem,Qc]) rfl ⟨rfl,((Fr.refl _ _).alloc _).drew⟩
theorem Pa.fr {w w' p g cap ts i S}(h:Pa w p g cap ts i)(d:Fr S w w')(r:∀k,S k->k≠p/\k≠g:=by simp):Pa w' p g cap ts i:=by
 obtain⟨s,c1,u,row,v,m,x,few,l⟩:=h
 have f:=H w _ s
 have n:¬S p:=fun e=>(r p e).1 rfl
 have q:¬S g:=fun e=>(r g e).2 rfl
 refine⟨?_,?_,fun o=>?_,fun j t y=>?_,v,M m d.size,x,few,l⟩
 ·rw[d.cell (p:=⟨p,0,J⟩) f n];exact s
 ·rw[d.cell (p:=⟨p,1,J⟩) f n];exact c1
 ·rw[d.frozen (p:=⟨p,o,J⟩) f n];exact u o
 obtain⟨a,b,c⟩:=row j t y
 rw[d.cell (p:=⟨g,j*3,J⟩) m q,d.cell (p:=⟨g,j*3+1,J⟩) m q,d.cell (p:=⟨g,j*3+2,J⟩) m q]
 exact⟨a,b,c⟩
theorem Pa.next {w p g cap ts i t}(h:Pa w p g cap ts i)(f:ts[i]?=Y t)(k:t.sort≠3):
  Pa (w.setCell ⟨p,1,J⟩ (Z U (i+1:Nat))) p g cap ts (i+1):=by
 obtain⟨l,c1,m,row,c,n,s,few,a⟩:=h
 refine⟨?_,?_,fun o=>by simp[m o],fun j t q=>?_,c,by simpa using n,?_,few,a⟩
 ·rw[I _ _ _ _ (by simp)];exact l
 ·exact L _ _ _ c1
 ·have b:∀o,(⟨p,1,J⟩:Addr)≠⟨g,o,J⟩:=fun o e=>c (by injection e with r;exact r.symm)
  rw[I _ _ _ _ (b _),I _ _ _ _ (b _),I _ _ _ _ (b _)]
  exact row j t q
 rcases x3 (i+1) ts.length with d|d
 ·exact d
 exfalso
 apply k
 have e:i=ts.length-1:=by omega
 rw[List.getLastD_eq_getLast?,List.getLast?_eq_getElem?,<-e,f]at a
 exact a
theorem SM (w p g cap ts i t m)(h:Pa w p g cap ts i)(f:ts[i]?=Y t)(b:Zn t m=true):
  N D 191 #[X (Y ⟨p,0,J⟩),O m] w fun e w'=>e=G (C true)/\Pa w' p g cap ts (i+1)/\Fr (fun k=>k=p) w w':=by
 unfold Zn at b
 rw[Bool.and_eq_true,decide_eq_true_eq]at b
 obtain⟨n,s⟩:=b
 have c:=Za h
 have d:=H w _ h.c0
 have hi:i<=4000:=by have:=h.lt;have:=h.few;omega
 have o:=Za (VL w p g cap ts i t h f)
 go_enter Tryz.func191,Tryz.ntmps191
 go_wp2_with fail
 refine o.out.mono ?_
 rintro e q ⟨rfl,a⟩
 have c1:=(c.out.fr a).c1
 have u:=(c.out.fr a).fz
 have r:p<q.heap.size:=M d a.size
 have j:=Za a
 simp only[Qc]
 simp only[n]
 go_wp2
 go_ret
 have l:=((c.out.fr j.out).next f (by omega)).fr (S:=fun _=>False) ((Fr.refl _ _).alloc (z4 #[Z U 2,O t.text,Z U t.line] 263))
 rw[z5]at l
 exact⟨rfl,l,((j.out.mono (T:=fun k=>k=p)).setCell (z3 rfl) _).alloc _⟩
theorem QC (w p g cap ts i t m)(h:Pa w p g cap ts i)(l:ts[i]?=Y t)(n:Zn t m=false):
  N D 191 #[X (Y ⟨p,0,J⟩),O m] w fun e w'=>e=G (C false)/\Fr (fun _=>False) w w':=by
 unfold Zn at n
 by_cases o:t.sort=2
 ·have q:(t.text.toList==m.toList)=false:=by simpa[o]using n
  have c:=Za h
  have b:=H w _ h.c0
  have hi:i<=4000:=by have:=h.lt;have:=h.few;omega
  have d:=Za (VL w p g cap ts i t h l)
  go_enter Tryz.func191,Tryz.ntmps191
  go_wp2_with fail
  refine d.out.mono ?_
  rintro e f ⟨rfl,a⟩
  have c1:=(c.out.fr a).c1
  have r:=(c.out.fr a).fz
  have j:p<f.heap.size:=M b a.size
  have k:=Za a
  simp only[Qc]
  simp only[o]
  go_wp2
  go_ret
  exact⟨rfl,k.out.alloc _⟩
 have q:((t.sort:Int) !=2)=true:=by simp;omega
 have c:=Za h
 have b:=H w _ h.c0
 have hi:i<=4000:=by have:=h.lt;have:=h.few;omega
 have d:=Za (VL w p g cap ts i t h l)
 go_enter Tryz.func191,Tryz.ntmps191
 go_wp2_with fail
 refine d.out.mono ?_
 rintro e f ⟨rfl,a⟩
 have c1:=(c.out.fr a).c1
 have r:=(c.out.fr a).fz
 have j:p<f.heap.size:=M b a.size
 have k:=Za a
 simp only[Qc]
 go_wp2
 go_ret
 exact⟨rfl,k.out.alloc _⟩
theorem YE (t)(a:Nat)(b:Int)(w)(c:b=a):
  N D 194 #[Qc t,Z U b] w fun e w'=>e=Zj a t.line/\Fr (fun _=>False) w w':=by
 subst c
 unfold Qc
 go_enter Tryz.func194,Tryz.ntmps194
 go_wp2
 exact⟨rfl,rfl,(Fr.refl _ _).alloc _⟩
theorem G7 (w p g cap ts i t m)(h:Pa w p g cap ts i)(a:ts[i]?=Y t)(b:Zn t m=true):
  N D 158 #[X (Y ⟨p,0,J⟩),O m] w fun e w'=>e=G (.tuple #[])/\Pa w' p g cap ts (i+1)/\Fr (fun k=>k=p) w w':=by
 go_enter Tryz.func158,Tryz.ntmps158
 go_wp2_with (go_at_call 191;refine(SM w p g cap ts i t m h a b).mono ?_;rintro e f ⟨rfl,c,d⟩)
 go_end0
 exact⟨rfl,c,d⟩
theorem D4 (w p g cap ts i t m)(h:Pa w p g cap ts i)(b:ts[i]?=Y t)(j:Zn t m=false):
  N D 158 #[X (Y ⟨p,0,J⟩),O m] w fun e w'=>e=Zj 3 t.line/\Fr (fun _=>False) w w':=by
 have c:=Za h
 go_enter Tryz.func158,Tryz.ntmps158
 go_wp2_with (go_at_call 191;refine(QC w p g cap ts i t m c.out b j).mono ?_;rintro e l ⟨rfl,a⟩;have d:=Za a)
 refine(VL _ p g cap ts i t (c.out.fr d.out) b).mono ?_
 rintro e w2 ⟨rfl,a⟩
 have k:=Za (d.out.trans a)
 go_wp2_with fail
 refine(YE t 3 _ _ (by rfl)).mono ?_
 rintro e n ⟨f,a⟩
 unfold Zj at f
 subst f
 exact⟨rfl,rfl,k.out.trans a⟩
theorem Ab (w p g cap ts i t a)(m:Int)(h:Pa w p g cap ts i)(j:ts[i]?=Y t)(q:t.sort=a)(z:a≠3)(r:m=a):
    N D 229 #[X (Y ⟨p,0,J⟩),Z U m] w fun e w'=>e=G (Qc t)/\Pa w' p g cap ts (i+1)/\Fr (fun k=>k=p) w w':=by
  subst r
  have d:=Za h
  have l:=H w _ h.c0
  have hi:i<=4000:=by have:=h.lt;have:=h.few;omega
  have A:=Za (VL w p g cap ts i t h j)
  go_enter Tryz.func229,Tryz.ntmps229
  go_wp2_with fail
  refine(VL _ p g cap ts i t (d.out.fr (S:=fun _=>False) ((Fr.refl _ _).alloc _)) j).mono ?_
  rintro e b ⟨rfl,c⟩
  have f:=Za (((Fr.refl _ _).alloc _).trans c)
  have c1:=(d.out.fr f.out).c1
  have B:=(d.out.fr f.out).fz
  have s:p<b.heap.size:=M l f.out.size
  have C:w.heap.size<b.heap.size:=by have:=c.size;simp at this;omega
  have E:b.cell? ⟨w.heap.size,0,J⟩=Y (Z U 0):=by rw[c.cell (p:=⟨w.heap.size,0,J⟩) (by simp)];simp[go_sem]
  have F:b.cell? ⟨w.heap.size,1,J⟩=Y (O z7):=by rw[c.cell (p:=⟨w.heap.size,1,J⟩) (by simp)];simp[go_sem];rfl
  have I:b.cell? ⟨w.heap.size,2,J⟩=Y (Z U 0):=by rw[c.cell (p:=⟨w.heap.size,2,J⟩) (by simp)];simp[go_sem]
  have K:∀o,b.frozen? ⟨w.heap.size,o,J⟩=false:=fun o=>by rw[c.frozen (p:=⟨w.heap.size,o,J⟩) (by simp)];simp[go_sem]
  have u:¬p=w.heap.size:=by omega
  have x:¬w.heap.size=p:=by omega
  simp only[Qc,q]
  go_wp2
  have y:=d.out.gl
  have n:=((d.out.fr f.out).next j (by omega)).fr (S:=fun k=>k=w.heap.size)
    (((((Fr.refl (fun k=>k=w.heap.size) _).setCell (p:=⟨w.heap.size,0,J⟩) (z3 rfl) (Z U a)).setCell (p:=⟨w.heap.size,1,J⟩) (z3 rfl) (O t.text)).setCell (p:=⟨w.heap.size,2,J⟩) (z3 rfl) (Z U t.line)).alloc (z4 #[Z U a,O t.text,Z U t.line] 263)) (fun k L=>by omega)
  rw[z5]at n
  exact bodyPost_ret (v:=Qc t) (by simp[results,Tryz.results229,go_sem,Qc, *]) rfl ⟨rfl,n,
    (((((f.out.mono (T:=fun k=>k=p)).setCell (z3 rfl) _).setCell (x0 (z2 _)) _).setCell (x0 (z2 _)) _).setCell (x0 (z2 _)) _).alloc _⟩
theorem yI (w p g cap ts i t a)(c:Int)(h:Pa w p g cap ts i)(f:ts[i]?=Y t)(n:t.sort≠a)(j:c=a):
  N D 229 #[X (Y ⟨p,0,J⟩),Z U c] w fun e w'=>e=Zj 3 t.line/\Fr (fun _=>False) w w':=by
 subst j
 have o:((t.sort:Int) !=(a:Int))=true:=by simp;omega
 have k:=Za h
 have l:=H w _ h.c0
 go_enter Tryz.func229,Tryz.ntmps229
 go_wp2_with fail
 refine(VL _ p g cap ts i t (k.out.fr (S:=fun _=>False) ((Fr.refl _ _).alloc _)) f).mono ?_
 rintro e q ⟨rfl,b⟩
 have m:=Za (((Fr.refl _ _).alloc _).trans b)
 simp only[Qc]
 go_wp2_with fail
 refine(YE t 3 _ _ (by rfl)).mono ?_
 rintro e r ⟨d,b⟩
 unfold Zj at d
 subst d
 exact⟨rfl,rfl,(m.out.alloc _).trans b⟩
def Zm {α:Type}(r:Except Nat (α×Nat))(b:α->y5->z0->Prop)(w:z0)(p g cap:Nat)(ts:List Tk)(e:Ending)(w':z0):Prop:=
 match r with
 | .ok (a,i)=>(∃v,e=G v/\b a v w')/\Pa w' p g cap ts i/\Fr (fun k=>k=p) w w'
 | .error l=>e=Zj 3 l/\Fr (fun k=>k=p) w w'
theorem Zm.ok {α r b w p g cap ts e w'}{a:α}{i}(c:r=.ok (a,i)):
  Zm r b w p g cap ts e w'↔(∃v,e=G v/\b a v w')/\Pa w' p g cap ts i/\Fr (fun k=>k=p) w w':=by subst c;exact Iff.rfl
theorem Zm.err {α}{r:Except Nat (α×Nat)}{a w p g cap ts e w' l}(b:r=.error l):
  Zm r a w p g cap ts e w'↔e=Zj 3 l/\Fr (fun k=>k=p) w w':=by subst b;exact Iff.rfl
theorem Pa.at {w p g cap ts i}(h:Pa w p g cap ts i):ts[i]?=Y (Zo ts i):=by
 unfold Zo
 rw[A,z8 h.lt]
 rfl
theorem VM (w p g cap ts)(i a:Nat)(c:Int)(h:Pa w p g cap ts i)(j:a≠3)(f:c=a):
  N D 229 #[X (Y ⟨p,0,J⟩),Z U c] w (Zm (Z9 ts i a) (fun t v _=>v=Qc t) w p g cap ts):=by
 by_cases d:(Zo ts i).sort=a
 ·exact(Ab w p g cap ts i (Zo ts i) a c h h.at d j f).mono fun e w' b=>(Zm.ok (by unfold Z9;rw[if_pos d])).2 ⟨⟨_,b.1,rfl⟩,b.2⟩
 exact(yI w p g cap ts i (Zo ts i) a c h h.at d f).mono fun e w' b=>(Zm.err (by unfold Z9;rw[if_neg d])).2 ⟨b.1,b.2.mono⟩
theorem Uf (w p g cap ts i m)(h:Pa w p g cap ts i):
  N D 158 #[X (Y ⟨p,0,J⟩),O m] w (Zm (ZF ts i m) (fun _ v _=>v=.tuple #[]) w p g cap ts):=by
 cases b:Zn (Zo ts i) m with
 |true=>exact(G7 w p g cap ts i (Zo ts i) m h h.at b).mono fun e w' a=>(Zm.ok (by unfold ZF;rw[if_pos b])).2 ⟨⟨_,a.1,rfl⟩,a.2⟩
 |false=>exact(D4 w p g cap ts i (Zo ts i) m h h.at b).mono fun e w' a=>(Zm.err (by unfold ZF;rw[b];rfl)).2 ⟨a.1,a.2.mono⟩
theorem ZC {w:z0}{g a t}(h:w.heap[g]?=Y (z4 a t))(j v)(b:a[j]?=Y v):w.cell? ⟨g,j,J⟩=Y v:=by
 rw[cell_of_row w g j a t (0,0) h];exact b
theorem Zc {w:z0}{g a t}(h:w.heap[g]?=Y (z4 a t))(j){v}(b:a[j]?=Y v:=by exact rfl):w.cell? ⟨g,j,J⟩=Y v:=ZC h j v b
theorem Xr {w:z0}{g a t}(h:w.heap[g]?=Y (z4 a t))(j):w.frozen? ⟨g,j,J⟩=false:=by
 simp[World.frozen?,h]
theorem Fr.whole {S w w'}(h:Fr S w w'){g o}(b:w.heap[g]?=Y o)(c:¬S g:=by simp):w'.heap[g]?=Y o:=by
 have a:g<w.heap.size:=(Array.getElem?_eq_some_iff.1 b).1
 rw[h.block g a c];exact b
def UV (a:Tk×Tk):y5:=x5 #[Z U a.1.sort,O a.1.text,Z U a.1.line,Z U a.2.sort,O a.2.text,Z U a.2.line]
theorem Ig (w p g cap ts i)(h:Pa w p g cap ts i):
  N D 230 #[X (Y ⟨p,0,J⟩)] w (Zm (UU ts i) (fun ab v _=>v=UV ab) w p g cap ts):=by
 have HP:=Za h
 have G:p<w.heap.size:=H w _ h.c0
 go_enter Tryz.func230,Tryz.ntmps230
 go_wp2_with fail
 refine(VM _ p g cap ts i 1 _ (HP.out.fr (S:=fun _=>False) (Zt.alloc _)) (by decide) (by rfl)).mono ?_
 intro e f n
 cases B:Z9 ts i 1 with
 |error l=>
  obtain⟨o,b⟩:=(Zm.err B).1 n
  unfold Zj at o
  subst o
  exact⟨rfl,(Zm.err (by unfold UU;rw[B])).2 ⟨rfl,(Zt.alloc _).trans b⟩⟩
 |ok r=>
  obtain⟨a,i1⟩:=r
  obtain⟨⟨v,rfl,rfl⟩,I,b⟩:=(Zm.ok B).1 n
  have L:=Za I
  have s:=Za ((Zt.alloc _).trans b)
  have P:=Za (b.whole (heap_alloc_new w _) (by omega))
  have f0:p<f.heap.size:=M G s.out.size
  have g0:w.heap.size<f.heap.size:=by have:=b.size;simp at this;omega
  have t:=Za B
  simp only[Qc]
  go_wp2_with fail
  refine(Uf _ p g cap ts i1 Ub (L.out.fr (S:=fun _=>False) (Zt.alloc _))).mono ?_
  intro e w2 n
  cases C:ZF ts i1 Ub with
  |error l=>
   obtain⟨o,b⟩:=(Zm.err C).1 n
   unfold Zj at o
   subst o
   exact⟨rfl,(Zm.err (by unfold UU;rw[t.out];simp only;rw[C])).2 ⟨rfl,s.out.trans ((Zt.alloc _).trans b)⟩⟩
  |ok r=>
   obtain⟨u,i2⟩:=r
   obtain⟨⟨v,rfl,rfl⟩,Q,b⟩:=(Zm.ok C).1 n
   have R:=Za Q
   have y:=Za (s.out.trans ((Zt.alloc _).trans b))
   have E:=Za (b.whole (heap_alloc_new f _) (by omega))
   have T:=Za (b.whole (((Fr.refl (fun _=>False) _).alloc _).whole P.out) (by omega))
   have z:=Za C
   have a0:=Zc E.out 0
   have a1:=Zc E.out 1
   have a2:=Zc E.out 2
   go_wp2_with fail
   refine wp_region_held_drew (S:=fun w'=>w'.cell? ⟨f.heap.size,0,J⟩=Y (Z U a.sort)/\w'.cell? ⟨f.heap.size,1,J⟩=Y (O a.text)/\w'.cell? ⟨f.heap.size,2,J⟩=Y (Z U a.line)) (by kernel_rfl) ?_ (fun q=>?_)
   ·exact⟨by simpa using a0,by simpa using a1,by simpa using a2⟩
   refine ZY 0 q ?_
   go_frame
   refine ZY 1 q ?_
   go_frame
   refine Vy 2 (fun K V=>?_)
   go_simp
   refine(VM _ p g cap ts i2 1 _ (R.out.fr (S:=fun _=>False) Zt.drew) (by decide) (by rfl)).mono ?_
   intro e W n
   cases m:Z9 ts i2 1 with
   |error l=>
    obtain⟨o,b⟩:=(Zm.err m).1 n
    unfold Zj at o
    subst o
    exact⟨rfl,(Zm.err (by unfold UU;rw[t.out];simp only;rw[z.out];simp only;rw[m])).2 ⟨rfl,y.out.trans (Zt.drew.trans b)⟩⟩
   |ok r=>
    obtain⟨c,i3⟩:=r
    obtain⟨⟨v,rfl,rfl⟩,b0,b⟩:=(Zm.ok m).1 n
    have d0:=Za b0
    have e0:=Za (y.out.trans (Zt.drew.trans b))
    have x:=b.whole (g:=f.heap.size) E.out (by omega)
    have d:=b.whole (g:=w.heap.size) T.out (by omega)
    have A:=Za m
    refine V.out _ _ ⟨Zc x 0,Zc x 1,Zc x 2⟩ (fun q=>?_)
    have r0:=Zc d 0
    have r1:=Zc d 1
    have r2:=Zc d 2
    have r3:=Zc d 3
    have r4:=Zc d 4
    have r5:=Zc d 5
    have rf:=Xr d
    simp only[Qc]
    try go_frame
    refine ZY 3 q ?_
    go_frame
    refine Vy 4 (fun K V=>?_)
    go_simp
    have F:=((((((Fr.refl (fun k=>k=w.heap.size) W).setCell (p:=⟨w.heap.size,0,J⟩) (z3 rfl) (Z U a.sort)).setCell (p:=⟨w.heap.size,1,J⟩) (z3 rfl) (O a.text)).setCell (p:=⟨w.heap.size,2,J⟩) (z3 rfl) (Z U a.line)).setCell (p:=⟨w.heap.size,3,J⟩) (z3 rfl) (Z U c.sort)).setCell (p:=⟨w.heap.size,4,J⟩) (z3 rfl) (O c.text)).setCell (p:=⟨w.heap.size,5,J⟩) (z3 rfl) (Z U c.line)
    have j:f.heap.size<W.heap.size:=H W _ q.1
    have HW:=Za F
    refine V.out _ _ ⟨(F.cell (p:=⟨f.heap.size,0,J⟩) j (by simp;omega)).trans q.1,(F.cell (p:=⟨f.heap.size,1,J⟩) j (by simp;omega)).trans q.2.1,(F.cell (p:=⟨f.heap.size,2,J⟩) j (by simp;omega)).trans q.2.2⟩ (fun _=>?_)
    try go_frame
    refine wpAnyH_done (by kernel_rfl) ?_ _
    go_wp2
    have h0:=HP.out.gl
    have hn:=d0.out.fr HW.out (fun k hk=>by omega)
    exact bodyPost_ret (v:=UV (a,c)) (by simp[results,Tryz.results230,go_sem,UV, *]) rfl ((Zm.ok (by unfold UU;rw[t.out];simp only;rw[z.out];simp only;rw[A.out])).2 ⟨⟨_,rfl,rfl⟩,hn,e0.out.monoNew HW.out (fun k hk=>by omega)⟩)
theorem T9 {w w' S base e a v n f}(h:w.ownsRow base e a v n f)(i:Fr S w w')(j:∀k,S k->k<base:=by simp):w'.ownsRow base e a v n f:=by
 refine⟨h.1,?_⟩
 rcases h.2 with l|⟨g,cap,c,rfl,m,d,b⟩
 ·exact .inl l
 refine .inr ⟨g,cap,c,rfl,m,?_,b⟩
 exact i.whole d (fun o=>by have:=j g o;omega)
theorem Je {w:z0}{base a e b v n d}(h:w.ownsRow base e b v n d)(j:a<=base):w.ownsRow a e b v n d:=
 ⟨h.1,h.2.imp id (fun⟨g,cap,c,f,k,i⟩=>⟨g,cap,c,f,by omega,i⟩)⟩
theorem Fr.grown {S a w w' row}(h:Fr S a w)(b:w.grownBy w' row)(c:∀k,row=Y k->S k\/a.heap.size<=k):Fr S a w':=
 h.monoNew (T:=fun k=>row=Y k) ⟨b.os,b.tape,b.output,b.size,fun k d f=>b.block k d (fun e=>f e.symm)⟩ c
theorem VA (w a):z1 (Fr (fun _=>False) w (w.alloc a))/\z1 ((w.alloc a).heap[w.heap.size]?=Y a):=⟨Zt.alloc _,heap_alloc_new w _⟩
theorem sy (w a):∃W,z1 (w.alloc a=W)/\z1 (Fr (fun _=>False) w W)/\z1 (W.heap[w.heap.size]?=Y a):=⟨_,rfl,VA w a⟩
theorem SE (w a b):z1 (Fr (fun _=>False) w ((w.alloc a).alloc b))/\z1 (((w.alloc a).alloc b).heap[w.heap.size]?=Y a)/\z1 (((w.alloc a).alloc b).heap[w.heap.size+1]?=Y b):=
 ⟨(VA w a).1.out.alloc _,(VA _ b).1.out.whole (heap_alloc_new w _),by have e:=heap_alloc_new (w.alloc a) b;rw[show(w.alloc a).heap.size=w.heap.size+1 from by simp]at e;exact e⟩
theorem xX (w a b c):z1 (Fr (fun _=>False) w (((w.alloc a).alloc b).alloc c))/\z1 ((((w.alloc a).alloc b).alloc c).heap[w.heap.size]?=Y a)/\z1 ((((w.alloc a).alloc b).alloc c).heap[w.heap.size+1]?=Y b)/\z1 ((((w.alloc a).alloc b).alloc c).heap[w.heap.size+1+1]?=Y c):=
 ⟨(SE w a b).1.out.alloc _,(VA _ c).1.out.whole (SE w a b).2.1.out,(VA _ c).1.out.whole (SE w a b).2.2.out,by have e:=(SE (w.alloc a) b c).2.2.out;rw[show(w.alloc a).heap.size=w.heap.size+1 from by simp]at e;exact e⟩
theorem Lt (w a):Fr (fun _=>False) w (w.alloc a)/\(w.alloc a).heap[w.heap.size]?=Y a:=VA w a
theorem Ih (w a b):Fr (fun _=>False) w ((w.alloc a).alloc b)/\((w.alloc a).alloc b).heap[w.heap.size]?=Y a/\((w.alloc a).alloc b).heap[w.heap.size+1]?=Y b:=SE w a b
theorem Ac (w a b c):Fr (fun _=>False) w (((w.alloc a).alloc b).alloc c)/\(((w.alloc a).alloc b).alloc c).heap[w.heap.size]?=Y a/\(((w.alloc a).alloc b).alloc c).heap[w.heap.size+1]?=Y b/\(((w.alloc a).alloc b).alloc c).heap[w.heap.size+1+1]?=Y c:=xX w a b c
def uL:Nat->List Bool->Nat->Option Nat
 |_,[],_=>J
 |n,true::r,k=>uL n r (k+1)
 |0,false::_,k=>Y k
 |n+1,false::r,k=>uL n r (k+1)
theorem YP {P l Q f S}(n){i e v d b a w}(j:S w)(h:wpAnyH P f l.toArray Q S d (b.setIfInBounds i true) (a.put e.dst v) w)(_:uL n b.toList 0=Y i:=by rfl)(hi:B4 l i=Y e:=by rfl)(k:Region.noSelect l.toArray=true:=by kernel_rfl)(m:Region.free f l.toArray b i=true:=by kernel_rfl)(o:(Region.ready f l.toArray b).contains i=true:=by kernel_rfl)(p:∀c a w,Q (.panic c) (a.put e.dst v) w->Q (.panic c) a w:=by exact fun _ _ _ h=>h)(g:Region.wanted e (yielded l.toArray a.tmps)=true:=by rfl)(q:∀w,S w->(execOp a.eval e).run P w=.ok (.value v) w:=by(intro w g;(try dsimp only at g);go_simp;with_reducible rfl)):wpAnyH P f l.toArray Q S (d+1) b a w:=
 TI i hi k m o p g q j h
theorem wP {P l Q e S}(n){i f d b a w}(g:S w)(h:wpAnyH P e l.toArray Q S d (b.setIfInBounds i true) (a.put f.dst undef) w)(_:uL n b.toList 0=Y i:=by rfl)(hi:B4 l i=Y f:=by rfl)(j:Region.noSelect l.toArray=true:=by kernel_rfl)(k:Region.free e l.toArray b i=true:=by kernel_rfl)(m:(Region.ready e l.toArray b).contains i=true:=by kernel_rfl)(o:∀c a w,Q (.panic c) (a.put f.dst undef) w->Q (.panic c) a w:=by exact fun _ _ _ h=>h)(p:Region.wanted f (yielded l.toArray a.tmps)=false:=by rfl):wpAnyH P e l.toArray Q S (d+1) b a w:=
 wpAnyH_take ((Jd l i).trans hi) j k m o (x0 ⟨p,rfl⟩) g h
theorem Ad {ts i a b}(h:Zn (Zo ts i) Y2=false):XW ts i a b=.ok (b,i):=by
 rw[XW,dif_neg (by simp[h])]
theorem D5 {ts i a b l}(h:Zn (Zo ts i) Y2=true)(c:Z9 ts (i+1) a=.error l):XW ts i a b=.error l:=by
 rw[XW,dif_pos h];split<;>simp_all
theorem Ae {ts i a b t c}(h:Zn (Zo ts i) Y2=true)(d:Z9 ts (i+1) a=.ok (t,c)):XW ts i a b=XW ts c a (b++[t]):=by
 rw[XW,dif_pos h];split<;>simp_all
theorem Nl (w p g cap ts)(i b:Nat)(i1:Int)(h:Pa w p g cap ts i)(hw:b≠3)(e1:i1=b):
  N D 231 #[X (Y ⟨p,0,J⟩),Z U i1] w (Zm (Xl ts i b) (fun l v w'=>w'.ownsRow w.heap.size 263 3 v l.length (Ys l)) w p g cap ts):=by
 subst e1
 have HP:=Za h
 have m0:p<w.heap.size:=H w _ h.c0
 have j0:ts.length<=4000:=h.few
 obtain⟨ii,hi,M,P,Q⟩:=info_parts UT
 go_enter Tryz.func231,Tryz.ntmps231
 go_wp2_with fail
 refine(VM _ p g cap ts i b _ HP.out hw (by rfl)).mono ?_
 intro e w1 x
 cases y:Z9 ts i b with
 |error l=>
  obtain⟨z,f⟩:=(Zm.err y).1 x
  unfold Zj at z
  subst z
  exact⟨rfl,(Zm.err (by unfold Xl;rw[y])).2 ⟨rfl,f⟩⟩
 |ok r=>
  obtain⟨a,K⟩:=r
  obtain⟨⟨v,rfl,rfl⟩,R,f⟩:=(Zm.ok y).1 x
  have T:=Za R
  have A:=Za f
  have V:z1 (Xl ts i b=XW ts K b [a]):=by show _=_;unfold Xl;rw[y]
  have n0:=(Yt y).2.2
  have HJ:z1 (1<=K):=by show _<=_;omega
  simp only[Qc]
  go_wp2_with fail
  go_loopg [5] (ts.length-K) (fun m l wr=>∃j d,m=ts.length-j/\z1 (Pa wr p g cap ts j)/\z1 (Fr (fun k=>k=p) w wr)/\z1 (wr.ownsRow w.heap.size 263 3 l d.length (Ys d))/\z1 (d.length<=j)/\z1 (Xl ts i b=XW ts j b d))
  case atStart=>
   refine⟨K,[a],rfl,T.out.fr (S:=fun _=>False) (Zt.alloc _),A.out.alloc _,?_,HJ.out,V.out⟩
   exact World.ownsRow_lit (base:=w.heap.size) w1 #[Z U a.sort,O a.text,Z U a.line] 1 A.out.size (by unfold maxLen;decide) rfl
  obtain⟨j,d,rfl,o,B,HO,HL,W⟩:=hrel
  cases L:Zn (Zo ts j) Y2 with
  |false=>
   go_wp2_with fail
   refine(QC wr p g cap ts j _ Y2 o.out o.out.at L).mono ?_
   rintro e w2 ⟨rfl,f⟩
   have n:=Za f
   go_wp2
   go_ret
   exact(Zm.ok (W.out.trans (Ad L))).2 ⟨⟨_,rfl,T9 HO.out n.out⟩,o.out.fr n.out,B.out.trans (n.out.mono)⟩
  |true=>
   go_wp2_with fail
   refine(SM wr p g cap ts j _ Y2 o.out o.out.at L).mono ?_
   rintro e w2 ⟨rfl,C,f⟩
   have a0:=Za C
   have n:=Za (B.out.trans f)
   have b0:=Za (T9 HO.out f (fun k t=>by omega))
   have E:=Za L
   have o0:j+1<ts.length:=C.lt
   go_wp2_with fail
   refine(VM _ p g cap ts (j+1) b _ a0.out hw (by rfl)).mono ?_
   intro e w3 x
   cases q:Z9 ts (j+1) b with
   |error l=>
    obtain⟨z,f⟩:=(Zm.err q).1 x
    unfold Zj at z
    subst z
    exact⟨rfl,(Zm.err (W.out.trans (D5 E.out q))).2 ⟨rfl,n.out.trans f⟩⟩
   |ok r=>
    obtain⟨c,j3⟩:=r
    obtain⟨⟨v,rfl,rfl⟩,d0,f⟩:=(Zm.ok q).1 x
    have e0:=Za d0
    have F:=Za (n.out.trans f)
    have G:=Za (T9 b0.out f (fun k t=>by omega))
    have p0:=(Yt q).2.2
    have f0:=Za (W.out.trans (Ae E.out q))
    have k0:=HL.out
    simp only[Qc]
    go_wp2_with (at_builtin;refine wpList_append_lies _ rfl (.tmp 12) (.tmp 16) 193 rfl w.heap.size 263 ii _ 3 32 Tryz.underlying193 hi M P Q rfl (by decide) _ d.length (Ys d) rfl ?h1 ⟨w3.heap.size,0,J⟩ 1 1 [Z U c.sort,O c.text,Z U c.line] rfl rfl ?h2 ?h3 (by decide) ?h4 ?h5 ?h6 _ rfl ?h7)
    case h1=>exact G.out.alloc _
    case h2=>exact y0 (heap_alloc_new w3 _)
    case h3=>simp[y6]
    case h4=>unfold maxLen;omega
    case h5=>omega
    case h6=>simp;have:=F.out.size;omega
    intro g2 l0 w4 I s _ _
    have g0:=Za I
    have u:∀k,u5.ownBlock=Y k->w.heap.size<=k:=fun k t=>(G.out.lt k t).1
    have h0:=Za ((F.out.alloc _).grown s (fun k t=>x0 (u k t)))
    have q0:=HP.out.gl
    have i0:=Za (e0.out.fr (S:=fun k=>w.heap.size<=k) ((Zt.alloc _).grown s (fun k t=>z3 (u k t))) (fun k t=>by omega))
    go_wp2
    go_roundg (ts.length-j3)
    case measure=>omega
    refine⟨j3,d++[c],rfl,i0.out,h0.out,?_,?_,f0.out⟩
    ·show World.ownsRow _ _ _ _ _ _ _
     rw[T7,z6];exact g0.out
    show _<=_
    simp;omega
def YU {α β:Type}(r:Except Nat (α×Nat))(f:α->Nat->Except Nat (β×Nat)):Except Nat (β×Nat):=
 match r with
 | .error l=>.error l
 | .ok (a,i)=>f a i
theorem Zh {α β r}{f:α->Nat->Except Nat (β×Nat)}{a i}(h:r=.ok (a,i)):YU r f=f a i:=by rw[h];rfl
theorem Yc {α β r}{f:α->Nat->Except Nat (β×Nat)}{l}(h:r=.error l):YU r f=.error l:=by rw[h];rfl
structure Nm where
 name:Tk
 base:Tk
 rate:Tk
structure D6 where
 decline:Bool
 cheapest:Bool
 routes:List Tk
structure QD where
 name:Tk
 rank:Tk
 bin:Tk×Tk
 mcc:List Tk
 amount:Option (Tk×Tk)
 cur:List Tk
 act:D6
inductive Vu where
 |route (r:Nm)
 |rule (r:QD)
def WJ (ts:List Tk)(i:Nat):Except Nat (Nm×Nat):=
 YU (Z9 ts i 0) fun name i=>YU (Z9 ts i 1) fun base i=>YU (Z9 ts i 1) fun a i=>.ok (⟨name,base,a⟩,i)
def Xh (ts:List Tk)(i:Nat)(kw:ByteArray):Except Nat (List Tk×Nat):=if Zn (Zo ts i) kw then Xl ts (i+1) 1 else .ok ([],i)
def Wv (ts:List Tk)(i:Nat)(kw:ByteArray):Except Nat (Option (Tk×Tk)×Nat):=if Zn (Zo ts i) kw then YU (UU ts (i+1)) fun a i=>.ok (Y a,i)else .ok (J,i)
def Xi (ts:List Tk)(i:Nat):Except Nat (D6×Nat):=
 if Zn (Zo ts i) YM then .ok (⟨true,false,[]⟩,i+1)
 else if Zn (Zo ts i) Yj then YU (Xl ts (i+1) 0) fun l i=>.ok (⟨false,true,l⟩,i)
 else YU (Xl ts i 0) fun l i=>.ok (⟨false,false,l⟩,i)
def Wk (ts:List Tk)(i:Nat):Except Nat (QD×Nat):=
 YU (Z9 ts i 0) fun name i=>YU (Z9 ts i 1) fun b i=>YU (ZF ts i Ty) fun _ i=>YU (ZF ts i RH) fun _ i=>
 YU (UU ts i) fun c i=>YU (Xh ts i Vc) fun d i=>YU (Wv ts i Z7) fun a i=>YU (Xh ts i Vz) fun e i=>
 YU (ZF ts i T8) fun _ i=>YU (Xi ts i) fun f i=>.ok (⟨name,b,c,d,a,e,f⟩,i)
def ZV (ts:List Tk)(i:Nat):Except Nat (Vu×Nat):=
 if Zn (Zo ts i) WX then YU (WJ ts (i+1)) fun r i=>.ok (.route r,i)
 else YU (ZF ts i Ue) fun _ i=>YU (Wk ts i) fun r i=>.ok (.rule r,i)
theorem Ym {w:z0}{g a t}(h:w.heap[g]?=Y (z4 a t))(j u):(w.setCell ⟨g,j,J⟩ u).heap[g]?=Y (z4 (a.setIfInBounds j u) t):=by
 simp[World.setCell,Array.getElem?_modify,h]
theorem SN (w:z0)(a b):((w.alloc a).alloc b).heap[w.heap.size+1]?=Y b:=by
 have h:(w.alloc a).heap.size=w.heap.size+1:=by simp
 rw[<-h];exact heap_alloc_new _ _
def UH (w:z0)(g j:Nat)(t:Tk):z0:=((w.setCell ⟨g,j,J⟩ (Z U t.sort)).setCell ⟨g,j+1,J⟩ (O t.text)).setCell ⟨g,j+2,J⟩ (Z U t.line)
theorem Ww (w g j t):Fr (fun k=>k=g) w (UH w g j t):=
  (((Fr.refl (fun k=>k=g) w).setCell (p:=⟨g,j,J⟩) (z3 rfl) _).setCell (p:=⟨g,j+1,J⟩) (z3 rfl) _).setCell (p:=⟨g,j+2,J⟩) (z3 rfl) _
theorem VB {w g a t}(h:w.heap[g]?=Y (z4 a t))(j x):
  (UH w g j x).heap[g]?=Y (z4 (((a.setIfInBounds j (Z U x.sort)).setIfInBounds (j+1) (O x.text)).setIfInBounds (j+2) (Z U x.line)) t):=
 Ym (Ym (Ym h j _) (j+1) _) (j+2) _
def UW (r:Nm):y5:=x5 #[Z U r.name.sort,O r.name.text,Z U r.name.line,Z U r.base.sort,O r.base.text,Z U r.base.line,Z U r.rate.sort,O r.rate.text,Z U r.rate.line]
def EW:Array y5:=#[Z U 0,O ⟨#[]⟩,Z U 0,Z U 0,O ⟨#[]⟩,Z U 0,Z U 0,O ⟨#[]⟩,Z U 0]
theorem D7 (w p g cap ts i)(h:Pa w p g cap ts i):
    N D 192 #[X (Y ⟨p,0,J⟩)] w (Zm (WJ ts i) (fun r v _=>v=UW r) w p g cap ts):=by
  have HP:z1 (Pa w p g cap ts i):=h
  have g0:p<w.heap.size:=H w _ h.c0
  have h0:g<w.heap.size:=h.gl
  go_enter Tryz.func192,Tryz.ntmps192
  go_wp2_with fail
  refine(VM _ p g cap ts i 0 _ (HP.out.fr (S:=fun _=>False) ((Zt.alloc _).alloc _)) (by decide) (by rfl)).mono ?_
  intro e q t
  cases m:Z9 ts i 0 with
  | error l=>
    obtain⟨u,j⟩:=(Zm.err m).1 t
    unfold Zj at u
    subst u
    exact⟨rfl,(Zm.err (by unfold WJ;rw[Yc m])).2 ⟨rfl,((Zt.alloc _).alloc _).trans j⟩⟩
  | ok r=>
    obtain⟨a,x⟩:=r
    obtain⟨⟨v,rfl,rfl⟩,C,j⟩:=(Zm.ok m).1 t
    have E:z1 (Pa q p g cap ts x):=C
    have F:z1 (Fr (fun k=>k=p) w q):=((Zt.alloc _).alloc _).trans j
    have G:z1 (q.heap[w.heap.size]?=Y (z4 EW 290)):=j.whole (((Fr.refl (fun _=>False) _).alloc _).whole (heap_alloc_new w _)) (by omega)
    have n:z1 (q.heap[w.heap.size+1]?=Y (z4 EW 290)):=j.whole (SN w _ _) (by omega)
    have I:z1 (Z9 ts i 0=.ok (a,x)):=m
    have e0:=Zc n.out 0
    have e1:=Zc n.out 1
    have e2:=Zc n.out 2
    have ef:=Xr n.out
    simp only[Qc]
    go_wp2_with fail
    change N _ _ _ (UH q (w.heap.size+1) 0 a) _
    have K:z1 (Pa (UH q (w.heap.size+1) 0 a) p g cap ts x):=E.out.fr (Ww _ _ _ _) (fun k s=>by omega)
    have z:z1 (Fr (fun k=>k=p) w (UH q (w.heap.size+1) 0 a)):=F.out.monoNew (Ww _ _ _ _) (fun k s=>by omega)
    have L:z1 ((UH q (w.heap.size+1) 0 a).heap[w.heap.size+1]?=Y (z4 #[Z U a.sort,O a.text,Z U a.line,Z U 0,O ⟨#[]⟩,Z U 0,Z U 0,O ⟨#[]⟩,Z U 0] 290)):=VB n.out 0 a
    have M:z1 ((UH q (w.heap.size+1) 0 a).heap[w.heap.size]?=Y (z4 EW 290)):=(Ww _ _ _ _).whole G.out (by omega)
    generalize UH q (w.heap.size+1) 0 a=i0 at*
    refine(VM _ p g cap ts x 1 _ K.out (by decide) (by rfl)).mono ?_
    intro e w2 t
    cases m:Z9 ts x 1 with
    | error l=>
      obtain⟨u,j⟩:=(Zm.err m).1 t
      unfold Zj at u
      subst u
      exact⟨rfl,(Zm.err (by unfold WJ;rw[Zh I.out,Yc m])).2 ⟨rfl,z.out.trans j⟩⟩
    | ok r=>
      obtain⟨b,y⟩:=r
      obtain⟨⟨v,rfl,rfl⟩,P,j⟩:=(Zm.ok m).1 t
      have Q:z1 (Pa w2 p g cap ts y):=P
      have R:z1 (Fr (fun k=>k=p) w w2):=z.out.trans j
      have T:z1 (w2.heap[w.heap.size]?=_):=j.whole M.out (by omega)
      have o:z1 (w2.heap[w.heap.size+1]?=_):=j.whole L.out (by omega)
      have hB:z1 (Z9 ts x 1=.ok (b,y)):=m
      have e3:=Zc o.out 3
      have e4:=Zc o.out 4
      have e5:=Zc o.out 5
      have ef:=Xr o.out
      simp only[Qc]
      go_wp2_with fail
      change N _ _ _ (UH w2 (w.heap.size+1) 3 b) _
      have V:z1 (Pa (UH w2 (w.heap.size+1) 3 b) p g cap ts y):=Q.out.fr (Ww _ _ _ _) (fun k s=>by omega)
      have A:z1 (Fr (fun k=>k=p) w (UH w2 (w.heap.size+1) 3 b)):=R.out.monoNew (Ww _ _ _ _) (fun k s=>by omega)
      have W:z1 ((UH w2 (w.heap.size+1) 3 b).heap[w.heap.size+1]?=Y (z4 #[Z U a.sort,O a.text,Z U a.line,Z U b.sort,O b.text,Z U b.line,Z U 0,O ⟨#[]⟩,Z U 0] 290)):=VB o.out 3 b
      have a0:z1 ((UH w2 (w.heap.size+1) 3 b).heap[w.heap.size]?=Y (z4 EW 290)):=(Ww _ _ _ _).whole T.out (by omega)
      generalize UH w2 (w.heap.size+1) 3 b=j0 at*
      refine(VM _ p g cap ts y 1 _ V.out (by decide) (by rfl)).mono ?_
      intro e B t
      cases m:Z9 ts y 1 with
      | error l=>
        obtain⟨u,j⟩:=(Zm.err m).1 t
        unfold Zj at u
        subst u
        exact⟨rfl,(Zm.err (by unfold WJ;rw[Zh I.out,Zh hB.out,Yc m])).2 ⟨rfl,A.out.trans j⟩⟩
      | ok r=>
        obtain⟨c,i3⟩:=r
        obtain⟨⟨v,rfl,rfl⟩,b0,j⟩:=(Zm.ok m).1 t
        have d0:z1 (Pa B p g cap ts i3):=b0
        have f0:z1 (Fr (fun k=>k=p) w B):=A.out.trans j
        have d:=j.whole a0.out (by omega)
        have f:=j.whole W.out (by omega)
        have hC:z1 (Z9 ts y 1=.ok (c,i3)):=m
        have e0:=ZC f 0 _ rfl
        have r0:=ZC d 0 _ rfl
        have e1:=ZC f 1 _ rfl
        have r1:=ZC d 1 _ rfl
        have e2:=ZC f 2 _ rfl
        have r2:=ZC d 2 _ rfl
        have e3:=ZC f 3 _ rfl
        have r3:=ZC d 3 _ rfl
        have e4:=ZC f 4 _ rfl
        have r4:=ZC d 4 _ rfl
        have e5:=ZC f 5 _ rfl
        have r5:=ZC d 5 _ rfl
        have e6:=ZC f 6 _ rfl
        have r6:=ZC d 6 _ rfl
        have e7:=ZC f 7 _ rfl
        have r7:=ZC d 7 _ rfl
        have e8:=ZC f 8 _ rfl
        have r8:=ZC d 8 _ rfl
        have ef:=Xr f
        have rf:=Xr d
        simp only[Qc]
        have k0:¬w.heap.size+1=w.heap.size:=by omega
        go_wp2
        have hW:Fr (fun k=>w.heap.size<=k) B (UH (UH (UH (UH B (w.heap.size+1) 6 c) w.heap.size 0 a) w.heap.size 3 b) w.heap.size 6 c):=
          ((((Ww B (w.heap.size+1) 6 c).mono (fun k s=>by omega)).trans ((Ww _ w.heap.size 0 a).mono (fun k s=>by omega))).trans ((Ww _ w.heap.size 3 b).mono (fun k s=>by omega))).trans ((Ww _ w.heap.size 6 c).mono (fun k s=>by omega))
        exact bodyPost_ret (v:=UW ⟨a,b,c⟩) (by simp[results,Tryz.results192,go_sem,UW, *]) rfl ((Zm.ok (by unfold WJ;rw[Zh I.out,Zh hB.out,Zh hC.out])).2 ⟨⟨_,rfl,rfl⟩,d0.out.fr hW (fun k s=>by omega),f0.out.monoNew hW (fun k s=>by omega)⟩)
theorem QE (w p g cap ts i m)(h:Pa w p g cap ts i):
  N D 191 #[X (Y ⟨p,0,J⟩),O m] w fun e w'=>e=G (C (Zn (Zo ts i) m))/\Pa w' p g cap ts (if Zn (Zo ts i) m then i+1 else i)/\Fr (fun k=>k=p) w w':=by
 cases b:Zn (Zo ts i) m with
 |true=>exact(SM w p g cap ts i _ m h h.at b).mono fun e w' a=>a
 |false=>exact(QC w p g cap ts i _ m h h.at b).mono fun e w' a=>⟨a.1,h.fr a.2,a.2.mono⟩
theorem ZB {w:z0}{base e b v n d}(h:w.ownsRow base e b v n d):∃a n c,v=z9 a n c:=by
 rcases h.2 with⟨rfl,_⟩|⟨g,cap,f,rfl,_⟩
 ·exact⟨_,_,_,rfl⟩
 exact⟨_,_,_,rfl⟩
theorem Nn {a:Array y5}{j u}(h:a[j]?=Y u):a.setIfInBounds j u=a:=by
 apply Array.ext
 ·simp
 intro k d f
 by_cases e:j=k
 ·subst e
  obtain⟨b,c⟩:=Array.getElem?_eq_some_iff.1 h
  simp[c]
 rw[Array.getElem_setIfInBounds_ne _ e]
def RI (r:Except Nat (D6×Nat))(w:z0)(p g cap:Nat)(ts:List Tk)(E:Nat)(b:Array y5)(e:Ending)(w':z0):Prop:=
 match r with
 | .ok (a,i)=>e=G (.tuple #[])/\(∃v,w'.heap[E]?=Y (z4 (((b.setIfInBounds 21 (C a.decline)).setIfInBounds 22 (C a.cheapest)).setIfInBounds 23 v) 295)/\w'.ownsRow w.heap.size 263 3 v a.routes.length (Ys a.routes))/\Pa w' p g cap ts i/\Fr (fun k=>k=p\/k=E) w w'
 | .error l=>e=Zj 3 l/\Fr (fun k=>k=p\/k=E) w w'
theorem RI.ok {r w p g cap ts E b e w' a i}(c:r=.ok (a,i)):
  RI r w p g cap ts E b e w'↔e=G (.tuple #[])/\(∃v,w'.heap[E]?=Y (z4 (((b.setIfInBounds 21 (C a.decline)).setIfInBounds 22 (C a.cheapest)).setIfInBounds 23 v) 295)/\w'.ownsRow w.heap.size 263 3 v a.routes.length (Ys a.routes))/\Pa w' p g cap ts i/\Fr (fun k=>k=p\/k=E) w w':=by subst c;exact Iff.rfl
theorem RI.err {r w p g cap ts E a e w' l}(b:r=.error l):
  RI r w p g cap ts E a e w'↔e=Zj 3 l/\Fr (fun k=>k=p\/k=E) w w':=by subst b;exact Iff.rfl
theorem G8 (w p g cap ts i E b)(h:Pa w p g cap ts i)(hE:w.heap[E]?=Y (z4 b 295))(m:E≠p)(e0:E≠g)(I:b[21]?=Y (C false))(K:b[22]?=Y (C false))(L:b[23]?=Y (z9 J 0 0)):
  N D 232 #[X (Y ⟨p,0,J⟩),X (Y ⟨E,0,J⟩)] w (RI (Xi ts i) w p g cap ts E b):=by
 have x:=Za h
 have f0:p<w.heap.size:=H w _ h.c0
 have g0:g<w.heap.size:=h.gl
 have HE:=Za hE
 have y:=Za I
 have z:=Za K
 have A:=Za L
 have h0:E<w.heap.size:=(Array.getElem?_eq_some_iff.1 hE).1
 cases F:Zn (Zo ts i) YM with
 |true=>
  go_enter Tryz.func232,Tryz.ntmps232
  go_wp2_with fail
  refine(SM w p g cap ts i _ YM x.out x.out.at F).mono ?_
  rintro e B ⟨rfl,M,c⟩
  have n:=Za M
  have o:=Za c
  have d:=Za (c.whole HE.out m)
  have i0:=ZC d.out 21 _ y.out
  have ef:=Xr d.out
  go_wp2
  refine bodyPost_ret (results_none rfl _ _ _) rfl ?_
  have f:Fr (fun k=>k=E) B (B.setCell ⟨E,21,J⟩ (C true)):=(Fr.refl (fun k=>k=E) B).setCell (p:=⟨E,21,J⟩) (z3 rfl) _
  refine(RI.ok (by unfold Xi;rw[if_pos F])).2 ⟨rfl,⟨z9 J 0 0,?_,y2 _ _ _ _⟩,n.out.fr f (fun k a=>by omega),(o.out.mono (fun k a=>z3 a)).trans (f.mono (fun k a=>x0 a))⟩
  have O:((b.setIfInBounds 21 (C true)).setIfInBounds 22 (C false))=b.setIfInBounds 21 (C true):=Nn (by rw[Array.getElem?_setIfInBounds_ne (by decide)];exact z.out)
  have e2:((b.setIfInBounds 21 (C true)).setIfInBounds 23 (z9 J 0 0))=b.setIfInBounds 21 (C true):=Nn (by rw[Array.getElem?_setIfInBounds_ne (by decide)];exact A.out)
  show _=Y (Obj.cells (((b.setIfInBounds 21 (C true)).setIfInBounds 22 (C false)).setIfInBounds 23 (z9 J 0 0)) _)
  rw[O,e2]
  exact Ym d.out 21 _
 |false=>
  have hM:z1 (Xi ts i=YU (Xl ts (if Zn (Zo ts i) Yj then i+1 else i) 0) fun l k=>.ok (⟨false,Zn (Zo ts i) Yj,l⟩,k)):=by
   show _=_
   unfold Xi
   rw[if_neg (by simp[F])]
   cases Zn (Zo ts i) Yj<;>rfl
  go_enter Tryz.func232,Tryz.ntmps232
  go_wp2_with fail
  refine(QC w p g cap ts i _ YM x.out x.out.at F).mono ?_
  rintro e B ⟨rfl,c⟩
  have n:=Za (x.out.fr c)
  have o:=Za c
  have d:=Za (c.whole HE.out)
  go_wp2_with fail
  refine(QE B p g cap ts i Yj n.out).mono ?_
  rintro e w2 ⟨rfl,P,c⟩
  generalize Zn (Zo ts i) Yj=u at*
  generalize(if u=true then i+1 else i)=i2 at*
  have Q:=Za P
  have R:=Za ((o.out.mono).trans c)
  have q:=Za (c.whole d.out m)
  have j0:=ZC q.out 22 _ z.out
  have ef:=Xr q.out
  go_wp2_with fail
  have f:Fr (fun k=>k=E) w2 (w2.setCell ⟨E,22,J⟩ (C u)):=(Fr.refl (fun k=>k=E) w2).setCell (p:=⟨E,22,J⟩) (z3 rfl) _
  have S:=Za (Q.out.fr f (fun k a=>by omega))
  have s:=Za ((R.out.mono (fun k a=>z3 a)).trans (f.mono (fun k a=>x0 a)))
  have T:z1 ((w2.setCell ⟨E,22,J⟩ (C u)).heap[E]?=Y (z4 (b.setIfInBounds 22 (C u)) 295)):=Ym q.out 22 _
  generalize w2.setCell ⟨E,22,J⟩ (C u)=w3 at*
  refine(Nl w3 p g cap ts i2 0 _ S.out (by decide) (by rfl)).mono ?_
  intro e U hT
  cases G:Xl ts i2 0 with
  |error l=>
   obtain⟨he,c⟩:=(Zm.err G).1 hT
   unfold Zj at he
   subst he
   exact⟨rfl,(RI.err (hM.out.trans (Yc G))).2 ⟨rfl,s.out.trans (c.mono (fun k a=>z3 a))⟩⟩
  |ok r=>
   obtain⟨l,i4⟩:=r
   obtain⟨⟨v,rfl,j⟩,V,c⟩:=(Zm.ok G).1 hT
   obtain⟨W,Z,vc,rfl⟩:=ZB j
   have a0:=Za V
   have b0:=Za (s.out.trans (c.mono (fun k a=>z3 a)))
   have t:=Za (c.whole T.out m)
   have HO:=Za j
   have d0:=Za G
   have k0:=ZC t.out 23 (z9 J 0 0) (by rw[Array.getElem?_setIfInBounds_ne (by decide)];exact A.out)
   have ef:=Xr t.out
   have l0:=s.out.size
   go_wp2
   go_end0
   have f:Fr (fun k=>k=E) U (U.setCell ⟨E,23,J⟩ (z9 W Z vc)):=(Fr.refl (fun k=>k=E) U).setCell (p:=⟨E,23,J⟩) (z3 rfl) _
   refine(RI.ok (hM.out.trans (Zh d0.out))).2 ⟨rfl,⟨z9 W Z vc,?_,?_⟩,a0.out.fr f (fun k a=>by omega),b0.out.trans (f.mono (fun k a=>x0 a))⟩
   ·have O:(b.setIfInBounds 21 (C false))=b:=Nn y.out
    show _=Y (Obj.cells (((b.setIfInBounds 21 (C false)).setIfInBounds 22 (C u)).setIfInBounds 23 (z9 W Z vc)) _)
    rw[O]
    exact Ym t.out 23 _
   exact Je (T9 HO.out f (fun k a=>by omega)) (by omega)
