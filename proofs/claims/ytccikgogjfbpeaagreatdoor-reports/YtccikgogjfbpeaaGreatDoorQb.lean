import Derived.Test.YtccikgogjfbpeaaGreatDoorProg
import Derived.Test.YtccikgogjfbpeaaGreatDoorQa
import Derived.WalkKit
import Derived.WalkSpells
import Derived.WalkLawsBesides
import Derived.Deep.QuietTactic
import Derived.BigQuiet
import Derived.Deep.RegionHeld3
import Derived.Deep.AppendLies
import Derived.Maps.RangeWalk
import Derived.Deep.RegionWith
open Go.Proofs.Tryz renaming prog->I
open Go renaming World->J,Calls->D,Value->M
open Option renaming none->Y,some->O
open Go.Ending renaming returned->Z
open Go.Value renaming int->U,pointer->H,string->G,bool->A,oneCell'->z0
open Go.IntKind renaming i64->E,i64->R
open Int renaming natCast_add->N
open Go.World renaming cell?_alloc_some->T,news_of_block->F
open Nat renaming le_refl->L,add_assoc->C
open Go.AllReadyH renaming nil->X,cons->z1
namespace Go.Proofs.YtccikgogjfbpeaaGreatDoor
set_option maxRecDepth 30000
set_option maxHeartbeats 8000000
open Go.RowKit
theorem Yx (c:Int)(w:J):
  D I 150 #[U .u8 c] w fun e w'=>e=Z (A (Zp c))/\w'=w:=by
 by_cases a:97<=c
 all_goals by_cases b:c<=122
 all_goals
  go_enter Tryz.func150,Tryz.ntmps150;go_wp2;go_ret;exact⟨by simp[Zp,a,b],rfl⟩
theorem YJ (c:Int)(w:J):
  D I 188 #[U .u8 c] w fun e w'=>e=Z (A (iD c))/\w'=w:=by
 by_cases a:48<=c
 all_goals by_cases b:c<=57
 all_goals
  go_enter Tryz.func188,Tryz.ntmps188;go_wp2;go_ret;exact⟨by simp[iD,a,b],rfl⟩
theorem MH (c:Int)(w:J):
  D I 196 #[U .u8 c] w fun e w'=>e=Z (A (Zy c))/\w'=w:=by
 go_enter Tryz.func196,Tryz.ntmps196;go_wp2;go_ret;exact⟨by simp[Zy,bne,BEq.beq],rfl⟩
theorem Jm (c:Int)(w:J):
  D I 152 #[U .u8 c] w fun e w'=>e=Z (A (Zi c))/\w'=w:=by
 cases h:Zp c
 all_goals
  go_enter Tryz.func152,Tryz.ntmps152
  go_wp2_with (first|(go_at_call 150;refine(Yx _ _).mono ?_;rintro e w' ⟨rfl,rfl⟩)|(go_at_call 188;refine(YJ _ _).mono ?_;rintro e w' ⟨rfl,rfl⟩))
  go_ret;exact⟨by simp[Zi,h],rfl⟩
theorem ZN {P:Program}{t:TypeId}(h:P.underlying t=O .string)(s:ByteArray)(k:Nat)(i:Int)(a:i=k)(b:k<s.size)(w:J):
  (Instr.index t (.string s) (.int .i64 i)).run P w=.ok (.int .u8 (Zv s k)) w:=by
 subst a;rw[run_index_string w t s .i64 k h,dif_pos (by omega),PH s k b];simp
def Dr (w w':J):Prop:=∃d,w'=w.drewN d
theorem Dr.refl (w:J):Dr w w:=⟨0,rfl⟩
theorem Dr.next {w w':J}(h:Dr w w')(n:Nat):Dr w (w'.drewN n):=by
 obtain⟨d,rfl⟩:=h;exact⟨d+n,by rw[World.drewN_drewN]⟩
theorem Dr.trans {a b c:J}(h:Dr a b)(k:Dr b c):Dr a c:=by
 obtain⟨d,rfl⟩:=k;exact h.next d
theorem Dr.cell {w w':J}(h:Dr w w')(a:Addr):w'.cell? a=w.cell? a:=by
 obtain⟨d,rfl⟩:=h;simp
theorem ZH {k:IntKind}{a b:Int}(h:a=b):Ending.returned (U k a)=Z (U k b):=by rw[h]
theorem MI (b:Nat)(s:ByteArray)(a:Nat)(w:J)(l:s.size<=maxLen)
  (m:a<=s.size)
  (p:w.cell? ⟨b,0,Y⟩=O (G s))(q:w.cell? ⟨b,1,Y⟩=O (U E a)):
  D I 195 #[H (O ⟨b,0,Y⟩),.func (.func 196) #[] #[]] w fun e w'=>e=Z (U E (Ys Zy (s.data.toList.drop a)))/\Dr w w':=by
 unfold maxLen at l;go_enter Tryz.func195,Tryz.ntmps195;go_wp2
 go_loopw [5] (fun n w'=>∃k:Nat,a+k<=s.size/\n=U E k/\Hid (Ys Zy (s.data.toList.drop a)=k+Ys Zy (s.data.toList.drop (a+k)))/\Dr w w') (fun n _=>s.size-(intOf n).toNat)
 case atStart=>exact⟨0,by omega,rfl,(by show _=_;simp),Dr.refl _⟩
 case round=>
  obtain⟨k,v,rfl,g,f⟩:=hrel;rw[<-f.cell]at p q;have r:R.wrap ((a:Int)+(k:Int))=(a:Int)+(k:Int):=IntWalk.i64_in _ (by omega);by_cases c:a+k<s.size
  ·have d:=W9 Zy s (a+k) c
   have h:=Za d;clear d
   have x:(a:Int)+(k:Int)<(s.size:Int):=by omega
   have t:=fun w=>ZN (P:=I) Tryz.underlying9 s (a+k) ((a:Int)+(k:Int)) (by omega) c w
   cases i:Zy (Zv s (a+k))
   all_goals
    go_wp2_with fail
    go_quiet ((go_at_call 196;exact Calls.quiet_of_same (MH _ _)))
   ·go_wp2
    go_ret;exact⟨ZH (by rw[g.o,h.o,i];simp),f.next _⟩
   ·go_wp2
    go_roundw
    case rel=>
     refine⟨k+1,by omega,by go_num,?_,f.next _⟩;have j:=h.o;rw[i,if_pos rfl]at j
     have u:Ys Zy (s.data.toList.drop a)=(k+1)+Ys Zy (s.data.toList.drop (a+(k+1))):=by
      rw[g.o,j,C a k 1];omega
     exact u
    case measure=>simp[intOf];omega
  ·have y:decide ((a:Int)+k<s.size)=false:=by simp;omega
   go_wp2_with fail
   go_quiet (fail)
   go_wp2;go_ret;exact⟨ZH (by rw[g.o,Tj _ _ _ (by omega)];simp),f.next _⟩
theorem SW (b:Nat)(s:ByteArray)(a:Nat)(w:J)(l:s.size<=maxLen)
  (m:a<=s.size)
  (p:w.cell? ⟨b,0,Y⟩=O (G s))(q:w.cell? ⟨b,1,Y⟩=O (U E a)):
  D I 195 #[H (O ⟨b,0,Y⟩),.func (.func 152) #[] #[]] w fun e w'=>e=Z (U E (Ys Zi (s.data.toList.drop a)))/\Dr w w':=by
 unfold maxLen at l;go_enter Tryz.func195,Tryz.ntmps195;go_wp2
 go_loopw [5] (fun n w'=>∃k:Nat,a+k<=s.size/\n=U E k/\Hid (Ys Zi (s.data.toList.drop a)=k+Ys Zi (s.data.toList.drop (a+k)))/\Dr w w') (fun n _=>s.size-(intOf n).toNat)
 case atStart=>exact⟨0,by omega,rfl,(by show _=_;simp),Dr.refl _⟩
 case round=>
  obtain⟨k,v,rfl,g,f⟩:=hrel;rw[<-f.cell]at p q;have r:R.wrap ((a:Int)+(k:Int))=(a:Int)+(k:Int):=IntWalk.i64_in _ (by omega);by_cases c:a+k<s.size
  ·have d:=W9 Zi s (a+k) c
   have h:=Za d;clear d
   have x:(a:Int)+(k:Int)<(s.size:Int):=by omega
   have t:=fun w=>ZN (P:=I) Tryz.underlying9 s (a+k) ((a:Int)+(k:Int)) (by omega) c w
   cases i:Zi (Zv s (a+k))
   all_goals
    go_wp2_with fail
    go_quiet ((go_at_call 152;exact Calls.quiet_of_same (Jm _ _)))
   ·go_wp2
    go_ret;exact⟨ZH (by rw[g.o,h.o,i];simp),f.next _⟩
   ·go_wp2
    go_roundw
    case rel=>
     refine⟨k+1,by omega,by go_num,?_,f.next _⟩;have j:=h.o;rw[i,if_pos rfl]at j
     have u:Ys Zi (s.data.toList.drop a)=(k+1)+Ys Zi (s.data.toList.drop (a+(k+1))):=by
      rw[g.o,j,C a k 1];omega
     exact u
    case measure=>simp[intOf];omega
  ·have y:decide ((a:Int)+k<s.size)=false:=by simp;omega
   go_wp2_with fail
   go_quiet (fail)
   go_wp2;go_ret;exact⟨ZH (by rw[g.o,Tj _ _ _ (by omega)];simp),f.next _⟩
theorem QK (b:Nat)(s:ByteArray)(a:Nat)(w:J)(l:s.size<=maxLen)
  (m:a<=s.size)
  (p:w.cell? ⟨b,0,Y⟩=O (G s))(q:w.cell? ⟨b,1,Y⟩=O (U E a)):
  D I 195 #[H (O ⟨b,0,Y⟩),.func (.func 188) #[] #[]] w fun e w'=>e=Z (U E (Ys iD (s.data.toList.drop a)))/\Dr w w':=by
 unfold maxLen at l;go_enter Tryz.func195,Tryz.ntmps195;go_wp2
 go_loopw [5] (fun n w'=>∃k:Nat,a+k<=s.size/\n=U E k/\Hid (Ys iD (s.data.toList.drop a)=k+Ys iD (s.data.toList.drop (a+k)))/\Dr w w') (fun n _=>s.size-(intOf n).toNat)
 case atStart=>exact⟨0,by omega,rfl,(by show _=_;simp),Dr.refl _⟩
 case round=>
  obtain⟨k,v,rfl,g,f⟩:=hrel;rw[<-f.cell]at p q;have r:R.wrap ((a:Int)+(k:Int))=(a:Int)+(k:Int):=IntWalk.i64_in _ (by omega);by_cases c:a+k<s.size
  ·have d:=W9 iD s (a+k) c
   have h:=Za d;clear d
   have x:(a:Int)+(k:Int)<(s.size:Int):=by omega
   have t:=fun w=>ZN (P:=I) Tryz.underlying9 s (a+k) ((a:Int)+(k:Int)) (by omega) c w
   cases i:iD (Zv s (a+k))
   all_goals
    go_wp2_with fail
    go_quiet ((go_at_call 188;exact Calls.quiet_of_same (YJ _ _)))
   ·go_wp2
    go_ret;exact⟨ZH (by rw[g.o,h.o,i];simp),f.next _⟩
   ·go_wp2
    go_roundw
    case rel=>
     refine⟨k+1,by omega,by go_num,?_,f.next _⟩;have j:=h.o;rw[i,if_pos rfl]at j
     have u:Ys iD (s.data.toList.drop a)=(k+1)+Ys iD (s.data.toList.drop (a+(k+1))):=by
      rw[g.o,j,C a k 1];omega
     exact u
    case measure=>simp[intOf];omega
  ·have y:decide ((a:Int)+k<s.size)=false:=by simp;omega
   go_wp2_with fail
   go_quiet (fail)
   go_wp2;go_ret;exact⟨ZH (by rw[g.o,Tj _ _ _ (by omega)];simp),f.next _⟩
theorem U0 (t:ByteArray)(w:J):
  D I 151 #[G t] w fun e w'=>e=Z (A (Xh t))/\w'=w:=by
 go_enter Tryz.func151,Tryz.ntmps151;go_wp2
 all_goals
  go_ret;refine⟨?_,rfl⟩
  simp_all [Xh,DL]
theorem TU (t:ByteArray)(w:J):
  D I 128 #[G t] w fun e w'=>e=Z (A (Xh t))/\w'=w:=by
 go_enter Tryz.func128,Tryz.ntmps128;go_wp2
 all_goals
  go_ret;refine⟨?_,rfl⟩
  simp_all [Xh,DL]
theorem PN (t m:ByteArray)(w:J)(b:t.size<=9223372036854775807)(c:m.size<=9223372036854775807):
  D I 239 #[G t,G m] w fun e w'=>e=Z (A (Jj t m))/\w'=w:=by
 have d:(t.size:Int)<=9223372036854775807:=by omega
 have f:(m.size:Int)<=9223372036854775807:=by omega
 clear b c;by_cases a:m.size<=t.size
 ·go_enter Tryz.func239,Tryz.ntmps239
  go_wp2;go_ret;exact⟨by simp[Jj,a],rfl⟩
 ·go_enter Tryz.func239,Tryz.ntmps239
  go_wp2;go_ret;exact⟨by simp[Jj,a],rfl⟩
theorem Ns (t m:ByteArray)(w:J)(a:t.size<=maxLen)(b:m.size<=maxLen):
  D I 203 #[G t,G m] w fun e w'=>e=Z (A (Jj t m))/\w'=w:=by
 go_enter Tryz.func203,Tryz.ntmps203
 go_wp2_with (go_at_call 239;refine(PN _ _ _ a b).mono ?_;rintro e w' ⟨rfl,rfl⟩)
 go_ret;exact⟨rfl,rfl⟩
theorem U8 (b:Nat)(s m:ByteArray)(a:Nat)(w:J)(f:s.size<=maxLen)(c:m.size<=maxLen)
  (g:a<=s.size)
  (j:w.cell? ⟨b,0,Y⟩=O (G s))(k:w.cell? ⟨b,1,Y⟩=O (U E a)):
  D I 199 #[H (O ⟨b,0,Y⟩),G m] w fun e w'=>e=Z (A (Jj (s.extract a s.size) m))/\Dr w w':=by
 have l:(a:Int)<=(s.size:Int):=by omega
 have d:(s.extract a s.size).size<=maxLen:=by simp;omega
 have h:=Za d;have i:=Za c;clear d c;unfold maxLen at f;go_enter Tryz.func199,Tryz.ntmps199;go_wp2
 go_quiet ((go_at_call 203;exact Calls.quiet_of_same (Ns _ _ _ h.o i.o)))
 go_wp2;go_ret;exact⟨rfl,(Dr.refl w).next _⟩
def DJ:List Oper->Nat->Option Oper
 |[],_=>Y
 |o::_,0=>O o
 |_::r,n+1=>DJ r n
theorem MJ (l:List Oper)(i:Nat):l.toArray[i]?=DJ l i:=by
 rw[List.getElem?_toArray]
 induction l generalizing i with
 |nil=>rfl
 |cons o r a=>cases i with
  |zero=>rfl
  |succ i=>simpa[DJ]using a i
theorem Sh {P:Program}{l:List Oper}{Q:Exit->Act->J->Prop}{f:Region.Mode}{S:J->Prop}(i:Nat){e:Oper}{v:M}{d:Nat}{b:Array Bool}{a:Act}{w:J}(g:DJ l i=O e)
  (j:Region.noSelect l.toArray=true)(k:Region.free f l.toArray b i=true)(m:(Region.ready f l.toArray b).contains i=true)
  (n:∀c a w,Q (.panic c) (a.put e.dst v) w->Q (.panic c) a w)(o:Region.wanted e (yielded l.toArray a.tmps)=true)(p:∀w,S w->(execOp a.eval e).run P w=.ok (.value v) w)(q:S w)
  (h:wpAnyH P f l.toArray Q S d (b.setIfInBounds i true) (a.put e.dst v) w):wpAnyH P f l.toArray Q S (d+1) b a w:=
 wpAnyH_take ((MJ l i).trans g) j k m n (Or.inl ⟨o,p⟩) q h
theorem Uq {P:Program}{l:List Oper}{Q:Exit->Act->J->Prop}{f:Region.Mode}{S:J->Prop}(i:Nat){e:Oper}{v:M}{d:Nat}{b:Array Bool}{a:Act}{w:J}(g:∀w,S w->(execOp a.eval e).run P w=.ok (.value v) w)(j:S w)
  (h:wpAnyH P f l.toArray Q S d (b.setIfInBounds i true) (a.put e.dst v) w)(k:DJ l i=O e:=by rfl)(m:Region.noSelect l.toArray=true:=by kernel_rfl)(n:Region.free f l.toArray b i=true:=by kernel_rfl)(o:(Region.ready f l.toArray b).contains i=true:=by kernel_rfl)
  (p:∀c a w,Q (.panic c) (a.put e.dst v) w->Q (.panic c) a w:=by exact fun _ _ _ h=>h)(q:Region.wanted e (yielded l.toArray a.tmps)=true:=by rfl):wpAnyH P f l.toArray Q S (d+1) b a w:=
 Sh i k m n o p q g j h
theorem Zb {P:Program}{l:List Oper}{Q:Exit->Act->J->Prop}{d:Region.Mode}{S:J->Prop}{c:Nat}{b:Array Bool}{a:Act}{w:J}{i:Nat}{o:Oper}{rs:List Nat}(f:DJ l i=O o)
  (h:∀e:Act->J->Prop,Shut (∀a w,S w->(S w->wpAnyH P d l.toArray Q S c (b.setIfInBounds i true) a w)->e a w)->if Region.wanted o (yielded l.toArray a.tmps)=true then Oper.wp P o a w e Q else e (a.put o.dst undef) w)
  (g:AllReadyH P d l.toArray Q S c b a w rs):AllReadyH P d l.toArray Q S c b a w (i::rs):=
 z1 ((MJ l i).trans f) h g
theorem Zf {P:Program}{l:List Oper}{Q:Exit->Act->J->Prop}{f:Region.Mode}{S:J->Prop}(i:Nat){e:Oper}{v:M}{d:Nat}{b:Array Bool}{a:Act}{w:J}(j:S w)
  (h:wpAnyH P f l.toArray Q S d (b.setIfInBounds i true) (a.put e.dst v) w)(k:DJ l i=O e:=by rfl)(m:Region.noSelect l.toArray=true:=by kernel_rfl)(n:Region.free f l.toArray b i=true:=by kernel_rfl)(o:(Region.ready f l.toArray b).contains i=true:=by kernel_rfl)
  (p:∀c a w,Q (.panic c) (a.put e.dst v) w->Q (.panic c) a w:=by exact fun _ _ _ h=>h)(g:Region.wanted e (yielded l.toArray a.tmps)=true:=by rfl)(q:∀w,S w->(execOp a.eval e).run P w=.ok (.value v) w:=by(intro w g;(try dsimp only at g);go_simp;with_reducible rfl)):wpAnyH P f l.toArray Q S (d+1) b a w:=
 Sh i k m n o p g q j h
theorem SX {P:Program}{l:List Oper}{Q:Exit->Act->J->Prop}{d:Region.Mode}{S:J->Prop}(i:Nat){o:Oper}{c:Nat}{b:Array Bool}{a:Act}{w:J}
  (h:∀e:Act->J->Prop,Shut (∀a w,S w->(S w->wpAnyH P d l.toArray Q S c (b.setIfInBounds i true) a w)->e a w)->Oper.wp P o a w e Q)(f:DJ l i=O o:=by rfl)(g:Region.ready d l.toArray b=[i]:=by kernel_rfl)(j:Region.wanted o (yielded l.toArray a.tmps)=true:=by rfl):wpAnyH P d l.toArray Q S (c+1) b a w:=
 wpAnyH_ready g (by simp) (Zb f (fun K k=>by rw[if_pos j];exact h K k) X)
def Pv (t:Tk):List M:=[U E t.sort,G t.text,U E t.line]
def Yb (ts:List Tk):List M:=ts.flatMap Pv
theorem Tm (ts:List Tk)(t:Tk):Yb (ts++[t])=Yb ts++Pv t:=by simp[Yb]
structure Sc (w:J)(b:Nat)(s:ByteArray)(k line:Nat)(v:M)(ts:List Tk):Prop where
 c0:w.cell? ⟨b,0,Y⟩=O (G s)
 c1:w.cell? ⟨b,1,Y⟩=O (U E k)
 c2:w.cell? ⟨b,2,Y⟩=O (U E line)
 c3:w.cell? ⟨b,3,Y⟩=O v
 fz:∀o,w.frozen? ⟨b,o,Y⟩=false
 ZP:w.ownsRow (b+1) 263 3 v ts.length (Yb ts)
 few:ts.length<=k
 at':k<=s.size
 ln:line<=k+1
 sz:s.size<=3000
theorem Ux:(I.info? 263).map (fun i=>(i.zero,i.size,i.bytes))=O (O (.agg #[U E 0,G ByteArray.empty,U E 0]),3,32):=by kernel_rfl
theorem Qf {w h f:J}{b n:Nat}{v:M}{i:List M}(ZP:w.ownsRow (b+1) 263 3 v n i)(g:b<w.heap.size)(d:Below w.heap.size w h)(a:h.grownBy f v.ownBlock):
  (∀o,f.cell? ⟨b,o,Y⟩=w.cell? ⟨b,o,Y⟩)/\(∀o,f.frozen? ⟨b,o,Y⟩=w.frozen? ⟨b,o,Y⟩)/\Below b w f:=by
 have c:∀j,j<=b->O j≠v.ownBlock:=fun j l e=>by have:=ZP.lt j e.symm;omega
 refine⟨fun o=>?_,fun o=>?_,?_⟩
 ·exact(a.cell_far ⟨b,o,Y⟩ (nL g d.size) (c b (L _))).trans (d.cell (p:=⟨b,o,Y⟩) g)
 ·exact(a.frozen_far ⟨b,o,Y⟩ (nL g d.size) (c b (L _))).trans (d.frozen (p:=⟨b,o,Y⟩) g)
 ·exact(d.mono (by omega)).trans ⟨a.os,a.tape,a.output,a.size,fun k m=>a.block k (nL (by omega) d.size) (c k (by omega))⟩
theorem IY {w c:J}{b:Nat}{s:ByteArray}{k a k':Nat}{V:M}{ts:List Tk}
  (h:c.cell? ⟨b,0,Y⟩=O (G s))(c1:c.cell? ⟨b,1,Y⟩=O (U E k))(i:c.cell? ⟨b,2,Y⟩=O (U E a))(d:∃v,c.cell? ⟨b,3,Y⟩=O v)
  (j:∀o,c.frozen? ⟨b,o,Y⟩=false)(ZP:c.ownsRow (b+1) 263 3 V ts.length (Yb ts))(e:Below b w c)
  (f:ts.length<=k')(g:k'<=s.size)(l:a<=k'+1)(m:s.size<=3000):
  Sc ((c.setCell ⟨b,3,Y⟩ V).setCell ⟨b,1,Y⟩ (U E k')) b s k' a V ts/\Below b w ((c.setCell ⟨b,3,Y⟩ V).setCell ⟨b,1,Y⟩ (U E k')):=by
 obtain⟨v,d⟩:=d;refine⟨⟨?_,?_,?_,?_,fun o=>by simp[j o],?_,f,g,l,m⟩,?_⟩
 ·rw[cO _ _ _ _ (by simp),cO _ _ _ _ (by simp)];exact h
 ·exact cS _ _ _ (u:=U E k) (by rw[cO _ _ _ _ (by simp)];exact c1)
 ·rw[cO _ _ _ _ (by simp),cO _ _ _ _ (by simp)];exact i
 ·rw[cO _ _ _ _ (by simp)];exact cS _ _ _ d
 ·exact oB (oB ZP (by simp) _) (by simp) _
 ·exact(e.setCell (by simp) _).setCell (by simp) _
theorem F6 (b:Nat)(s:ByteArray)(k d:Nat)(v:M)(ts:List Tk)(w:J)(f a m:Nat)(a0:Sc w b s k d v ts)
  (hl:a<=m)(h1:1<=a)(hk:k+a<=s.size)(b0:m<=3000):
  D I 198 #[H (O ⟨b,0,Y⟩),U E f,U E a,U E m] w fun e w'=>e=Z (.tuple #[])/\
   (∃v',Sc w' b s (k+a) d v' (ts++[⟨f,s.extract k (k+a),d⟩]))/\Below b w w':=by
 obtain⟨y,c1,Q,x,W,ZP,g0,h0,ln,sz⟩:=a0;have hb:b<w.heap.size:=bL w _ y;have i0:R.wrap ((k:Int)+(a:Int))=(k:Int)+(a:Int):=IntWalk.i64_in _ (by omega)
 have j0:¬(m:Int)<(a:Int):=by omega
 have k0:(k:Int)<=(k:Int)+(a:Int):=by omega
 have l0:(k:Int)+(a:Int)<=(s.size:Int):=by omega
 obtain⟨i,hi,z,A,B⟩:=info_parts Ux;go_enter Tryz.func198,Tryz.ntmps198;go_wp2;refine wp_region_held_drew (S:=fun w'=>w'.cell? ⟨b,0,Y⟩=O (G s)/\w'.cell? ⟨b,1,Y⟩=O (U E k)/\w'.cell? ⟨b,2,Y⟩=O (U E d)) (by kernel_rfl) ?_ (fun c=>?_)
 ·simp[*]
 refine Zf 0 c ?_;go_frame;refine Zf 1 c ?_;go_frame;refine Zf 2 c ?_;go_frame;refine Zf 3 c ?_;go_frame;refine Zf 5 c ?_;go_frame;refine Zf 6 c ?_;go_frame;refine Zf 7 c ?_;go_frame;refine Zf 8 c ?_;go_frame;refine Zf 9 c ?_;go_frame;refine Zf 10 c ?_;go_frame;refine Zf 11 c ?_;go_frame;refine Zf 12 c ?_;go_frame;refine Zf 13 c ?_;go_frame;refine Zf 14 c ?_;go_frame;refine Zf 15 c ?_;go_frame;refine Zf 16 c ?_;go_frame;refine Zf 17 c ?_;go_frame;refine Zf 18 c ?_;go_frame;refine Zf 19 c ?_;go_frame;refine Zf 20 c ?_;go_frame;refine Zf 21 c ?_;go_frame;refine Zf 22 c ?_;go_frame;refine Zf 23 c ?_;go_frame;refine Zf 24 c ?_;go_frame;refine Zf 25 c ?_;go_frame;refine wpAnyH_ready (rs:=[4,26]) (by kernel_rfl) (by simp) ?_;refine Zb rfl (fun K h=>?_) ?_
 ·rw[if_pos (by rfl)]
  go_simp;refine h.out _ _ c (fun _=>?_);clear h K
  try go_frame
  refine SX 26 (fun K h=>?_);go_simp;refine h.out _ _ ?_ (fun c=>?_)
  ·simp[*,T]
  clear h K
  try go_frame
  refine wpAnyH_ready (rs:=[27]) (by kernel_rfl) (by simp) ?_;refine Zb rfl (fun K h=>?_) X;refine step_append_lies _ rfl (.tmp 21) (.tmp 43) 193 rfl (b+1) 263 i _ 3 32 Tryz.underlying193 hi z A B rfl (by decide) v ts.length (Yb ts) rfl ?h1 ⟨w.heap.size,0,Y⟩ 1 1 [U E f,G (s.extract k ((k:Int)+(a:Int)).toNat),U E d] rfl rfl ?h2 ?h3 (by decide) ?h4 ?h5 ?h6 _ rfl ?h7
  case h1=>exact(ZP.alloc _).drew
  case h2=>exact F (aN w _)
  case h3=>simp[z0]
  case h4=>unfold maxLen;omega
  case h5=>omega
  case h6=>simp;omega
  case h7=>
   intro g cap w1 l j _ _;obtain⟨n,C,p⟩:=Qf ZP hb ((Below.refl _ _).alloc (L _) _).drew j;have q:=(n 0).trans y;have r:=(n 1).trans c1;have t:=(n 2).trans Q;have d3:=(n 3).trans x
   have df:∀o,w1.frozen? ⟨b,o,Y⟩=false:=fun o=>(C o).trans (W o)
   have HO:=Za l;have HB:=Za p;clear n C j l p y c1 Q x W ZP;refine h.out _ _ ⟨q,r,t⟩ (fun c=>?_);clear h K;go_frame;refine Zf 28 c ?_;go_frame;refine Zf 29 c ?_;go_frame;refine SX 30 (fun K h=>?_);go_simp;refine h.out _ _ ?_ (fun c=>?_)
   ·refine⟨?_,?_,?_⟩
    ·rw[cO _ _ _ _ (by simp)];exact q
    ·rw[cO _ _ _ _ (by simp)];exact r
    ·rw[cO _ _ _ _ (by simp)];exact t
   clear h K
   try go_frame
   refine wpAnyH_done (by kernel_rfl) ?_ _;obtain⟨e0,e1,e2⟩:=c;go_wp2
   go_end0
   have et:((k:Int)+(a:Int)).toNat=k+a:=by omega
   have P:=HO.o;rw[et]at P;have u:=IY (k':=k+a) (ts:=ts++[⟨f,s.extract k (k+a),d⟩]) (V:=.slice (O ⟨g,0,Y⟩) (ts.length+1) cap) q r t ⟨_,d3⟩ df (by rw[Tm,lA];exact P) HB.o (by simp;omega) hk (by omega) sz;rw[N]at u;exact⟨rfl,⟨_,u.1⟩,u.2⟩
 ·refine Zb rfl (fun K h=>?_) X
  rw[if_pos (by rfl)];go_simp;refine h.out _ _ ?_ (fun c=>?_)
  ·simp[*,T]
  clear h K
  try go_frame
  refine SX 4 (fun K h=>?_)
  have f0:(w.alloc (.cells #[U E f,G (s.extract k ((k:Int)+(a:Int)).toNat),U E d] 263)).cell? ⟨b,3,Y⟩=O v:=by rw[T _ _ _ (by simp[x])];exact x
  go_simp;refine h.out _ _ c (fun _=>?_);clear h K f0
  try go_frame
  refine wpAnyH_ready (rs:=[27]) (by kernel_rfl) (by simp) ?_;refine Zb rfl (fun K h=>?_) X;refine step_append_lies _ rfl (.tmp 21) (.tmp 43) 193 rfl (b+1) 263 i _ 3 32 Tryz.underlying193 hi z A B rfl (by decide) v ts.length (Yb ts) rfl ?h1 ⟨w.heap.size,0,Y⟩ 1 1 [U E f,G (s.extract k ((k:Int)+(a:Int)).toNat),U E d] rfl rfl ?h2 ?h3 (by decide) ?h4 ?h5 ?h6 _ rfl ?h7
  case h1=>exact(ZP.alloc _).drew
  case h2=>exact F (aN w _)
  case h3=>simp[z0]
  case h4=>unfold maxLen;omega
  case h5=>omega
  case h6=>simp;omega
  case h7=>
   intro g cap w1 l j _ _;obtain⟨n,C,p⟩:=Qf ZP hb ((Below.refl _ _).alloc (L _) _).drew j;have q:=(n 0).trans y;have r:=(n 1).trans c1;have t:=(n 2).trans Q;have d3:=(n 3).trans x
   have df:∀o,w1.frozen? ⟨b,o,Y⟩=false:=fun o=>(C o).trans (W o)
   have HO:=Za l;have HB:=Za p;clear n C j l p y c1 Q x W ZP;refine h.out _ _ ⟨q,r,t⟩ (fun c=>?_);clear h K;go_frame;refine Zf 28 c ?_;go_frame;refine Zf 29 c ?_;go_frame;refine SX 30 (fun K h=>?_);go_simp;refine h.out _ _ ?_ (fun c=>?_)
   ·refine⟨?_,?_,?_⟩
    ·rw[cO _ _ _ _ (by simp)];exact q
    ·rw[cO _ _ _ _ (by simp)];exact r
    ·rw[cO _ _ _ _ (by simp)];exact t
   clear h K
   try go_frame
   refine wpAnyH_done (by kernel_rfl) ?_ _;obtain⟨e0,e1,e2⟩:=c;go_wp2
   go_end0
   have et:((k:Int)+(a:Int)).toNat=k+a:=by omega
   have P:=HO.o;rw[et]at P;have u:=IY (k':=k+a) (ts:=ts++[⟨f,s.extract k (k+a),d⟩]) (V:=.slice (O ⟨g,0,Y⟩) (ts.length+1) cap) q r t ⟨_,d3⟩ df (by rw[Tm,lA];exact P) HB.o (by simp;omega) hk (by omega) sz;rw[N]at u;exact⟨rfl,⟨_,u.1⟩,u.2⟩
def Zj (a b:Nat):Ending:=.panicked [{v:=.iface 111 (.agg #[U E a,U E b]),recovered:=false}]
theorem Gl (b:Nat)(s:ByteArray)(k c:Nat)(v:M)(ts:List Tk)(w:J)(f d a:Nat)(g:Sc w b s k c v ts)
  (l:a<d):
  D I 198 #[H (O ⟨b,0,Y⟩),U E f,U E d,U E a] w fun e w'=>e=Zj 2 c/\w'=w:=by
 obtain⟨m,c1,n,o,p,ZP,h,i,q,r⟩:=g
 have j:(a:Int)<(d:Int):=by omega
 clear ZP;go_enter Tryz.func198,Tryz.ntmps198;go_wp2;exact⟨rfl,rfl,rfl⟩
theorem Vd (b:Nat)(s:ByteArray)(k c:Nat)(v:M)(ts:List Tk)(w:J)(f a d:Nat)(i j l:Int)(h:Sc w b s k c v ts)
  (m:a<=d)(n:1<=a)(o:k+a<=s.size)(g:d<=3000)(p:i=f)(q:j=a)(r:l=d):
  D I 198 #[H (O ⟨b,0,Y⟩),U E i,U E j,U E l] w fun e w'=>e=Z (.tuple #[])/\
   (∃t,Sc w' b s (k+a) c t (ts++[⟨f,s.extract k (k+a),c⟩]))/\Below b w w':=by
 subst p q r;exact F6 b s k c v ts w f a d h m n o g
theorem PO (b:Nat)(s:ByteArray)(k a:Nat)(v:M)(ts:List Tk)(w:J)(d f c:Nat)(h i j:Int)(g:Sc w b s k a v ts)
  (l:c<f)(m:h=d)(n:i=f)(o:j=c):
  D I 198 #[H (O ⟨b,0,Y⟩),U E h,U E i,U E j] w fun e w'=>e=Zj 2 a/\w'=w:=by
 subst m n o;exact Gl b s k a v ts w d f c g l
def V3 (w:J)(b:Nat)(s:ByteArray)(k a:Nat)(ts:List Tk)(e:Ending)(w':J):Prop:=
 match Zl s k a with
 | .skip k' l'=>e=Z (.tuple #[])/\(∃c,Sc w' b s k' l' c ts)/\Below b w w'
 | .tok t k'=>e=Z (.tuple #[])/\(∃c,Sc w' b s k' a c (ts++[t]))/\Below b w w'
 | .bad=>e=Zj 2 a/\Below b w w'
theorem Sc.dr {w w':J}{b:Nat}{s:ByteArray}{k a:Nat}{v:M}{ts:List Tk}(h:Sc w b s k a v ts)(f:Dr w w'):Sc w' b s k a v ts:=by
 obtain⟨d,rfl⟩:=f;obtain⟨g,c1,i,j,l,ZP,c,e,m,n⟩:=h;exact⟨by simpa using g,by simpa using c1,by simpa using i,by simpa using j,by simpa using l,ZP,c,e,m,n⟩
theorem Dr.below {w w':J}(a:Dr w w')(B:Nat):Below B w w':=by
 obtain⟨d,rfl⟩:=a;exact⟨rfl,rfl,rfl,L _,fun _ _=>rfl⟩
theorem DM (b:Nat)(s:ByteArray)(k a:Nat)(v:M)(ts:List Tk)(w:J)(c:Sc w b s k a v ts)(p:k<s.size)(f:Zp (Zv s k)=true)
  (h:Xh (s.extract k (k+Zt Zi s k))=true):
  D I 197 #[H (O ⟨b,0,Y⟩)] w fun e w'=>e=Z (.tuple #[])/\(∃i,Sc w' b s (k+Zt Zi s k) a i (ts++[⟨2,s.extract k (k+Zt Zi s k),a⟩]))/\Below b w w':=by
 have q:=Xf Zi s k p (by simp[Zi,f]);have j:=Xw Zi s k (by omega)
 have d:D I 195 #[H (O ⟨b,0,Y⟩),.func (.func 152) #[] #[]] w fun e w'=>e=Z (U E (Zt Zi s k))/\Dr w w':=SW b s k w (by have:=c.sz;unfold maxLen;omega) (by omega) c.c0 c.c1
 have l:=Za c;have r:=c.sz;clear c f;generalize Zt Zi s k=n at*;have t:=Za d;clear d;have u:R.wrap ((k:Int)+(n:Int))=(k:Int)+(n:Int):=IntWalk.i64_in _ (by omega)
 have C:((k:Int)+(n:Int)).toNat=k+n:=by omega
 have x:(k:Int)<=(k:Int)+(n:Int):=by omega
 have y:(k:Int)+(n:Int)<=(s.size:Int):=by omega
 go_enter Tryz.func197,Tryz.ntmps197
 go_wp2_with (go_at_call 195;refine t.o.mono ?_;rintro e z ⟨rfl,g⟩;have m:Hid (Dr w z):=g;have F:=(l.o.dr g).c0;have c1:=(l.o.dr g).c1;clear g)
 go_big_quiet ((go_at_call 151;exact Calls.quiet_of_same (U0 _ _)))
 simp only[h]
 go_wp2_with (go_at_call 198;refine(Vd b s k a v ts _ 2 n n _ _ _ (by exact(l.o.dr m.o).dr ⟨_,rfl⟩) (by omega) q j (by omega) (by rfl) (by rfl) (by rfl)).mono ?_;rintro e w2 ⟨rfl,⟨i,A⟩,B⟩)
 go_end0
 exact⟨rfl,⟨i,A⟩,((m.o.next _).below b).trans B⟩
theorem Gm (b:Nat)(s:ByteArray)(k a:Nat)(v:M)(ts:List Tk)(w:J)(c:Sc w b s k a v ts)(p:k<s.size)(f:Zp (Zv s k)=true)
  (h:Xh (s.extract k (k+Zt Zi s k))=false)(q:Zt Zi s k<=8):
  D I 197 #[H (O ⟨b,0,Y⟩)] w fun e w'=>e=Z (.tuple #[])/\(∃i,Sc w' b s (k+Zt Zi s k) a i (ts++[⟨0,s.extract k (k+Zt Zi s k),a⟩]))/\Below b w w':=by
 have r:=Xf Zi s k p (by simp[Zi,f]);have j:=Xw Zi s k (by omega)
 have d:D I 195 #[H (O ⟨b,0,Y⟩),.func (.func 152) #[] #[]] w fun e w'=>e=Z (U E (Zt Zi s k))/\Dr w w':=SW b s k w (by have:=c.sz;unfold maxLen;omega) (by omega) c.c0 c.c1
 have l:=Za c;have t:=c.sz;clear c f;generalize Zt Zi s k=n at*;have u:=Za d;clear d;have x:R.wrap ((k:Int)+(n:Int))=(k:Int)+(n:Int):=IntWalk.i64_in _ (by omega)
 have F:((k:Int)+(n:Int)).toNat=k+n:=by omega
 have y:(k:Int)<=(k:Int)+(n:Int):=by omega
 have z:(k:Int)+(n:Int)<=(s.size:Int):=by omega
 go_enter Tryz.func197,Tryz.ntmps197
 go_wp2_with (go_at_call 195;refine u.o.mono ?_;rintro e A ⟨rfl,g⟩;have m:Hid (Dr w A):=g;have G:=(l.o.dr g).c0;have c1:=(l.o.dr g).c1;clear g)
 go_big_quiet ((go_at_call 151;exact Calls.quiet_of_same (U0 _ _)))
 simp only[h]
 go_wp2_with (go_at_call 198;refine(Vd b s k a v ts _ 0 n 8 _ _ _ (by exact(l.o.dr m.o).dr ⟨_,rfl⟩) q r j (by omega) (by rfl) (by rfl) (by rfl)).mono ?_;rintro e w2 ⟨rfl,⟨i,B⟩,C⟩)
 go_end0
 exact⟨rfl,⟨i,B⟩,((m.o.next _).below b).trans C⟩
theorem F8 (b:Nat)(s:ByteArray)(k c:Nat)(v:M)(ts:List Tk)(w:J)(a:Sc w b s k c v ts)(m:k<s.size)(f:Zp (Zv s k)=true)
  (h:Xh (s.extract k (k+Zt Zi s k))=false)(p:8<Zt Zi s k):
  D I 197 #[H (O ⟨b,0,Y⟩)] w fun e w'=>e=Zj 2 c/\Below b w w':=by
 have A:=Xf Zi s k m (by simp[Zi,f]);have q:=Xw Zi s k (by omega)
 have d:D I 195 #[H (O ⟨b,0,Y⟩),.func (.func 152) #[] #[]] w fun e w'=>e=Z (U E (Zt Zi s k))/\Dr w w':=SW b s k w (by have:=a.sz;unfold maxLen;omega) (by omega) a.c0 a.c1
 have i:=Za a;have r:=a.sz;clear a f;generalize Zt Zi s k=n at*;have t:=Za d;clear d;have u:R.wrap ((k:Int)+(n:Int))=(k:Int)+(n:Int):=IntWalk.i64_in _ (by omega)
 have B:((k:Int)+(n:Int)).toNat=k+n:=by omega
 have x:(k:Int)<=(k:Int)+(n:Int):=by omega
 have y:(k:Int)+(n:Int)<=(s.size:Int):=by omega
 go_enter Tryz.func197,Tryz.ntmps197
 go_wp2_with (go_at_call 195;refine t.o.mono ?_;rintro e z ⟨rfl,g⟩;have j:Hid (Dr w z):=g;have C:=(i.o.dr g).c0;have c1:=(i.o.dr g).c1;clear g)
 go_big_quiet ((go_at_call 151;exact Calls.quiet_of_same (U0 _ _)))
 simp only[h]
 go_wp2_with (go_at_call 198;refine(PO b s k c v ts _ 0 n 8 _ _ _ (by exact(i.o.dr j.o).dr ⟨_,rfl⟩) p (by rfl) (by rfl) (by rfl)).mono ?_;rintro e w2 ⟨l,rfl⟩;unfold Zj at l;subst l)
 exact⟨rfl,rfl,(j.o.next _).below b⟩
theorem Sc.move {w:J}{b:Nat}{s:ByteArray}{k a:Nat}{v:M}{ts:List Tk}(h:Sc w b s k a v ts)(k':Nat)(m:k<=k')(c:k'<=s.size):
  Sc (w.setCell ⟨b,1,Y⟩ (U E k')) b s k' a v ts/\Below b w (w.setCell ⟨b,1,Y⟩ (U E k')):=by
 obtain⟨d,c1,e,f,g,ZP,i,j,n,l⟩:=h;refine⟨⟨?_,?_,?_,?_,fun o=>by simp[g o],?_,by omega,c,by omega,l⟩,?_⟩
 ·rw[cO _ _ _ _ (by simp)];exact d
 ·exact cS _ _ _ c1
 ·rw[cO _ _ _ _ (by simp)];exact e
 ·rw[cO _ _ _ _ (by simp)];exact f
 ·exact oB ZP (by simp) _
 ·exact(Below.refl _ _).setCell (by simp) _
theorem Sc.line {w:J}{b:Nat}{s:ByteArray}{k a:Nat}{v:M}{ts:List Tk}(h:Sc w b s k a v ts)(k':Nat)(m:k<k')(c:k'<=s.size):
  Sc ((w.setCell ⟨b,2,Y⟩ (U E (a+1:Nat))).setCell ⟨b,1,Y⟩ (U E k')) b s k' (a+1) v ts/\
   Below b w ((w.setCell ⟨b,2,Y⟩ (U E (a+1:Nat))).setCell ⟨b,1,Y⟩ (U E k')):=by
 obtain⟨d,c1,e,f,g,ZP,i,j,n,l⟩:=h;refine⟨⟨?_,?_,?_,?_,fun o=>by simp[g o],?_,by omega,c,by omega,l⟩,?_⟩
 ·rw[cO _ _ _ _ (by simp),cO _ _ _ _ (by simp)];exact d
 ·exact cS _ _ _ (u:=U E k) (by rw[cO _ _ _ _ (by simp)];exact c1)
 ·rw[cO _ _ _ _ (by simp)];exact cS _ _ _ e
 ·rw[cO _ _ _ _ (by simp),cO _ _ _ _ (by simp)];exact f
 ·exact oB (oB ZP (by simp) _) (by simp) _
 ·exact((Below.refl _ _).setCell (by simp) _).setCell (by simp) _
theorem Dr.drew {w w':J}(h:Dr w w'):Dr w w'.drew:=h.trans ⟨1,rfl⟩
theorem DN (b:Nat)(s:ByteArray)(k a:Nat)(v:M)(ts:List Tk)(w:J)(c:Sc w b s k a v ts)(h:k<s.size)(p:Zv s k=10):
  D I 159 #[H (O ⟨b,0,Y⟩)] w fun e w'=>e=Z (.tuple #[])/\(∃i,Sc w' b s (k+1) (a+1) i ts)/\Below b w w':=by
 have j:=fun w=>ZN (P:=I) Tryz.underlying9 s k (k:Int) rfl h w
 have l:(k:Int)<(s.size:Int):=by omega
 have m:=Za c;obtain⟨q,c1,r,n,t,ZP,d,f,u,x⟩:=c;clear ZP d f n;go_enter Tryz.func159,Tryz.ntmps159;go_wp2_with fail
 go_big_quiet ((fail))
 go_wp2
 go_end0
 have g:=(m.o.dr ⟨nq,rfl⟩).line (k+1) (by omega) (by omega);rw[N,N]at g;exact⟨rfl,⟨v,g.1⟩,(Dr.below ⟨nq,rfl⟩ b).trans g.2⟩
theorem DO (b:Nat)(s:ByteArray)(k a:Nat)(v:M)(ts:List Tk)(w:J)(c:Sc w b s k a v ts)(h:k<s.size)(p:Zv s k=32):
  D I 159 #[H (O ⟨b,0,Y⟩)] w fun e w'=>e=Z (.tuple #[])/\(∃i,Sc w' b s (k+1) (a) i ts)/\Below b w w':=by
 have j:=fun w=>ZN (P:=I) Tryz.underlying9 s k (k:Int) rfl h w
 have l:(k:Int)<(s.size:Int):=by omega
 have m:=Za c;obtain⟨q,c1,r,n,t,ZP,d,f,u,x⟩:=c;clear ZP d f n;go_enter Tryz.func159,Tryz.ntmps159;go_wp2_with fail
 go_big_quiet ((fail))
 go_wp2
 go_end0
 have g:=(m.o.dr ⟨nq,rfl⟩).move (k+1) (by omega) (by omega);rw[N]at g;exact⟨rfl,⟨v,g.1⟩,(Dr.below ⟨nq,rfl⟩ b).trans g.2⟩
theorem F9 (b:Nat)(s:ByteArray)(k a:Nat)(v:M)(ts:List Tk)(w:J)(c:Sc w b s k a v ts)(h:k<s.size)(p:Zv s k=9):
  D I 159 #[H (O ⟨b,0,Y⟩)] w fun e w'=>e=Z (.tuple #[])/\(∃i,Sc w' b s (k+1) (a) i ts)/\Below b w w':=by
 have j:=fun w=>ZN (P:=I) Tryz.underlying9 s k (k:Int) rfl h w
 have l:(k:Int)<(s.size:Int):=by omega
 have m:=Za c;obtain⟨q,c1,r,n,t,ZP,d,f,u,x⟩:=c;clear ZP d f n;go_enter Tryz.func159,Tryz.ntmps159;go_wp2_with fail
 go_big_quiet ((fail))
 go_wp2
 go_end0
 have g:=(m.o.dr ⟨nq,rfl⟩).move (k+1) (by omega) (by omega);rw[N]at g;exact⟨rfl,⟨v,g.1⟩,(Dr.below ⟨nq,rfl⟩ b).trans g.2⟩
theorem LD (b:Nat)(s:ByteArray)(k c:Nat)(v:M)(ts:List Tk)(w:J)(a:Sc w b s k c v ts)(m:k<s.size)(z:Zv s k=35):
  D I 159 #[H (O ⟨b,0,Y⟩)] w fun e w'=>e=Z (.tuple #[])/\(∃p,Sc w' b s (k+Zt Zy s k) c p ts)/\Below b w w':=by
 have g:=Xw Zy s k (by omega)
 have q:Hid (∀W,Dr w W->D I 195 #[H (O ⟨b,0,Y⟩),.func (.func 196) #[] #[]] W fun e w'=>e=Z (U E (Zt Zy s k))/\Dr W w'):=
  fun W d=>MI b s k W (by have:=a.sz;unfold maxLen;omega) (by omega) (a.dr d).c0 (a.dr d).c1
 generalize Zt Zy s k=n at*
 have r:=fun w=>ZN (P:=I) Tryz.underlying9 s k (k:Int) rfl m w
 have t:(k:Int)<(s.size:Int):=by omega
 have h:=Za a;obtain⟨A,c1,B,u,C,ZP,i,j,F,G⟩:=a;clear ZP i j u;have x:R.wrap ((k:Int)+(n:Int))=(k:Int)+(n:Int):=IntWalk.i64_in _ (by omega);go_enter Tryz.func159,Tryz.ntmps159;go_wp2_with fail
 go_big_quiet ((fail))
 go_wp2_with fail
 go_region_with (go_at_call 195;refine(q.o _ (by exact((Dr.refl w).next nq).drew)).mono ?_;rintro e y ⟨rfl,d⟩;have f:Hid (Dr w y):=(((Dr.refl w).next nq).drew).trans d;have K:=(h.o.dr f.o).c1;have L:=(h.o.dr f.o).fz;clear d)
 all_goals
  go_wp2
  go_end0
  have l:=(h.o.dr f.o).move (k+n) (by omega) g;rw[N]at l;exact⟨rfl,⟨v,l.1⟩,(f.o.below b).trans l.2⟩
theorem Ea (b:Nat)(s:ByteArray)(k a:Nat)(v:M)(ts:List Tk)(w:J)(c:Sc w b s k a v ts)(j:k<s.size)(d:Zp (Zv s k)=true)(f:Xh (s.extract k (k+Zt Zi s k))=true):
  D I 159 #[H (O ⟨b,0,Y⟩)] w fun e w'=>e=Z (.tuple #[])/\(∃g,Sc w' b s (k+Zt Zi s k) a g (ts++[⟨2,s.extract k (k+Zt Zi s k),a⟩]))/\Below b w w':=by
 have l:Hid (∀W,Dr w W->D I 197 #[H (O ⟨b,0,Y⟩)] W fun e w'=>e=Z (.tuple #[])/\(∃g,Sc w' b s (k+Zt Zi s k) a g (ts++[⟨2,s.extract k (k+Zt Zi s k),a⟩]))/\Below b W w'):=fun W m=>DM b s k a v ts W (c.dr m) j d f
 have A:97<=Zv s k:=by simp[Zp]at d;omega
 have p:(Zv s k==10)=false:=by simp;omega
 have q:(Zv s k==32)=false:=by simp;omega
 have B:(Zv s k==9)=false:=by simp;omega
 have r:(Zv s k==35)=false:=by simp;omega
 clear f;generalize Zt Zi s k=n at*
 have t:=fun w=>ZN (P:=I) Tryz.underlying9 s k (k:Int) rfl j w
 have u:(k:Int)<(s.size:Int):=by omega
 have C:=Za c;obtain⟨E,c1,F,x,G,ZP,h,i,K,L⟩:=c;clear ZP h i x;go_enter Tryz.func159,Tryz.ntmps159;go_wp2_with fail
 go_big_quiet ((fail))
 go_wp2_with (first|(go_at_call 150;refine(Yx _ _).mono ?_;rintro e w' ⟨rfl,rfl⟩;simp only[d])|(go_at_call 197;refine(l.o _ (by exact⟨_,rfl⟩)).mono ?_;rintro e w2 ⟨rfl,⟨g,y⟩,z⟩))
 go_end0
 exact⟨rfl,⟨g,y⟩,(Dr.below ⟨nq,rfl⟩ b).trans z⟩
theorem Jn (b:Nat)(s:ByteArray)(k a:Nat)(v:M)(ts:List Tk)(w:J)(c:Sc w b s k a v ts)(j:k<s.size)(d:Zp (Zv s k)=true)(f:Xh (s.extract k (k+Zt Zi s k))=false)(l:Zt Zi s k<=8):
  D I 159 #[H (O ⟨b,0,Y⟩)] w fun e w'=>e=Z (.tuple #[])/\(∃g,Sc w' b s (k+Zt Zi s k) a g (ts++[⟨0,s.extract k (k+Zt Zi s k),a⟩]))/\Below b w w':=by
 have m:Hid (∀W,Dr w W->D I 197 #[H (O ⟨b,0,Y⟩)] W fun e w'=>e=Z (.tuple #[])/\(∃g,Sc w' b s (k+Zt Zi s k) a g (ts++[⟨0,s.extract k (k+Zt Zi s k),a⟩]))/\Below b W w'):=fun W p=>Gm b s k a v ts W (c.dr p) j d f l
 have B:97<=Zv s k:=by simp[Zp]at d;omega
 have q:(Zv s k==10)=false:=by simp;omega
 have r:(Zv s k==32)=false:=by simp;omega
 have C:(Zv s k==9)=false:=by simp;omega
 have t:(Zv s k==35)=false:=by simp;omega
 clear f l;generalize Zt Zi s k=n at*
 have u:=fun w=>ZN (P:=I) Tryz.underlying9 s k (k:Int) rfl j w
 have x:(k:Int)<(s.size:Int):=by omega
 have E:=Za c;obtain⟨F,c1,G,y,K,ZP,h,i,L,N⟩:=c;clear ZP h i y;go_enter Tryz.func159,Tryz.ntmps159;go_wp2_with fail
 go_big_quiet ((fail))
 go_wp2_with (first|(go_at_call 150;refine(Yx _ _).mono ?_;rintro e w' ⟨rfl,rfl⟩;simp only[d])|(go_at_call 197;refine(m.o _ (by exact⟨_,rfl⟩)).mono ?_;rintro e w2 ⟨rfl,⟨g,z⟩,A⟩))
 go_end0
 exact⟨rfl,⟨g,z⟩,(Dr.below ⟨nq,rfl⟩ b).trans A⟩
theorem Gn (b:Nat)(s:ByteArray)(k a:Nat)(v:M)(ts:List Tk)(w:J)(c:Sc w b s k a v ts)(i:k<s.size)(d:Zp (Zv s k)=true)(f:Xh (s.extract k (k+Zt Zi s k))=false)(j:8<Zt Zi s k):
  D I 159 #[H (O ⟨b,0,Y⟩)] w fun e w'=>e=Zj 2 a/\Below b w w':=by
 have m:Hid (∀W,Dr w W->D I 197 #[H (O ⟨b,0,Y⟩)] W fun e w'=>e=Zj 2 a/\Below b W w'):=fun W p=>F8 b s k a v ts W (c.dr p) i d f j
 have A:97<=Zv s k:=by simp[Zp]at d;omega
 have q:(Zv s k==10)=false:=by simp;omega
 have r:(Zv s k==32)=false:=by simp;omega
 have B:(Zv s k==9)=false:=by simp;omega
 have t:(Zv s k==35)=false:=by simp;omega
 clear f j;generalize Zt Zi s k=n at*
 have u:=fun w=>ZN (P:=I) Tryz.underlying9 s k (k:Int) rfl i w
 have x:(k:Int)<(s.size:Int):=by omega
 have C:=Za c;obtain⟨E,c1,F,y,G,ZP,g,h,K,L⟩:=c;clear ZP g h y;go_enter Tryz.func159,Tryz.ntmps159;go_wp2_with fail
 go_big_quiet ((fail))
 go_wp2_with (first|(go_at_call 150;refine(Yx _ _).mono ?_;rintro e w' ⟨rfl,rfl⟩;simp only[d])|(go_at_call 197;refine(m.o _ (by exact⟨_,rfl⟩)).mono ?_;rintro e w2 ⟨l,z⟩;unfold Zj at l;subst l))
 exact⟨rfl,rfl,(Dr.below ⟨nq,rfl⟩ b).trans z⟩
