import Derived.Test.YtccikgogjfbpeaaGreatDoorQl
import Derived.Deep.CutBlock
open Go.Value renaming string->I,int->J,agg->O,slice->G,bool->N,oneCell'->L,string->W
open Go.Proofs.Tryz renaming prog->S
open Option renaming some->V,none->M
open Go renaming World->Y,Calls->K
open Go.IntKind renaming i64->Z,u8->B,i64->R
open Go.Ending renaming returned->U
open Go.RowKit renaming Hid->E
open Bool renaming or_eq_true->D
namespace Go.Proofs.YtccikgogjfbpeaaGreatDoor
set_option maxRecDepth 30000
set_option maxHeartbeats 8000000
open Go.RowKit
def Rb:V5->ByteArray
 | .rules=>⟨#[114,117,108,101,115]⟩
 | .mccs=>⟨#[109,99,99,115]⟩
 | .amounts=>⟨#[97,109,111,117,110,116,115]⟩
 | .curs=>⟨#[99,117,114,115]⟩
 | .ints=>⟨#[105,110,116,115]⟩
 | .names=>⟨#[110,97,109,101,115]⟩
 | .action=>⟨#[97,99,116,105,111,110]⟩
 | .NAME=>⟨#[78,65,77,69]⟩
 | .INT=>⟨#[73,78,84]⟩
 | .lit m=>m
def Z0 (l:List V5):List Value:=l.map fun y=>W (Rb y)
def Y5 (x:Option (List V5))(w:Y)(e:Ending)(w':Y):Prop:=
 match x with
 |some l=>(∃g c,e=U (.tuple #[G (V ⟨g,0,M⟩) l.length c,N true])/\w.heap.size<=g/\g<w'.heap.size/\∀j u,(Z0 l)[j]?=V u->w'.cell? ⟨g,j,M⟩=V u)/\F0 w w'
 |none=>e=U (.tuple #[G M 0 0,N false])/\F0 w w'
theorem Y5.some {x:Option (List V5)}{w w':Y}{e:Ending}{l:List V5}(h:x=V l):Y5 x w e w'↔(∃g c,e=U (.tuple #[G (V ⟨g,0,M⟩) l.length c,N true])/\w.heap.size<=g/\g<w'.heap.size/\∀j u,(Z0 l)[j]?=V u->w'.cell? ⟨g,j,M⟩=V u)/\F0 w w':=by subst h;exact Iff.rfl
theorem Y5.none {x:Option (List V5)}{w w':Y}{e:Ending}(h:x=M):Y5 x w e w'↔e=U (.tuple #[G M 0 0,N false])/\F0 w w':=by subst h;exact Iff.rfl
theorem X6 {w w2:Y}{l:List V5}{b:Array Value}{c H:Nat}{T:TypeId}(d:F0 w w2)(a:b.toList=Z0 l)(f:w2.heap.size=H):Y5 (V l) w (U (.tuple #[G (V ⟨H,0,M⟩) l.length c,N true])) (w2.alloc (.cells b T)):=by
 subst f;refine(Y5.some rfl).2 ⟨⟨_,_,rfl,d.size,by simp,fun j u e=>?_⟩,d.alloc _⟩;rw[<-a]at e;exact bC (aN w2 _) j _ (by simpa using e)
theorem Vj {w w':Y}{l:List V5}{c g:Nat}(a:l=[])(b:w.heap.size<=g)(d:g<w'.heap.size)(e:F0 w w'):Y5 (V l) w (U (.tuple #[G (V ⟨g,0,M⟩) 0 c,N true])) w':=by
 subst a;exact(Y5.some rfl).2 ⟨⟨_,_,rfl,b,d,fun j u f=>by simp[Z0]at f⟩,e⟩
theorem GC:∀m,m∈YO->(m.data.toList==[114,117,108,101,115])=false/\(m.data.toList==[109,99,99,115])=false/\(m.data.toList==[97,109,111,117,110,116,115])=false/\(m.data.toList==[99,117,114,115])=false/\(m.data.toList==[105,110,116,115])=false/\(m.data.toList==[110,97,109,101,115])=false/\(m.data.toList==[97,99,116,105,111,110])=false:=by decide
theorem Tp (x t:ByteArray)(a b:Int)(w:Y)(c:(x.toList==[114,117,108,101,115])=false)(d:(x.toList==[109,99,99,115])=false)(f:(x.toList==[97,109,111,117,110,116,115])=false)(g:(x.toList==[99,117,114,115])=false)(h:(x.toList==[105,110,116,115])=false)(i:(x.toList==[110,97,109,101,115])=false)(j:(x.toList==[97,99,116,105,111,110])=false):
  K S 130 #[I x,O #[I t,J B a,J Z b]] w fun e w'=>e=U (.tuple #[G M 0 0,N false])/\F0 w w':=by
 go_enter Tryz.func130,Tryz.ntmps130;go_wp2
 go_ret2
 exact⟨rfl,((Fr.refl _ _).alloc _).alloc _⟩
theorem JF (x t:ByteArray)(a b:Int)(w:Y)(c:(x.toList==[114,117,108,101,115])=true)(d:(t.toList==[114,111,117,116,101])=true):
  K S 130 #[I x,O #[I t,J B a,J Z b]] w (Y5 (V (U7)) w):=by
 go_enter Tryz.func130,Tryz.ntmps130;go_wp2
 go_ret2
 exact X6 (l:=U7) (((Fr.refl _ _).alloc _).alloc _) (by rfl) (by simp)
theorem JG (x t:ByteArray)(a b:Int)(w:Y)(c:(x.toList==[114,117,108,101,115])=true)(d:(t.toList==[114,111,117,116,101])=false)(e:(t.toList==[114,117,108,101])=true):
  K S 130 #[I x,O #[I t,J B a,J Z b]] w (Y5 (V (TS)) w):=by
 go_enter Tryz.func130,Tryz.ntmps130;go_wp2
 go_ret2
 exact X6 (l:=TS) (((Fr.refl _ _).alloc _).alloc _) (by rfl) (by simp)
theorem JH (x t:ByteArray)(a b:Int)(w:Y)(c:(x.toList==[114,117,108,101,115])=true)(d:(t.toList==[114,111,117,116,101])=false)(e:(t.toList==[114,117,108,101])=false):
  K S 130 #[I x,O #[I t,J B a,J Z b]] w (Y5 (V ([])) w):=by
 go_enter Tryz.func130,Tryz.ntmps130;go_wp2
 go_ret2
 exact Vj (l:=[]) rfl (by simp) (by simp) (((Fr.refl _ _).alloc _).alloc _)
theorem GD (x t:ByteArray)(a b:Int)(w:Y)(c:(x.toList==[114,117,108,101,115])=false)(d:(x.toList==[109,99,99,115])=true)(e:(t.toList==[109,99,99])=true):
  K S 130 #[I x,O #[I t,J B a,J Z b]] w (Y5 (V ([.lit Wc,.INT,.ints])) w):=by
 go_enter Tryz.func130,Tryz.ntmps130;go_wp2
 go_ret2
 exact X6 (l:=[.lit Wc,.INT,.ints]) (((Fr.refl _ _).alloc _).alloc _) (by rfl) (by simp)
theorem GE (x t:ByteArray)(a b:Int)(w:Y)(c:(x.toList==[114,117,108,101,115])=false)(d:(x.toList==[109,99,99,115])=true)(e:(t.toList==[109,99,99])=false):
  K S 130 #[I x,O #[I t,J B a,J Z b]] w (Y5 (V ([])) w):=by
 go_enter Tryz.func130,Tryz.ntmps130;go_wp2
 go_ret2
 exact Vj (l:=[]) rfl (by simp) (by simp) (((Fr.refl _ _).alloc _).alloc _)
theorem MZ (x t:ByteArray)(a b:Int)(w:Y)(c:(x.toList==[114,117,108,101,115])=false)(d:(x.toList==[109,99,99,115])=false)(e:(x.toList==[97,109,111,117,110,116,115])=true)(f:(t.toList==[97,109,111,117,110,116])=true):
  K S 130 #[I x,O #[I t,J B a,J Z b]] w (Y5 (V ([.lit ZS,.INT,.lit Vb,.INT])) w):=by
 go_enter Tryz.func130,Tryz.ntmps130;go_wp2
 go_ret2
 exact X6 (l:=[.lit ZS,.INT,.lit Vb,.INT]) (((Fr.refl _ _).alloc _).alloc _) (by rfl) (by simp)
theorem M0 (x t:ByteArray)(a b:Int)(w:Y)(c:(x.toList==[114,117,108,101,115])=false)(d:(x.toList==[109,99,99,115])=false)(e:(x.toList==[97,109,111,117,110,116,115])=true)(f:(t.toList==[97,109,111,117,110,116])=false):
  K S 130 #[I x,O #[I t,J B a,J Z b]] w (Y5 (V ([])) w):=by
 go_enter Tryz.func130,Tryz.ntmps130;go_wp2
 go_ret2
 exact Vj (l:=[]) rfl (by simp) (by simp) (((Fr.refl _ _).alloc _).alloc _)
theorem GF (x t:ByteArray)(a b:Int)(w:Y)(c:(x.toList==[114,117,108,101,115])=false)(d:(x.toList==[109,99,99,115])=false)(e:(x.toList==[97,109,111,117,110,116,115])=false)(f:(x.toList==[99,117,114,115])=true)(g:(t.toList==[99,117,114])=true):
  K S 130 #[I x,O #[I t,J B a,J Z b]] w (Y5 (V ([.lit WD,.INT,.ints])) w):=by
 go_enter Tryz.func130,Tryz.ntmps130;go_wp2
 go_ret2
 exact X6 (l:=[.lit WD,.INT,.ints]) (((Fr.refl _ _).alloc _).alloc _) (by rfl) (by simp)
theorem GG (x t:ByteArray)(a b:Int)(w:Y)(c:(x.toList==[114,117,108,101,115])=false)(d:(x.toList==[109,99,99,115])=false)(e:(x.toList==[97,109,111,117,110,116,115])=false)(f:(x.toList==[99,117,114,115])=true)(g:(t.toList==[99,117,114])=false):
  K S 130 #[I x,O #[I t,J B a,J Z b]] w (Y5 (V ([])) w):=by
 go_enter Tryz.func130,Tryz.ntmps130;go_wp2
 go_ret2
 exact Vj (l:=[]) rfl (by simp) (by simp) (((Fr.refl _ _).alloc _).alloc _)
theorem GH (x t:ByteArray)(a b:Int)(w:Y)(c:(x.toList==[114,117,108,101,115])=false)(d:(x.toList==[109,99,99,115])=false)(e:(x.toList==[97,109,111,117,110,116,115])=false)(f:(x.toList==[99,117,114,115])=false)(g:(x.toList==[105,110,116,115])=true)(h:(t.toList==[44])=true):
  K S 130 #[I x,O #[I t,J B a,J Z b]] w (Y5 (V ([.lit Yq,.INT,.ints])) w):=by
 go_enter Tryz.func130,Tryz.ntmps130;go_wp2
 go_ret2
 exact X6 (l:=[.lit Yq,.INT,.ints]) (((Fr.refl _ _).alloc _).alloc _) (by rfl) (by simp)
theorem GI (x t:ByteArray)(a b:Int)(w:Y)(c:(x.toList==[114,117,108,101,115])=false)(d:(x.toList==[109,99,99,115])=false)(e:(x.toList==[97,109,111,117,110,116,115])=false)(f:(x.toList==[99,117,114,115])=false)(g:(x.toList==[105,110,116,115])=true)(h:(t.toList==[44])=false):
  K S 130 #[I x,O #[I t,J B a,J Z b]] w (Y5 (V ([])) w):=by
 go_enter Tryz.func130,Tryz.ntmps130;go_wp2
 go_ret2
 exact Vj (l:=[]) rfl (by simp) (by simp) (((Fr.refl _ _).alloc _).alloc _)
theorem JI (x t:ByteArray)(a b:Int)(w:Y)(c:(x.toList==[114,117,108,101,115])=false)(d:(x.toList==[109,99,99,115])=false)(e:(x.toList==[97,109,111,117,110,116,115])=false)(f:(x.toList==[99,117,114,115])=false)(g:(x.toList==[105,110,116,115])=false)(h:(x.toList==[110,97,109,101,115])=true)(i:(t.toList==[44])=true):
  K S 130 #[I x,O #[I t,J B a,J Z b]] w (Y5 (V ([.lit Yq,.NAME,.names])) w):=by
 go_enter Tryz.func130,Tryz.ntmps130;go_wp2
 go_ret2
 exact X6 (l:=[.lit Yq,.NAME,.names]) (((Fr.refl _ _).alloc _).alloc _) (by rfl) (by simp)
theorem JJ (x t:ByteArray)(a b:Int)(w:Y)(c:(x.toList==[114,117,108,101,115])=false)(d:(x.toList==[109,99,99,115])=false)(e:(x.toList==[97,109,111,117,110,116,115])=false)(f:(x.toList==[99,117,114,115])=false)(g:(x.toList==[105,110,116,115])=false)(h:(x.toList==[110,97,109,101,115])=true)(i:(t.toList==[44])=false):
  K S 130 #[I x,O #[I t,J B a,J Z b]] w (Y5 (V ([])) w):=by
 go_enter Tryz.func130,Tryz.ntmps130;go_wp2
 go_ret2
 exact Vj (l:=[]) rfl (by simp) (by simp) (((Fr.refl _ _).alloc _).alloc _)
theorem L1 (x t:ByteArray)(a b:Int)(w:Y)(c:(x.toList==[114,117,108,101,115])=false)(d:(x.toList==[109,99,99,115])=false)(e:(x.toList==[97,109,111,117,110,116,115])=false)(f:(x.toList==[99,117,114,115])=false)(g:(x.toList==[105,110,116,115])=false)(h:(x.toList==[110,97,109,101,115])=false)(i:(x.toList==[97,99,116,105,111,110])=true)(j:(t.toList==[100,101,99,108,105,110,101])=true):
  K S 130 #[I x,O #[I t,J B a,J Z b]] w (Y5 (V ([.lit Yj])) w):=by
 go_enter Tryz.func130,Tryz.ntmps130;go_wp2
 go_ret2
 exact X6 (l:=[.lit Yj]) (((Fr.refl _ _).alloc _).alloc _) (by rfl) (by simp)
theorem L2 (x t:ByteArray)(a b:Int)(w:Y)(c:(x.toList==[114,117,108,101,115])=false)(d:(x.toList==[109,99,99,115])=false)(e:(x.toList==[97,109,111,117,110,116,115])=false)(f:(x.toList==[99,117,114,115])=false)(g:(x.toList==[105,110,116,115])=false)(h:(x.toList==[110,97,109,101,115])=false)(i:(x.toList==[97,99,116,105,111,110])=true)(j:(t.toList==[100,101,99,108,105,110,101])=false)(k:(t.toList==[99,104,101,97,112,101,115,116])=true):
  K S 130 #[I x,O #[I t,J B a,J Z b]] w (Y5 (V ([.lit ZY,.NAME,.names])) w):=by
 go_enter Tryz.func130,Tryz.ntmps130;go_wp2
 go_ret2
 exact X6 (l:=[.lit ZY,.NAME,.names]) (((Fr.refl _ _).alloc _).alloc _) (by rfl) (by simp)
theorem L3 (x t:ByteArray)(a b:Int)(w:Y)(c:(x.toList==[114,117,108,101,115])=false)(d:(x.toList==[109,99,99,115])=false)(e:(x.toList==[97,109,111,117,110,116,115])=false)(f:(x.toList==[99,117,114,115])=false)(g:(x.toList==[105,110,116,115])=false)(h:(x.toList==[110,97,109,101,115])=false)(i:(x.toList==[97,99,116,105,111,110])=true)(j:(t.toList==[100,101,99,108,105,110,101])=false)(k:(t.toList==[99,104,101,97,112,101,115,116])=false):
  K S 130 #[I x,O #[I t,J B a,J Z b]] w (Y5 (V ([.NAME,.names])) w):=by
 go_enter Tryz.func130,Tryz.ntmps130;go_wp2
 go_ret2
 exact X6 (l:=[.NAME,.names]) (((Fr.refl _ _).alloc _).alloc _) (by rfl) (by simp)
theorem Zx {a:ByteArray}{l:List UInt8}(h:(a.data.toList==l)=false):(a.toList==l)=false:=by rw[ByteArray.toList_eq];exact h
theorem VN {a:ByteArray}{l:List UInt8}(h:(a.data.toList==l)=true):(a.toList==l)=true:=by rw[ByteArray.toList_eq];exact h
theorem Yp {t:Tk}(h:Vh t){m:ByteArray}(a:m∈YO){l:List UInt8}(b:m.data.toList=l):(t.text.toList==l)=Zq t m:=by
 rw[h m a,ByteArray.toList_eq m,b]
theorem L4 (y:V5)(t:Tk)(b c:Int)(w:Y)(f:∀m,y=.lit m->m∈YO)(d:Vh t):
  K S 130 #[I (Rb y),O #[I t.text,J B b,J Z c]] w (Y5 (Zm y t) w):=by
 cases y with
 |rules=>
  by_cases a:Zq t Wb=true
  ·rw[show Zm .rules t=V (U7)from by simp[Zm,a]]
   exact JF _ _ b c w (VN (by decide)) ((Yp d (m:=Wb) (by simp[YO]) rfl).trans a)
  by_cases e:Zq t VP=true
  ·rw[show Zm .rules t=V (TS)from by simp[Zm,a,e]]
   exact JG _ _ b c w (VN (by decide)) ((Yp d (m:=Wb) (by simp[YO]) rfl).trans (by simpa using a)) ((Yp d (m:=VP) (by simp[YO]) rfl).trans e)
  rw[show Zm .rules t=V ([])from by simp[Zm,a,e]];exact JH _ _ b c w (VN (by decide)) ((Yp d (m:=Wb) (by simp[YO]) rfl).trans (by simpa using a)) ((Yp d (m:=VP) (by simp[YO]) rfl).trans (by simpa using e))
 |mccs=>
  by_cases a:Zq t Wc=true
  ·rw[show Zm .mccs t=V ([.lit Wc,.INT,.ints])from by simp[Zm,a]]
   exact GD _ _ b c w (Zx (by decide)) (VN (by decide)) ((Yp d (m:=Wc) (by simp[YO]) rfl).trans a)
  rw[show Zm .mccs t=V ([])from by simp[Zm,a]];exact GE _ _ b c w (Zx (by decide)) (VN (by decide)) ((Yp d (m:=Wc) (by simp[YO]) rfl).trans (by simpa using a))
 |amounts=>
  by_cases a:Zq t ZS=true
  ·rw[show Zm .amounts t=V ([.lit ZS,.INT,.lit Vb,.INT])from by simp[Zm,a]]
   exact MZ _ _ b c w (Zx (by decide)) (Zx (by decide)) (VN (by decide)) ((Yp d (m:=ZS) (by simp[YO]) rfl).trans a)
  rw[show Zm .amounts t=V ([])from by simp[Zm,a]];exact M0 _ _ b c w (Zx (by decide)) (Zx (by decide)) (VN (by decide)) ((Yp d (m:=ZS) (by simp[YO]) rfl).trans (by simpa using a))
 |curs=>
  by_cases a:Zq t WD=true
  ·rw[show Zm .curs t=V ([.lit WD,.INT,.ints])from by simp[Zm,a]]
   exact GF _ _ b c w (Zx (by decide)) (Zx (by decide)) (Zx (by decide)) (VN (by decide)) ((Yp d (m:=WD) (by simp[YO]) rfl).trans a)
  rw[show Zm .curs t=V ([])from by simp[Zm,a]];exact GG _ _ b c w (Zx (by decide)) (Zx (by decide)) (Zx (by decide)) (VN (by decide)) ((Yp d (m:=WD) (by simp[YO]) rfl).trans (by simpa using a))
 |ints=>
  by_cases a:Zq t Yq=true
  ·rw[show Zm .ints t=V ([.lit Yq,.INT,.ints])from by simp[Zm,a]]
   exact GH _ _ b c w (Zx (by decide)) (Zx (by decide)) (Zx (by decide)) (Zx (by decide)) (VN (by decide)) ((Yp d (m:=Yq) (by simp[YO]) rfl).trans a)
  rw[show Zm .ints t=V ([])from by simp[Zm,a]];exact GI _ _ b c w (Zx (by decide)) (Zx (by decide)) (Zx (by decide)) (Zx (by decide)) (VN (by decide)) ((Yp d (m:=Yq) (by simp[YO]) rfl).trans (by simpa using a))
 |names=>
  by_cases a:Zq t Yq=true
  ·rw[show Zm .names t=V ([.lit Yq,.NAME,.names])from by simp[Zm,a]]
   exact JI _ _ b c w (Zx (by decide)) (Zx (by decide)) (Zx (by decide)) (Zx (by decide)) (Zx (by decide)) (VN (by decide)) ((Yp d (m:=Yq) (by simp[YO]) rfl).trans a)
  rw[show Zm .names t=V ([])from by simp[Zm,a]];exact JJ _ _ b c w (Zx (by decide)) (Zx (by decide)) (Zx (by decide)) (Zx (by decide)) (Zx (by decide)) (VN (by decide)) ((Yp d (m:=Yq) (by simp[YO]) rfl).trans (by simpa using a))
 |action=>
  by_cases a:Zq t Yj=true
  ·rw[show Zm .action t=V ([.lit Yj])from by simp[Zm,a]]
   exact L1 _ _ b c w (Zx (by decide)) (Zx (by decide)) (Zx (by decide)) (Zx (by decide)) (Zx (by decide)) (Zx (by decide)) (VN (by decide)) ((Yp d (m:=Yj) (by simp[YO]) rfl).trans a)
  by_cases e:Zq t ZY=true
  ·rw[show Zm .action t=V ([.lit ZY,.NAME,.names])from by simp[Zm,a,e]]
   exact L2 _ _ b c w (Zx (by decide)) (Zx (by decide)) (Zx (by decide)) (Zx (by decide)) (Zx (by decide)) (Zx (by decide)) (VN (by decide)) ((Yp d (m:=Yj) (by simp[YO]) rfl).trans (by simpa using a)) ((Yp d (m:=ZY) (by simp[YO]) rfl).trans e)
  rw[show Zm .action t=V ([.NAME,.names])from by simp[Zm,a,e]];exact L3 _ _ b c w (Zx (by decide)) (Zx (by decide)) (Zx (by decide)) (Zx (by decide)) (Zx (by decide)) (Zx (by decide)) (VN (by decide)) ((Yp d (m:=Yj) (by simp[YO]) rfl).trans (by simpa using a)) ((Yp d (m:=ZY) (by simp[YO]) rfl).trans (by simpa using e))
 |NAME=>exact(Tp _ _ b c w (Zx (by decide)) (Zx (by decide)) (Zx (by decide)) (Zx (by decide)) (Zx (by decide)) (Zx (by decide)) (Zx (by decide))).mono fun _ _ h=>(Y5.none rfl).2 h
 |INT=>exact(Tp _ _ b c w (Zx (by decide)) (Zx (by decide)) (Zx (by decide)) (Zx (by decide)) (Zx (by decide)) (Zx (by decide)) (Zx (by decide))).mono fun _ _ h=>(Y5.none rfl).2 h
 |lit m=>
  obtain⟨g,i,j,k,l,n,o⟩:=GC m (f m rfl)
  exact(Tp _ _ b c w (Zx g) (Zx i) (Zx j) (Zx k) (Zx l) (Zx n) (Zx o)).mono fun _ _ h=>(Y5.none rfl).2 h
def VA (x:Except Nat (List Tk))(w:Y)(e:Ending)(w':Y):Prop:=
 match x with
 | .ok ts=>(∃v,e=U (.tuple #[v,J Z 0])/\w'.ownsRow w.heap.size 166 3 v ts.dropLast.length (WX ts.dropLast))/\F0 w w'
 | .error l=>e=U (.tuple #[G M 0 0,J Z l])/\F0 w w'
theorem VA.ok {x:Except Nat (List Tk)}{w w':Y}{e:Ending}{ts:List Tk}(h:x=.ok ts):VA x w e w'↔(∃v,e=U (.tuple #[v,J Z 0])/\w'.ownsRow w.heap.size 166 3 v ts.dropLast.length (WX ts.dropLast))/\F0 w w':=by subst h;exact Iff.rfl
theorem VA.err {x:Except Nat (List Tk)}{w w':Y}{e:Ending}{l:Nat}(h:x=.error l):VA x w e w'↔e=U (.tuple #[G M 0 0,J Z l])/\F0 w w':=by subst h;exact Iff.rfl
theorem DV {x:ByteArray}(h:Xh x=true):x.size<=8:=by
 rw[S0]at h
 have a:x.data.toList∈DL:=by simpa using h
 have b:∀l,l∈DL->l.length<=8:=by decide
 have:=b _ a
 simpa using this
theorem DW (s:ByteArray)(k:Nat)(a:k+XO s k<=s.size):Xh (s.extract k (k+XO s k))=false:=by
 rw[Bool.eq_false_iff];intro h;rw[S0]at h
 have b:(s.extract k (k+XO s k)).data.toList∈DL:=by simpa using h
 have c:∀l,l∈DL->2<l.length:=by decide
 have d:=c _ b
 have f:XO s k<=2:=by unfold XO;split<;>(try split)<;>omega
 have e:(s.extract k (k+XO s k)).data.toList.length=(s.extract k (k+XO s k)).size:=by rw[Array.length_toList];rfl
 rw[e,ByteArray.size_extract]at d;omega
theorem P7 (p:Int->Bool)(s:ByteArray)(k j n:Nat)(a:j<s.size)(h:n=j-k+Zt p s j)(c:k<=j)(b:p (Zv s j)=true):n=j+1-k+Zt p s (j+1):=by
 rw[h];unfold Zt;rw[W9 p s j a,if_pos b];omega
theorem JK (p:Int->Bool)(s:ByteArray)(j:Nat)(a:j<s.size)(b:p (Zv s j)=false):Zt p s j=0:=by
 unfold Zt;rw[W9 p s j a,b];rfl
theorem JL (p:Int->Bool)(s:ByteArray)(j:Nat)(a:¬j<s.size):Zt p s j=0:=Tj p s j (by omega)
theorem Ql (p:Int->Bool)(s:ByteArray)(k j n:Nat)(h:n=j-k+Zt p s j)(c:k<=j)(b:¬(j<s.size/\p (Zv s j)=true)):j=k+n:=by
 have d:Zt p s j=0:=by
  by_cases a:j<s.size
  ·exact JK p s j a (by simpa using fun e=>b ⟨a,e⟩)
  ·exact JL p s j a
 omega
theorem Et (s:ByteArray)(k a:Nat)(d:Zv s k≠10)(f:¬(Zv s k=32\/Zv s k=9))(e:Zv s k≠35)(i:¬(48<=Zv s k/\Zv s k<=57))(c:¬(97<=Zv s k/\Zv s k<=122)):
  Zl s k a=if XO s k=0 then .bad else .tok ⟨2,s.extract k (k+XO s k),a⟩ (k+XO s k):=by
 have g:Zp (Zv s k)=false:=by simp[Zp];omega
 have h:iD (Zv s k)=false:=by simp[iD];omega
 unfold Zl XO;rw[if_neg d,if_neg f,if_neg e,g,h];simp only[Bool.false_eq_true,if_false];by_cases b:(Ti s k 46 46||Ti s k 45 62)=true
 ·have c:¬(Zv s k=59\/Zv s k=58\/Zv s k=44):=by
   simp only[D]at b
   rcases b with b|b<;>have:=JC b<;>omega
  simp[b,c]
 ·by_cases c:Zv s k=59\/Zv s k=58\/Zv s k=44<;>simp[b,c]
theorem DX (s:ByteArray)(k:Nat)(b:k<s.size):XO s k<=2/\k+XO s k<=s.size:=by
 unfold XO
 split
 ·rename_i a
  simp only[D]at a
  have:k+2<=s.size:=by rcases a with a|a<;>exact ME a
  omega
 ·split<;>omega
theorem JM (s:ByteArray)(w:Y)(hs:s.size<=3000):K S 78 #[I s] w (VA (ZL s 0 1 []) w):=by
  obtain⟨ii,hi,n0,o0,p0⟩:=info_parts MT
  have IX:E (∀(j:Nat),j<s.size->∀w,_):=fun j hj w=>ZN (P:=S) Tryz.underlying9 s j (j:Int) rfl hj w
  go_enter Tryz.func78,Tryz.ntmps78;go_wp2_with fail
  go_loopg [4,5,6] s.size (fun m o l i wr=>∃k a p,k<=s.size/\m=s.size-k/\l=J Z (a:Nat)/\i=J Z (k:Nat)/\a<=k+1/\p.length<=k/\E (wr.ownsRow w.heap.size 166 3 o p.length (WX p))/\E (F0 w wr)/\E (ZL s 0 1 []=ZL s k a p))
  case atStart=>exact⟨0,1,[],Nat.zero_le _,rfl,rfl,rfl,by omega,by simp,oZ _ _ _ _,Fr.refl _ _,rfl⟩
  case round=>
    obtain⟨k,a,p,hk,rfl,rfl,rfl,y0,z0,HO,HF,HL⟩:=hrel;have A0:=HF.o.size;by_cases Q:k<s.size
    · have u:=Za Q
      have q0:(k:Int)<(s.size:Int):=by omega
      have T:=IX.o k Q;by_cases x:Zv s k=10
      · have q:E (Zl s k a=.skip (k+1) (a+1)):=by show _=_;simp[Zl,x]
        rw[x]at T;clear x;go_wp2;go_roundg (s.size-(k+1))
        case measure=>omega
        case rel=>exact⟨k+1,a+1,p,by omega,rfl,by go_num,by go_num,by omega,by omega,HO,HF,HL.o.trans (YY u.o q.o)⟩
      by_cases y:Zv s k=32\/Zv s k=9
      · have q:E (Zl s k a=.skip (k+1) a):=by show _=_;simp[Zl,x,y]
        rcases y with h|h<;>
        (rw[h]at T
         clear x h;go_wp2;go_roundg (s.size-(k+1))
         case measure=>omega
         case rel=>exact⟨k+1,a,p,by omega,rfl,rfl,by go_num,by omega,by omega,HO,HF,HL.o.trans (YY u.o q.o)⟩)
      by_cases A:Zv s k=35
      · have q:E (Zl s k a=.skip (k+Zt Zy s k) a):=by show _=_;simp[Zl,A]
        have C:=Xf Zy s k Q (by simp[Zy,A]);rw[A]at T;clear x y A;obtain⟨n,y⟩:∃n,n=Zt Zy s k:=⟨_,rfl⟩;rw[<-y]at q C
        have HN:E (n=k-k+Zt Zy s k):=by show _=_;omega
        clear y;go_wp2_with fail
        go_loop [6] (fun i=>∃j:Nat,k<=j/\j<=s.size/\i=J Z j/\E (n=j-k+Zt Zy s j)) (fun i=>s.size-(intOf i).toNat)
        case atStart=>exact⟨k,Nat.le_refl _,hk,rfl,HN⟩
        case round=>
          obtain⟨j,F,f,rfl,HJ⟩:=hrel;clear T;by_cases b:j<s.size/\Zy (Zv s j)=true
          · obtain⟨d,O⟩:=b
            have G:(j:Int)<(s.size:Int):=by omega
            have U:=IX.o j d;have V:=Za (P7 Zy s k j n d HJ.o F O)
            have B0:(Zv s j==10)=false:=by simpa[Zy]using O
            have C0:(Zv s j !=10)=true:=by simpa[Zy]using O
            generalize Zv s j=c at*;clear O;go_wp2;exact⟨⟨j+1,by omega,by omega,by go_num,V⟩,by simp[intOf];omega⟩
          · have r:=Za (Ql _ s k j n HJ.o F b)
            by_cases d:j<s.size
            · have G:(j:Int)<(s.size:Int):=by omega
              have U:=IX.o j d
              have O:Zv s j=10:=by simpa[Zy,d]using b
              rw[O]at U;clear b O;go_wp2;go_roundg (s.size-j)
              case measure=>have:=r.o;omega
              case rel=>exact⟨j,a,p,by omega,rfl,rfl,rfl,by omega,by omega,HO,HF,by rw[r.o];exact HL.o.trans (YY u.o q.o)⟩
            · have G:¬(j:Int)<(s.size:Int):=by omega
              clear b;go_wp2;go_roundg (s.size-j)
              case measure=>have:=r.o;omega
              case rel=>exact⟨j,a,p,by omega,rfl,rfl,rfl,by omega,by omega,HO,HF,by rw[r.o];exact HL.o.trans (YY u.o q.o)⟩
      have f0:(Zv s k==10)=false:=by simp[x]
      have g0:(Zv s k==32)=false:=by simp;omega
      have d9:(Zv s k==9)=false:=by simp;omega
      have i0:(Zv s k==35)=false:=by simp[A]
      obtain⟨c,hc⟩:∃c,Zv s k=c:=⟨_,rfl⟩;have W:=Za hc;rw[hc]at T x y A f0 g0 d9 i0;have H:E (c≠10/\¬(c=32\/c=9)/\c≠35):=⟨x,y,A⟩;clear x y A hc
      go_upto_block 5 with fail
      go_cut [8,9]from 12 to 148 (fun v8 v9 wx=>∃(j:Nat)(kd:Int)(t:Tk),v8=J Z j/\v9=J B kd/\k<j/\j<=s.size/\E (Zl s k a=.tok t j/\Vw t=[I (s.extract k j),J B kd,J Z a])/\wx=wr)
      case rest=>
        obtain⟨j,kd,t,rfl,rfl,X,f,q,rfl⟩:=hcut
        have r0:(k:Int)<=(j:Int):=by omega
        have s0:(j:Int)<=(s.size:Int):=by omega
        go_wp2_with (at_builtin;refine wpList_append_lies _ rfl (.tmp 138) (.tmp 146) 67 rfl w.heap.size 166 ii _ 3 32 Tryz.underlying67 hi n0 o0 p0 rfl (by decide) u4 p.length (WX p) rfl ?h1 ⟨wc.heap.size,0,M⟩ 1 1 [I (s.extract k j),J B kd,J Z a] rfl rfl ?h2 ?h3 (by decide) ?h4 ?h5 ?h6 _ rfl ?h7)
        case h1=>exact HO.o.alloc _
        try case h2=>exact World.news_of_block (aN wc _)
        case h3=>simp[L]
        case h4=>unfold maxLen;omega
        case h5=>omega
        case h6=>first|omega|(simp;omega)
        case h7=>
          intro g2 x0 w4 e0 a0 _ _;have t0:=Za e0;have v0:=Za ((HF.o.alloc _).grown a0 (fun k hk=>Or.inr (HO.o.lt k hk).1));clear a0 e0;go_wp2;go_roundg (s.size-j)
          case measure=>omega
          case rel=>
            refine⟨j,a,p++[t],by omega,rfl,rfl,by go_num,by omega,by simp;omega,?_,v0,HL.o.trans (Ve u.o q.o.1)⟩
            show World.ownsRow _ _ _ _ _ _ _
            rw[LW,lA,q.o.2];exact t0.o
      case first=>
        by_cases b0:48<=c/\c<=57
        · have hD:iD c=true:=by simp[iD];exact b0
          have hS:Zp c=false:=by simp[Zp];omega
          obtain⟨n,y⟩:∃n,Zt iD s k=n:=⟨_,rfl⟩
          have HB:E (9<n->Zl s k a=.bad):=fun h=>by simp[Zl,W.o,H.o,hS,hD,y,h]
          have HG:E (¬9<n->Zl s k a=.tok ⟨1,s.extract k (k+n),a⟩ (k+n)):=fun h=>by simp[Zl,W.o,H.o,hS,hD,y,h]
          have C:=Xf iD s k Q (by rw[W.o];exact hD);have j0:=Xw iD s k hk;rw[y]at C j0
          have HN:E (n=k-k+Zt iD s k):=by show _=_;omega
          obtain⟨g1,g2⟩:=b0;clear y hD hS
          go_upto_block 6 with fail
          go_cut [8]from 12 to 148 (fun v wx=>∃j:Nat,v=J Z j/\j<=s.size/\E (j=k+n)/\wx=wr)
          case first=>
            go_wp2_with fail
            go_loop [8] (fun i=>∃j:Nat,k<=j/\j<=s.size/\i=J Z j/\E (n=j-k+Zt iD s j)) (fun i=>s.size-(intOf i).toNat)
            case atStart=>exact⟨k,Nat.le_refl _,hk,rfl,HN⟩
            case round=>
              obtain⟨j,F,f,rfl,HJ⟩:=hrel;clear T f0 g0 d9 i0 g1 g2;by_cases b:j<s.size/\iD (Zv s j)=true
              · obtain⟨d,O⟩:=b
                have G:(j:Int)<(s.size:Int):=by omega
                have U:=IX.o j d;have V:=Za (P7 iD s k j n d HJ.o F O);simp only[iD,decide_eq_true_eq]at O;obtain⟨g1,g2⟩:=O;generalize Zv s j=c at*;go_wp2;exact⟨⟨j+1,by omega,by omega,by go_num,V⟩,by simp[intOf];omega⟩
              · have r:=Za (Ql _ s k j n HJ.o F b)
                by_cases d:j<s.size
                · have G:(j:Int)<(s.size:Int):=by omega
                  have U:=IX.o j d;simp only[iD,decide_eq_true_eq,d,true_and]at b;generalize Zv s j=c at*;by_cases g1:48<=c
                  · have g2:¬c<=57:=fun h=>b ⟨g1,h⟩
                    clear b;go_wp2;go_meet;exact⟨j,rfl,f,r,rfl⟩
                  · clear b
                    go_wp2;go_meet;exact⟨j,rfl,f,r,rfl⟩
                · have G:¬(j:Int)<(s.size:Int):=by omega
                  clear b;go_wp2;go_meet;exact⟨j,rfl,f,r,rfl⟩
          case rest=>
            obtain⟨j,rfl,f,r,rfl⟩:=hcut;have w0:R.wrap ((j:Int)-(k:Int))=(j:Int)-(k:Int):=IntWalk.i64_in _ (by omega);by_cases h9:9<n
            · have c0:(9:Int)<(j:Int)-(k:Int):=by have:=r.o;omega
              have q:=Za (HB.o h9);clear h9;go_wp2
              go_ret2
              exact(VA.err (HL.o.trans (XN u.o q.o))).2 ⟨rfl,HF.o⟩
            · have c0:¬(9:Int)<(j:Int)-(k:Int):=by have:=r.o;omega
              have q:=Za (HG.o h9);rw[<-r.o]at q
              have X:k<j:=by have:=r.o;omega
              clear h9;go_wp2;go_meet;exact⟨j,105,_,rfl,rfl,X,f,⟨q.o,rfl⟩,rfl⟩
        by_cases d0:97<=c/\c<=122
        · have hD:iD c=false:=by simp[iD];omega
          have hS:Zp c=true:=by simp[Zp];exact d0
          obtain⟨n,y⟩:∃n,Zt Zi s k=n:=⟨_,rfl⟩
          have HW:E (Xh (s.extract k (k+n))=true->Zl s k a=.tok ⟨2,s.extract k (k+n),a⟩ (k+n)):=fun h=>by simp[Zl,W.o,H.o,hS,y,h]
          have HB:E (Xh (s.extract k (k+n))=false->8<n->Zl s k a=.bad):=fun h h2=>by simp[Zl,W.o,H.o,hS,y,h,h2]
          have HG:E (Xh (s.extract k (k+n))=false->¬8<n->Zl s k a=.tok ⟨0,s.extract k (k+n),a⟩ (k+n)):=fun h h2=>by simp[Zl,W.o,H.o,hS,y,h,h2]
          have C:=Xf Zi s k Q (by rw[W.o];simp[Zi,hS]);have j0:=Xw Zi s k hk;rw[y]at C j0
          have HN:E (n=k-k+Zt Zi s k):=by show _=_;omega
          obtain⟨g1,g2⟩:=d0
          have g3:¬c<=57:=by omega
          clear y hD hS b0
          go_upto_block 8 with fail
          go_cut [8]from 12 to 148 (fun v wx=>∃j:Nat,v=J Z j/\j<=s.size/\E (j=k+n)/\wx=wr)
          case first=>
            go_wp2_with fail
            go_loop [8] (fun i=>∃j:Nat,k<=j/\j<=s.size/\i=J Z j/\E (n=j-k+Zt Zi s j)) (fun i=>s.size-(intOf i).toNat)
            case atStart=>exact⟨k,Nat.le_refl _,hk,rfl,HN⟩
            case round=>
              obtain⟨j,F,f,rfl,HJ⟩:=hrel;clear T f0 g0 d9 i0 g1 g2 g3;by_cases b:j<s.size/\Zi (Zv s j)=true
              · obtain⟨d,O⟩:=b
                have G:(j:Int)<(s.size:Int):=by omega
                have U:=IX.o j d;have V:=Za (P7 Zi s k j n d HJ.o F O);simp only[Zi,Zp,iD,D,decide_eq_true_eq]at O;generalize Zv s j=c at*;by_cases g1:97<=c
                · have g2:c<=122:=by omega
                  clear O;go_wp2;exact⟨⟨j+1,by omega,by omega,by go_num,V⟩,by simp[intOf];omega⟩
                · have g2:48<=c:=by omega
                  have g3:c<=57:=by omega
                  clear O;go_wp2;exact⟨⟨j+1,by omega,by omega,by go_num,V⟩,by simp[intOf];omega⟩
              · have r:=Za (Ql _ s k j n HJ.o F b)
                by_cases d:j<s.size
                · have G:(j:Int)<(s.size:Int):=by omega
                  have U:=IX.o j d;simp only[Zi,Zp,iD,D,decide_eq_true_eq,d,true_and]at b;generalize Zv s j=c at*;by_cases g1:97<=c
                  · have g2:¬c<=122:=by omega
                    have g3:48<=c:=by omega
                    have g4:¬c<=57:=by omega
                    clear b;go_wp2;go_meet;exact⟨j,rfl,f,r,rfl⟩
                  · by_cases g3:48<=c
                    · have g4:¬c<=57:=by omega
                      clear b;go_wp2;go_meet;exact⟨j,rfl,f,r,rfl⟩
                    · clear b
                      go_wp2;go_meet;exact⟨j,rfl,f,r,rfl⟩
                · have G:¬(j:Int)<(s.size:Int):=by omega
                  clear b;go_wp2;go_meet;exact⟨j,rfl,f,r,rfl⟩
          case rest=>
            obtain⟨j,rfl,f,r,rfl⟩:=hcut;have w0:R.wrap ((j:Int)-(k:Int))=(j:Int)-(k:Int):=IntWalk.i64_in _ (by omega)
            have X:k<j:=by have:=r.o;omega
            have r0:(k:Int)<=(j:Int):=by omega
            have s0:(j:Int)<=(s.size:Int):=by omega
            rw[<-r.o]at HW HB HG
            cases N:Xh (s.extract k j)with
            | true=>
              have q:=Za (HW.o N)
              have c0:¬(8:Int)<(j:Int)-(k:Int):=by
                have h8:=DV N;rw[ByteArray.size_extract]at h8;omega
              have HK:E (Vw ⟨2,s.extract k j,a⟩=[I (s.extract k j),J B 107,J Z a]):=by show _=_;simp[Vw,Uk,N]
              go_wp2_with (go_at_call 128;refine(TU _ _).mono ?_;rintro e w' ⟨rfl,z⟩;replace z:=z.symm;subst z;simp only[N])
              go_meet;exact⟨j,107,_,rfl,rfl,X,f,⟨q.o,HK.o⟩,rfl⟩
            | false=>
              by_cases h8:8<n
              · have c0:(8:Int)<(j:Int)-(k:Int):=by have:=r.o;omega
                have q:=Za (HB.o N h8);clear h8
                go_wp2_with (go_at_call 128;refine(TU _ _).mono ?_;rintro e w' ⟨rfl,z⟩;replace z:=z.symm;subst z;simp only[N])
                go_ret2
                exact(VA.err (HL.o.trans (XN u.o q.o))).2 ⟨rfl,HF.o⟩
              · have c0:¬(8:Int)<(j:Int)-(k:Int):=by have:=r.o;omega
                have q:=Za (HG.o N h8);clear h8
                go_wp2_with (go_at_call 128;refine(TU _ _).mono ?_;rintro e w' ⟨rfl,z⟩;replace z:=z.symm;subst z;simp only[N])
                go_meet;exact⟨j,110,_,rfl,rfl,X,f,⟨q.o,rfl⟩,rfl⟩
        have hT:=Et s k a (by rw[W.o];exact H.o.1) (by rw[W.o];exact H.o.2.1) (by rw[W.o];exact H.o.2.2) (by rw[W.o];exact b0) (by rw[W.o];exact d0);have k0:=DX s k Q;have HX:=Za (DW s k k0.2);obtain⟨n,l0⟩:∃n,XO s k=n:=⟨_,rfl⟩;have m0:=Za l0;rw[l0]at hT k0 HX;clear l0
        have g:(48<=c/\¬c<=57/\97<=c/\¬c<=122)\/(48<=c/\¬c<=57/\¬97<=c)\/(¬48<=c/\¬97<=c):=by omega
        rcases g with⟨g1,g2,g3,g4⟩|⟨g1,g2,g3⟩|⟨g1,g3⟩<;>clear b0 d0<;>by_cases h0:n=0
        all_goals first
          | (have hz:(((n:Nat):Int)==0)=true:=by simp;omega
             rw[if_pos h0]at hT;have q:=Za hT;clear hT h0
             go_wp2_with (go_at_call 129;refine(LQ _ _ _ u.o hs).mono ?_;rintro e w' ⟨rfl,z⟩;replace z:=z.symm;subst z;rw[m0.o])
             go_ret2
             exact(VA.err (HL.o.trans (XN u.o q.o))).2 ⟨rfl,HF.o⟩)
          | (have hz:(((n:Nat):Int)==0)=false:=by simp;omega
             rw[if_neg h0]at hT;have q:=Za hT
             have HK:E (Vw ⟨2,s.extract k (k+n),a⟩=[I (s.extract k (k+n)),J B 115,J Z a]):=by show _=_;simp[Vw,Uk,HX.o]
             have D0:1<=n:=by omega
             clear hT h0
             go_wp2_with (go_at_call 129;refine(LQ _ _ _ u.o hs).mono ?_;rintro e w' ⟨rfl,z⟩;replace z:=z.symm;subst z;rw[m0.o])
             go_meet
             exact⟨k+n,115,_,by go_num,rfl,by omega,k0.2,⟨q.o,HK.o⟩,rfl⟩)
    · have q0:¬(k:Int)<(s.size:Int):=by omega
      have r:=Za (HL.o.trans (Vf Q));go_wp2
      go_ret2
      refine(VA.ok r.o).2 ⟨⟨_,rfl,?_⟩,HF.o⟩;rw[List.dropLast_concat];exact HO.o
