import Derived.Test.YtccikgogjfbpeaaGreatDoorAx
import Derived.Laws.CopyOwn
open Option renaming some->I,none->J
open Go.Value renaming string->P,string->V,int->Y,slice->Z
namespace Go.Proofs.YtccikgogjfbpeaaGreatDoor
set_option maxRecDepth 30000
set_option maxHeartbeats 8000000
open Go.RowKit
theorem TE:(Tryz.prog.info? 9).map (fun i=>(i.zero,i.size,i.bytes))=I (I (P ByteArray.empty),1,16):=by kernel_rfl
theorem Le:(Tryz.prog.info? 28).map (fun i=>(i.zero,i.size,i.bytes))=I (I (Z J 0 0),1,24):=by kernel_rfl

def Lf (w:World)(A:Nat)(b:List ByteArray):Prop:=
 ∃a:Array Value,w.heap[A]?=I (.cells a 9)/\a.size=b.length+2/\(∀(k:Nat)(s:ByteArray),b[k]?=I s->a[k]?=I (V s))/\a[b.length]?=I (V ⟨#[98,101,104,105,110,100]⟩)/\a[b.length+1]?=I (V ⟨#[105,116]⟩)
theorem Lf.fr {w w' S A a}(h:Lf w A a)(b:Fr S w w')(c:¬S A:=by simp):Lf w' A a:=by
 obtain⟨d,e,f⟩:=h;exact⟨d,b.whole e c,f⟩
theorem Lf.strs {w A a}(h:Lf w A a):Ye w (I ⟨A,0,J⟩) a:=by
 intro k s b;obtain⟨e,c,_,d,_⟩:=h;exact⟨A,0,rfl,by rw[Nat.zero_add];exact bC c k _ (d k s b)⟩
theorem Lf.row {w A L a}(h:Lf w A a)(d:L<A)(e:a.length+2<=maxLen):∃f,w.ownsRow (L+1) 9 1 (Z (I ⟨A,0,J⟩) (a.length+2) (a.length+2)) (a.length+2) f:=by
 obtain⟨b,g,c,_⟩:=h;exact⟨b.toList,by simp[c],.inr ⟨A,a.length+2,b,rfl,d,g,Nat.le_refl _,e,by omega,by rw[List.take_of_length_le (by simp[c])]⟩⟩
theorem Lf.lay {W:World}{A a b}(h:W.heap[A]?=I (.cells (splice b 0 (a.map V)).toArray 9))(j:b.length=a.length+2):
  Lf ((W.setCell ⟨A,a.length,J⟩ (P ⟨#[98,101,104,105,110,100]⟩)).setCell ⟨A,a.length+1,J⟩ (P ⟨#[105,116]⟩)) A a/\(∃u,W.cell? ⟨A,a.length,J⟩=I u)/\W.frozen? ⟨A,a.length,J⟩=false/\(∃u,(W.setCell ⟨A,a.length,J⟩ (P ⟨#[98,101,104,105,110,100]⟩)).cell? ⟨A,a.length+1,J⟩=I u)/\(W.setCell ⟨A,a.length,J⟩ (P ⟨#[98,101,104,105,110,100]⟩)).frozen? ⟨A,a.length+1,J⟩=false:=by
 obtain⟨e,c⟩:∃e,(splice b 0 (a.map V)).toArray=e:=⟨_,rfl⟩
 have f:e.size=a.length+2:=by rw[<-c];simp[splice,j]
 have g:∀(k:Nat)(s:ByteArray),a[k]?=I s->e[k]?=I (V s):=fun k s d=>by
  have:=(iG.1 d).1;rw[<-c];simp[splice,List.getElem?_append,this];exact(iG.1 d).2
 rw[c]at h;have i:=heap_setCell_same W A a.length _ _ (P ⟨#[98,101,104,105,110,100]⟩) h;have l:=heap_setCell_same _ A (a.length+1) _ _ (P ⟨#[105,116]⟩) i;refine⟨⟨_,l,by simp[f],fun k s d=>?_,?_,?_⟩,⟨_,bC h _ _ (Array.getElem?_eq_getElem (by omega))⟩,bF h _,⟨_,bC i _ _ (Array.getElem?_eq_getElem (by simp;omega))⟩,bF i _⟩
 ·have:=(iG.1 d).1
  rw[Array.getElem?_setIfInBounds_ne (by omega),Array.getElem?_setIfInBounds_ne (by omega)];exact g k s d
 ·rw[Array.getElem?_setIfInBounds_ne (by omega),Array.getElem?_setIfInBounds_self_of_lt (by omega)]
 rw[Array.getElem?_setIfInBounds_self_of_lt (by simp;omega)]
def vS (o:Nat×ByteArray×ByteArray):Obj:=.cells #[Y .i64 (o.1:Nat),P o.2.1,P o.2.2] 38


def GE (w:World)(b o:Nat):Prop:=
 ∃(k c:Int)(s a:ByteArray)(d i e:Int)(g:Option Addr)(f j:Nat)(l:Bool)(h:List ByteArray),(-9223372036854775808<=c/\c<=9223372036854775807/\h.length=f/\Ye w g h/\a.size<=maxLen/\(f+6)*16<=140737488355328)/\
  w.cell? ⟨b,o,J⟩=I (Y .i64 k)/\w.cell? ⟨b,o+1,J⟩=I (Y .i64 c)/\w.cell? ⟨b,o+2,J⟩=I (P s)/\w.cell? ⟨b,o+3,J⟩=I (P a)/\w.cell? ⟨b,o+4,J⟩=I (Y .i64 d)/\
  w.cell? ⟨b,o+5,J⟩=I (Y .i64 i)/\w.cell? ⟨b,o+6,J⟩=I (Y .i64 e)/\w.cell? ⟨b,o+7,J⟩=I (Z g f j)/\w.cell? ⟨b,o+8,J⟩=I (.bool l)
theorem Ye.frL {w w' L a l}(h:Ye w a l)(c:Fr (fun k=>L<=k) w w')(i:w.heap.size<=L):Ye w' a l:=by
 intro k s d;obtain⟨g,o,e,b⟩:=h k s d;have f:g<w.heap.size:=bL w _ b;exact⟨g,o,e,(c.cell (p:=⟨g,o+k,J⟩) f (by show¬L<=g;omega)).trans b⟩
theorem GE.fr {w w' b o L}(h:GE w b o)(f:Fr (fun k=>L<=k) w w')(i:b<w.heap.size)(l:w.heap.size<=L):GE w' b o:=by
 obtain⟨k,m,s,a,c,n,d,q,r,t,v,x,⟨y,z,A,B,C⟩,D,c1,E,F,G,H,K,M,N⟩:=h
 have g:∀j u,w.cell? ⟨b,o+j,J⟩=I u->w'.cell? ⟨b,o+j,J⟩=I u:=fun j u e=>(f.cell (p:=⟨b,o+j,J⟩) i (by show¬L<=b;omega)).trans e
 exact⟨k,m,s,a,c,n,d,q,r,t,v,x,⟨y,z,A,B.frL f l,C⟩,g 0 _ D,g 1 _ c1,g 2 _ E,g 3 _ F,g 4 _ G,g 5 _ H,g 6 _ K,g 7 _ M,g 8 _ N⟩
