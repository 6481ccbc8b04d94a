import Derived.Test.YtccikgogjfbpeaaGreatDoorAr
import Derived.Laws.IdiomStrings
import Derived.Laws.CopyOwn
namespace Go.Proofs.YtccikgogjfbpeaaGreatDoor
set_option maxRecDepth 30000
set_option maxHeartbeats 8000000
def At (ts:List Tk)(i:Nat)(l:List Tk):Prop:=ts.drop i=l
def dT (w:List UInt8)(a:Nat):Tk:=⟨1,bs w,a⟩
def yb:List (List UInt8)->List UInt8
 |[]=>[]
 |[w]=>w
 |w::v::r=>w++(44::32::yb (v::r))
def sq (kw:ByteArray)(a:List (List UInt8)):List UInt8:=if a=[]then[]else 32::(kw.data.toList++(32::yb a))
def sN:Option (List UInt8×List UInt8)->List UInt8
 |none=>[]
 |some a=>32::(Z7.data.toList++(32::(a.1++(46::46::a.2))))
def sO (a b c:List UInt8):List UInt8:=[114,111,117,116,101,32]++(a++(32::(b++(32::(c++[59])))))
def LV (n w:Nat):List UInt8:=if _h:n=0/\w=0 then[]else LV (n/10) (w-1)++[UInt8.ofNat (48+n % 10)]
 termination_by n+w
 decreasing_by omega
open Go.RowKit
def SD (c:Int)(n:Nat):Nat:=((if c<0 then-(c+1)else c)% (n:Int)).toNat
def LW (w:World)(T:Nat)(rts:List Zf)(R:List Ze):Prop:=
 ∃d a b c,w.cell? ⟨T,1,none⟩=some (.pointer (some ⟨a,0,none⟩))/\Wc d w a (.slice b rts.length c) R (Zx (Zv R) R.length)/\w.ownsRow 0 148 3 (.slice b rts.length c) rts.length (Yi rts)/\Yy rts R
theorem LW.fr {w w' T rts R}(h:LW w T rts R)(a:F0 w w'):LW w' T rts R:=by
 obtain⟨c,d,e,f,b,g,i,j⟩:=h;exact⟨c,d,e,f,(a.cell (p:=⟨T,1,none⟩) (bL w _ b)).trans b,g.fr a,oF i a,j⟩
theorem LW.decide {w T rts R}(h:LW w T rts R)(a c l)(b:Yf w a l)(d:l.length<=maxLen)(p)(f:p.pan.size<=maxLen):
  Calls Tryz.prog 19 #[.pointer (some ⟨T,0,none⟩),UL p,.slice a l.length c] w fun e w'=>e=.returned (OU (TV rts R p (Vk rts l)))/\F0 w w':=by
 obtain⟨g,i,j,k,m,n,o,q⟩:=h;exact FZ w g T i rts R j k a c l p ⟨m,n,o,q,b,d⟩ f


def wN (k:Nat):List UInt8:=[119,UInt8.ofNat (48+k)]
def fR (B R:Nat->Nat)(k:Nat):List UInt8:=sO (wN k) (LV (B k) 1) (LV (R k) 1)
def gw (c:Int):Nat:=1+SD c 3
def gf (c:Int):Nat:=SD (c.tdiv 3) (10^gw c)
def gt (c:Int):Nat:=gf c+SD (c.tdiv 31) (10^gw c-gf c)
def th (c:Int):List (List UInt8):=if SD (c.tdiv 7) 3=1 then[LV (SD (c.tdiv 11) 5) 1,LV (SD (c.tdiv 13) 5) 1]else[]
def sP (c:Int):Option (List UInt8×List UInt8):=if SD (c.tdiv 17) 3=1 then some (LV (SD (c.tdiv 19) 50) 1,LV (SD (c.tdiv 19) 50+SD (c.tdiv 23) 20) 1)else none
def tt (c:Int):List (List UInt8):=if SD (c.tdiv 29) 3=1 then[LV (SD (c.tdiv 37) 4) 1]else[]
def g0 (c:Int):List UInt8:=[98,105,110,32]++(LV (gf c) (gw c)++(46::46::LV (gt c) (gw c)))
def g1 (c:Int):List UInt8:=g0 c++sq Vc (th c)
def g2 (c:Int):List UInt8:=g1 c++sN (sP c)
def g3 (c:Int):List UInt8:=g2 c++sq Vz (tt c)
