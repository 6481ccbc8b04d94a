import Derived.Test.YtccikgogjfbpeaaGreatDoorAn
import Derived.Test.YtccikgogjfbpeaaGreatDoorAv
import Derived.Test.YtccikgogjfbpeaaGreatDoorAu
import Derived.Laws.CopyOwn
namespace Go.Proofs.YtccikgogjfbpeaaGreatDoor
set_option maxRecDepth 30000
set_option maxHeartbeats 8000000
open Go.RowKit
def LO (w:World)(T:Nat)(rts:List Zf)(R:List Ze):Prop:=
 ∃d a b c,w.cell? ⟨T,1,none⟩=some (.pointer (some ⟨a,0,none⟩))/\X7 d w a (.slice b rts.length c) R (Zx (Zv R) R.length)/\w.ownsRow 0 148 3 (.slice b rts.length c) rts.length (Yh rts)/\Yx rts R
theorem LO.fr {w w' T rts R}(h:LO w T rts R)(a:F0 w w'):LO w' T rts R:=by
 obtain⟨c,d,e,f,b,g,i,j⟩:=h;exact⟨c,d,e,f,(a.cell (p:=⟨T,1,none⟩) (bL w _ b)).trans b,g.fr a,oF i a,j⟩
theorem LO.decide {w T rts R}(h:LO w T rts R)(a c l)(b:Ye w a l)(d:l.length<=maxLen)(p)(f:p.pan.size<=maxLen):
  Calls Tryz.prog 19 #[.pointer (some ⟨T,0,none⟩),UI p,.slice a l.length c] w fun e w'=>e=.returned (OQ (TR rts R p (Vh rts l)))/\F0 w w':=by
 obtain⟨g,i,j,k,m,n,o,q⟩:=h;exact FX w g T i rts R j k a c l p ⟨m,n,o,q,b,d⟩ f


def wN (k:Nat):List UInt8:=[119,UInt8.ofNat (48+k)]
def fR (B R:Nat->Nat)(k:Nat):List UInt8:=sK (wN k) (LA (B k) 1) (LA (R k) 1)
def gw (c:Int):Nat:=1+Sv c 3
def gf (c:Int):Nat:=Sv (c.tdiv 3) (10^gw c)
def gt (c:Int):Nat:=gf c+Sv (c.tdiv 31) (10^gw c-gf c)
def tO (c:Int):List (List UInt8):=if Sv (c.tdiv 7) 3=1 then[LA (Sv (c.tdiv 11) 5) 1,LA (Sv (c.tdiv 13) 5) 1]else[]
def sS (c:Int):Option (List UInt8×List UInt8):=if Sv (c.tdiv 17) 3=1 then some (LA (Sv (c.tdiv 19) 50) 1,LA (Sv (c.tdiv 19) 50+Sv (c.tdiv 23) 20) 1)else none
def tP (c:Int):List (List UInt8):=if Sv (c.tdiv 29) 3=1 then[LA (Sv (c.tdiv 37) 4) 1]else[]
def g0 (c:Int):List UInt8:=[98,105,110,32]++(LA (gf c) (gw c)++(46::46::LA (gt c) (gw c)))
def g1 (c:Int):List UInt8:=g0 c++tX W7 (tO c)
def g2 (c:Int):List UInt8:=g1 c++sJ (sS c)
def g3 (c:Int):List UInt8:=g2 c++tX Vw (tP c)
