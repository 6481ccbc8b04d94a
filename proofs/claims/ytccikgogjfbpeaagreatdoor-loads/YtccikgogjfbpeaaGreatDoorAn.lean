import Derived.Test.YtccikgogjfbpeaaGreatDoorAj
import Derived.Test.YtccikgogjfbpeaaGreatDoorAg
import Derived.Laws.IdiomStrings
namespace Go.Proofs.YtccikgogjfbpeaaGreatDoor
set_option maxRecDepth 30000
set_option maxHeartbeats 8000000
def dT (w:List UInt8)(a:Nat):Tk:=⟨1,bs w,a⟩
def AO:List (List UInt8)->List UInt8
 |[]=>[]
 |[w]=>w
 |w::v::r=>w++(44::32::AO (v::r))
def tX (kw:ByteArray)(a:List (List UInt8)):List UInt8:=if a=[]then[]else 32::(kw.data.toList++(32::AO a))
def sJ:Option (List UInt8×List UInt8)->List UInt8
 |none=>[]
 |some a=>32::(Z6.data.toList++(32::(a.1++(46::46::a.2))))
def sK (a b c:List UInt8):List UInt8:=[114,111,117,116,101,32]++(a++(32::(b++(32::(c++[59])))))
def LA (n w:Nat):List UInt8:=if _h:n=0/\w=0 then[]else LA (n/10) (w-1)++[UInt8.ofNat (48+n % 10)]
 termination_by n+w
 decreasing_by omega
open Go.RowKit
def Sv (c:Int)(n:Nat):Nat:=((if c<0 then-(c+1)else c)% (n:Int)).toNat
