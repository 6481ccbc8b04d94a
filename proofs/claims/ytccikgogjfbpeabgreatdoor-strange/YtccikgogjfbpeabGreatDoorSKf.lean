/- The keeps: guards and actions of raw numbers. The keeps: actions; a rule's text of raw numbers; a payment. -/
import Derived.Test.YtccikgogjfbpeabGreatDoorSHa
import Derived.Test.YtccikgogjfbpeabGreatDoorSKc
import Derived.Deep.DeepCutAuto
namespace Go.Proofs.YtccikgogjfbpeabGreatDoor
open Go.RowKit
def gw (c : Int) : Nat := 1 + pickK c 3
def gf (c : Int) : Nat := pickK (c.tdiv 3) (10 ^ gw c)
def gt (c : Int) : Nat := gf c + pickK (c.tdiv 31) (10 ^ gw c - gf c)
def gMcc (c : Int) : List (List UInt8) := if pickK (c.tdiv 7) 3 = 1 then [digL (pickK (c.tdiv 11) 5) 1, digL (pickK (c.tdiv 13) 5) 1] else []
def gAm (c : Int) : Option (List UInt8 × List UInt8) := if pickK (c.tdiv 17) 3 = 1 then some (digL (pickK (c.tdiv 19) 50) 1, digL (pickK (c.tdiv 19) 50 + pickK (c.tdiv 23) 20) 1) else none
def gCur (c : Int) : List (List UInt8) := if pickK (c.tdiv 29) 3 = 1 then [digL (pickK (c.tdiv 37) 4) 1] else []
def g0 (c : Int) : List UInt8 := [98, 105, 110, 32] ++ (digL (gf c) (gw c) ++ (46 :: 46 :: digL (gt c) (gw c)))
def g1 (c : Int) : List UInt8 := g0 c ++ gdX kwMcc (gMcc c)
def g2 (c : Int) : List UInt8 := g1 c ++ amX (gAm c)
def g3 (c : Int) : List UInt8 := g2 c ++ gdX kwCur (gCur c)
end Go.Proofs.YtccikgogjfbpeabGreatDoor

namespace Go.Proofs.YtccikgogjfbpeabGreatDoor
open Go.RowKit
end Go.Proofs.YtccikgogjfbpeabGreatDoor
