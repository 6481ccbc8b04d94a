import Derived.Below
open List renaming getD_eq_getElem?_getD->I,getElem?_append_right->J,getElem?_eq_some_iff->V,drop_eq_getElem_cons->Y,getElem?_eq_getElem->U,drop_of_length_le->O,mem_of_getElem?->E,length_append->H
open Go.World renaming cell?_setCell_other->S,cell?_setCell_same->Z,block_lt_of_cell?->K,ownsRow_nil->B
namespace Go.Proofs.YtccikgogjfbpeaaGreatDoor
set_option maxRecDepth 30000
set_option maxHeartbeats 8000000
open RowKit
theorem Za {p}(h:p):RowKit.Hid p:=h
theorem _root_.Go.RowKit.Hid.o {p:Prop}(h:Hid p):p:=h
theorem bL:type_of% @K:=@K
theorem cO:type_of% @S:=@S
theorem cS:type_of% @Z:=@Z
theorem aN:type_of% @heap_alloc_new:=@heap_alloc_new
theorem gE:type_of% @U:=@U
theorem iG:type_of% @V:=@V
theorem iA:type_of% @Array.getElem?_eq_some_iff:=@Array.getElem?_eq_some_iff
theorem nL:type_of% @Nat.lt_of_lt_of_le:=@Nat.lt_of_lt_of_le
theorem mG:type_of% @E:=@E
theorem gD:type_of% @I:=@I
theorem aR:type_of% @J:=@J
theorem oZ:type_of% @B:=@B
theorem dL:type_of% @O:=@O
theorem dC:type_of% @Y:=@Y
theorem lA:type_of% @H:=@H
theorem oB:type_of% @ownsRow_setCell_below:=@ownsRow_setCell_below
theorem DU {P f a w v}{R:World->Prop}{Q:Ending->World->Prop}(h:Calls P f a w fun e w'=>e=v/\R w')(k:∀w',R w'->Q v w'):Calls P f a w Q:=h.mono (by rintro e w' ⟨rfl,d⟩;exact k w' d)
