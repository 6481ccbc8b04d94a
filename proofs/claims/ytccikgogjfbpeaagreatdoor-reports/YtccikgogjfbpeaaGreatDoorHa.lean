import Derived.Below
open List renaming getD_eq_getElem?_getD->I,getElem?_append_right->J,getElem?_eq_some_iff->S,drop_eq_getElem_cons->V,getElem?_eq_getElem->Z,drop_of_length_le->K,mem_of_getElem?->O,length_append->E
open Go.World renaming cell?_setCell_other->P,cell?_setCell_same->Y,block_lt_of_cell?->U,ownsRow_nil->H
namespace Go.Proofs.YtccikgogjfbpeaaGreatDoor
set_option maxRecDepth 30000
set_option maxHeartbeats 8000000
open RowKit
theorem Za {p:Prop}(h:p):RowKit.Hid p:=h
theorem _root_.Go.RowKit.Hid.o {p:Prop}(h:Hid p):p:=h
theorem bL:type_of% @U:=@U
theorem cO:type_of% @P:=@P
theorem cS:type_of% @Y:=@Y
theorem aN:type_of% @heap_alloc_new:=@heap_alloc_new
theorem gE:type_of% @Z:=@Z
theorem iG:type_of% @S:=@S
theorem iA:type_of% @Array.getElem?_eq_some_iff:=@Array.getElem?_eq_some_iff
theorem nL:type_of% @Nat.lt_of_lt_of_le:=@Nat.lt_of_lt_of_le
theorem mG:type_of% @O:=@O
theorem gD:type_of% @I:=@I
theorem aR:type_of% @J:=@J
theorem oZ:type_of% @H:=@H
theorem dL:type_of% @K:=@K
theorem dC:type_of% @V:=@V
theorem lA:type_of% @E:=@E
theorem oB:type_of% @ownsRow_setCell_below:=@ownsRow_setCell_below
