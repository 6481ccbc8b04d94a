import Derived.Below
namespace Go.Proofs.YtccikgogjfbpeaaGreatDoor
set_option maxRecDepth 30000
set_option maxHeartbeats 8000000
open RowKit
theorem hid {p : Prop} (h : p) : RowKit.Hid p := h
theorem _root_.Go.RowKit.Hid.o {p : Prop} (h : Hid p) : p := h
theorem bL : type_of% @World.block_lt_of_cell? := @World.block_lt_of_cell?
theorem cO : type_of% @World.cell?_setCell_other := @World.cell?_setCell_other
theorem cS : type_of% @World.cell?_setCell_same := @World.cell?_setCell_same
theorem aN : type_of% @heap_alloc_new := @heap_alloc_new
theorem gE : type_of% @List.getElem?_eq_getElem := @List.getElem?_eq_getElem
theorem iG : type_of% @List.getElem?_eq_some_iff := @List.getElem?_eq_some_iff
theorem iA : type_of% @Array.getElem?_eq_some_iff := @Array.getElem?_eq_some_iff
theorem nL : type_of% @Nat.lt_of_lt_of_le := @Nat.lt_of_lt_of_le
theorem mG : type_of% @List.mem_of_getElem? := @List.mem_of_getElem?
theorem gD : type_of% @List.getD_eq_getElem?_getD := @List.getD_eq_getElem?_getD
theorem aR : type_of% @List.getElem?_append_right := @List.getElem?_append_right
theorem oZ : type_of% @World.ownsRow_nil := @World.ownsRow_nil
theorem dL : type_of% @List.drop_of_length_le := @List.drop_of_length_le
theorem dC : type_of% @List.drop_eq_getElem_cons := @List.drop_eq_getElem_cons
theorem lA : type_of% @List.length_append := @List.length_append
theorem oB : type_of% @ownsRow_setCell_below := @ownsRow_setCell_below
