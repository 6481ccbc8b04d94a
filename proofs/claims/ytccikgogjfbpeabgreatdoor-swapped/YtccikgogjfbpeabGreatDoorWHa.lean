/- A fact, hidden from the walk. -/
import Derived.Below
namespace Go.Proofs.YtccikgogjfbpeabGreatDoor
theorem hid {p : Prop} (h : p) : RowKit.Hid p := h
open RowKit
theorem _root_.Go.RowKit.Hid.o {p : Prop} (h : Hid p) : p := h
end Go.Proofs.YtccikgogjfbpeabGreatDoor
