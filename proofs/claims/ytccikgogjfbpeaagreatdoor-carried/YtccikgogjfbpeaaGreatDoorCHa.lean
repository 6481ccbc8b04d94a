/- A fact, hidden from the walk. -/
import Derived.Below
namespace Go.Proofs.YtccikgogjfbpeaaGreatDoor
theorem hid {p : Prop} (h : p) : RowKit.Hid p := h
end Go.Proofs.YtccikgogjfbpeaaGreatDoor
