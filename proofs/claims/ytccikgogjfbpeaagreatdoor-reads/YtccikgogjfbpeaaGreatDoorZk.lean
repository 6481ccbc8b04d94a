/- The law: a world in which the listed variables lie; what the row's list gives. -/
import Derived.Test.YtccikgogjfbpeaaGreatDoorZj
import Derived.Test.YtccikgogjfbpeaaGreatDoorCards
import Derived.ProofKit
import Derived.Carry
import Derived.Deep.Slices
import Derived.Deep.DeepHandedRow
import Derived.Deep.DeepWitnessRowRef
import Derived.Lib.LaidTab
import Derived.Stop.LaidErr
import Derived.Lay
namespace Go.Proofs.YtccikgogjfbpeaaGreatDoor
open Go.ChangeShapes Go.WideShapes Go.ChangeAt Go.RowKit Go.Deep

theorem gPow : Tryz.prog.globalNamed "internal/strconv.uint64pow10" = some 1 := by kernel_rfl
theorem gPowType : (Tryz.prog.globals[1]?).map (·.type) = some 351 := by kernel_rfl
theorem cellsPow : Tryz.prog.cellsOf 351 = 20 := by kernel_rfl
theorem cells64 : Tryz.prog.cellsOf 328 = 1 := by kernel_rfl
/-- What the row's list gives: the library's table of powers of ten. -/
theorem table {W : World} (h : laidMetH Tryz.prog Rows.readsRow.laid W) : Tab W := by
 have h' : laidMet Tryz.prog Rows.readsRow.laid W := h
 exact Lib.tabIs_of_head gPow gPowType Tryz.underlying351 Tryz.underlying328 cells64 cellsPow h'.tail.tail.tail
set_option maxRecDepth 100000 in
theorem laid_met (os : Os) : laidMet Tryz.prog Rows.readsRow.laid ((World.laidAll Tryz.prog os Rows.readsRow.laid).forCall (fun _ _ => 0) ⟨#[], #[.slice none 0 0], []⟩).memory :=
 laidMet_laidAll _ (by kernel_rfl) (by kernel_rfl)
set_option maxRecDepth 100000 in
theorem laid_vars (os : Os) : ((World.laidAll Tryz.prog os Rows.readsRow.laid).forCall (fun _ _ => 0) ⟨#[], #[.slice none 0 0], []⟩).variablesRefB Tryz.checked.prog = true := by kernel_rfl
end Go.Proofs.YtccikgogjfbpeaaGreatDoor
