import Derived.Test.YtccikgogjfbpeaaGreatDoorNe
import Derived.Test.YtccikgogjfbpeaaGreatDoorCards
import Derived.ProofKit
import Derived.Carry
import Derived.Deep.Slices
import Derived.Deep.DeepHandedRow
import Derived.Deep.DeepWitnessRowRef
import Derived.Lib.LaidTab
import Derived.Stop.LaidErr
import Derived.Lay
import Derived.JoinedCond
namespace Go.Proofs.YtccikgogjfbpeaaGreatDoor
set_option maxRecDepth 30000
set_option maxHeartbeats 8000000
open Go.ChangeShapes Go.WideShapes Go.ChangeAt Go.RowKit Go.Deep
theorem gPow : Tryz.prog.globalNamed "internal/strconv.uint64pow10" = some 1 := by kernel_rfl
theorem gPowType : (Tryz.prog.globals[1]?).map (·.type) = some 351 := by kernel_rfl
theorem cellsPow : Tryz.prog.cellsOf 351 = 20 := by kernel_rfl
theorem cells64 : Tryz.prog.cellsOf 328 = 1 := by kernel_rfl
theorem table {W : World} (h : laidMetH Tryz.prog Rows.decidesRow.laid W) : Tab W := by
 have h' : laidMet Tryz.prog Rows.decidesRow.laid W := h;exact Lib.tabIs_of_head gPow gPowType Tryz.underlying351 Tryz.underlying328 cells64 cellsPow h'.tail.tail.tail
set_option maxRecDepth 100000 in
theorem laid_met (os : Os) : laidMet Tryz.prog Rows.decidesRow.laid ((World.laidAll Tryz.prog os Rows.decidesRow.laid).forCall (fun _ _ => 0) ⟨#[], #[.slice none 0 0], []⟩).memory :=
 laidMet_laidAll _ (by kernel_rfl) (by kernel_rfl)
set_option maxRecDepth 100000 in
theorem laid_vars (os : Os) : ((World.laidAll Tryz.prog os Rows.decidesRow.laid).forCall (fun _ _ => 0) ⟨#[], #[.slice none 0 0], []⟩).variablesRefB Tryz.checked.prog = true := by kernel_rfl
theorem rf0 : (Rows.decidesRow.wf (OpenSpec.ofChange Rows.decidesSpec)) = true := by kernel_rfl
theorem rf1 : (laidOutB Tryz.prog) = true := by kernel_rfl
theorem rf2 : (mapsRowed Tryz.prog) = true := by kernel_rfl
theorem rf3 : (Tryz.f4.params.all (Tryz.prog.readableRec ·)) = true := by kernel_rfl
theorem rf4 : (namedTie Tryz.prog Rows.decidesRow.named Rows.decidesSpec.vars) = true := by kernel_rfl
theorem rf5 : ((Rows.decidesRow.stops == [])) = true := by kernel_rfl
theorem rf6 : ((Tryz.prog.stops == [])) = true := by kernel_rfl
theorem rf7 : ((Rows.decidesRow.knobs == [])) = true := by kernel_rfl
theorem rf8 : ((Tryz.prog.stopKnobs == [])) = true := by kernel_rfl
theorem rf9 : ((Rows.decidesRow.inPlace == Tryz.prog.inPlace 4)) = true := by kernel_rfl
theorem rf10 : ((Rows.decidesRow.unfollowed == Tryz.prog.unfollowed 4)) = true := by kernel_rfl
theorem rf11 : ((Rows.decidesRow.recurses == Tryz.prog.recurses 4)) = true := by kernel_rfl
theorem rf12 : ((Rows.decidesRow.named == Tryz.prog.varsNamed 4)) = true := by kernel_rfl
theorem rf13 : ((Rows.decidesRow.maps == (Tryz.f4.params.toList ++ Rows.decidesSpec.plain.varTypes Tryz.prog).any (Tryz.prog.mapsRec ·))) = true := by kernel_rfl
theorem rf14 : ((Rows.decidesRow.ifaces == (Tryz.f4.params.toList ++ Rows.decidesSpec.plain.varTypes Tryz.prog).any (Tryz.prog.ifacesRec ·))) = true := by kernel_rfl
theorem rf15 : ((Rows.decidesRow.mapsOut == Tryz.prog.mapsAmong Tryz.f4.resultTypes.toList)) = true := by kernel_rfl
theorem rf16 : ((Rows.decidesRow.loops == (Tryz.f4.params.toList ++ Rows.decidesSpec.plain.varTypes Tryz.prog).any (Tryz.prog.loopsFrom ·))) = true := by kernel_rfl
theorem rf17 : ((Rows.decidesRow.wideKeys == (Tryz.f4.params.toList ++ Rows.decidesSpec.plain.varTypes Tryz.prog ++ Tryz.f4.resultTypes.toList).any (Tryz.prog.wideKeysFrom ·))) = true := by kernel_rfl
theorem rf18 : (Rows.decidesSpec.vars.all (Tryz.prog.varReadable ·)) = true := by kernel_rfl
theorem rf19 : (Tryz.f4.resultTypes.all (fun t => Tryz.prog.readableRec t && decide (t < Tryz.prog.types.size))) = true := by kernel_rfl
theorem rf20 : ((Rows.decidesRow.ifacesOut == Tryz.f4.resultTypes.toList.any (Tryz.prog.ifacesRec ·))) = true := by kernel_rfl
theorem rf21 : ((Rows.decidesRow.loopsOut == Tryz.f4.resultTypes.toList.any (Tryz.prog.loopsFrom ·))) = true := by kernel_rfl
theorem rf22 : ((Rows.decidesRow.plainKeys == Tryz.prog.plainKeys)) = true := by kernel_rfl
theorem rf23 : (Rows.decidesRow.shortTexts.isNone) = true := by kernel_rfl
theorem rf24 : (Tryz.prog.stopsHeard) = true := by kernel_rfl
theorem rf25 : (Tryz.prog.mayEnter) = true := by kernel_rfl
theorem rf26 : ((Rows.decidesRow.lifted == Tryz.prog.liftsFinal)) = true := by kernel_rfl
theorem rf27 : ((Tryz.prog.make == some Rows.decidesRow.make)) = true := by kernel_rfl
theorem rf28 : ((Rows.decidesRow.kinds == (if Rows.decidesRow.domain.isEmpty then [] else Tryz.f4.params.toList.map fun t => match Tryz.prog.underlying t with | some (.int k) => some k | _ => none))) = true := by kernel_rfl
theorem rf29 : ((Rows.decidesRow.pinned == Rows.decidesRow.pinnedBy)) = true := by kernel_rfl
theorem rf30 : ((Rows.decidesRow.veiled == (Tryz.f4.params.toList ++ Rows.decidesSpec.plain.varTypes Tryz.prog ++ Tryz.f4.resultTypes.toList).any (Tryz.prog.veiledRec ·))) = true := by kernel_rfl
theorem rf31 : (Rows.decidesRow.veiledFits Tryz.prog Tryz.f4.params.toList (Tryz.f4.params.toList ++ Rows.decidesSpec.plain.varTypes Tryz.prog ++ Tryz.f4.resultTypes.toList)) = true := by kernel_rfl
theorem and_t {a b : Bool} (h1 : a = true) (h2 : b = true) : (a && b) = true := by rw [h1, h2]; rfl
set_option maxRecDepth 100000 in
theorem decides_closed : joinedFacts Tryz.prog 4 Tryz.f4 Rows.decidesSpec Rows.decidesRow = true := by
 unfold joinedFacts;exact (and_t (and_t (and_t (and_t (and_t (and_t (and_t (and_t (and_t (and_t (and_t (and_t (and_t (and_t (and_t (and_t (and_t (and_t (and_t (and_t (and_t (and_t (and_t (and_t (and_t (and_t (and_t (and_t (and_t (and_t (and_t rf0 rf1) rf2) rf3) rf4) rf5) rf6) rf7) rf8) rf9) rf10) rf11) rf12) rf13) rf14) rf15) rf16) rf17) rf18) rf19) rf20) rf21) rf22) rf23) rf24) rf25) rf26) rf27) rf28) rf29) rf30) rf31)
