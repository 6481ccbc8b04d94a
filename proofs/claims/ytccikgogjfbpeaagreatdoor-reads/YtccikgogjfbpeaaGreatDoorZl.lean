/- The law: the closed facts of the row Reads, one by one. -/
import Derived.Test.YtccikgogjfbpeaaGreatDoorCards
import Derived.ProofKit
import Derived.JoinedCond
namespace Go.Proofs.YtccikgogjfbpeaaGreatDoor
open Go.ChangeShapes Go.WideShapes Go.ChangeAt Go.RowKit

theorem rf0 : (Rows.readsRow.wf (OpenSpec.ofChange Rows.readsSpec)) = true := by kernel_rfl
theorem rf1 : (laidOutB Tryz.prog) = true := by kernel_rfl
theorem rf2 : (mapsRowed Tryz.prog) = true := by kernel_rfl
theorem rf3 : (Tryz.f3.params.all (Tryz.prog.readableRec ·)) = true := by kernel_rfl
theorem rf4 : (namedTie Tryz.prog Rows.readsRow.named Rows.readsSpec.vars) = true := by kernel_rfl
theorem rf5 : ((Rows.readsRow.stops == [])) = true := by kernel_rfl
theorem rf6 : ((Tryz.prog.stops == [])) = true := by kernel_rfl
theorem rf7 : ((Rows.readsRow.knobs == [])) = true := by kernel_rfl
theorem rf8 : ((Tryz.prog.stopKnobs == [])) = true := by kernel_rfl
theorem rf9 : ((Rows.readsRow.inPlace == Tryz.prog.inPlace 3)) = true := by kernel_rfl
theorem rf10 : ((Rows.readsRow.unfollowed == Tryz.prog.unfollowed 3)) = true := by kernel_rfl
theorem rf11 : ((Rows.readsRow.recurses == Tryz.prog.recurses 3)) = true := by kernel_rfl
theorem rf12 : ((Rows.readsRow.named == Tryz.prog.varsNamed 3)) = true := by kernel_rfl
theorem rf13 : ((Rows.readsRow.maps == (Tryz.f3.params.toList ++ Rows.readsSpec.plain.varTypes Tryz.prog).any (Tryz.prog.mapsRec ·))) = true := by kernel_rfl
theorem rf14 : ((Rows.readsRow.ifaces == (Tryz.f3.params.toList ++ Rows.readsSpec.plain.varTypes Tryz.prog).any (Tryz.prog.ifacesRec ·))) = true := by kernel_rfl
theorem rf15 : ((Rows.readsRow.mapsOut == Tryz.prog.mapsAmong Tryz.f3.resultTypes.toList)) = true := by kernel_rfl
theorem rf16 : ((Rows.readsRow.loops == (Tryz.f3.params.toList ++ Rows.readsSpec.plain.varTypes Tryz.prog).any (Tryz.prog.loopsFrom ·))) = true := by kernel_rfl
theorem rf17 : ((Rows.readsRow.wideKeys == (Tryz.f3.params.toList ++ Rows.readsSpec.plain.varTypes Tryz.prog ++ Tryz.f3.resultTypes.toList).any (Tryz.prog.wideKeysFrom ·))) = true := by kernel_rfl
theorem rf18 : (Rows.readsSpec.vars.all (Tryz.prog.varReadable ·)) = true := by kernel_rfl
theorem rf19 : (Tryz.f3.resultTypes.all (fun t => Tryz.prog.readableRec t && decide (t < Tryz.prog.types.size))) = true := by kernel_rfl
theorem rf20 : ((Rows.readsRow.ifacesOut == Tryz.f3.resultTypes.toList.any (Tryz.prog.ifacesRec ·))) = true := by kernel_rfl
theorem rf21 : ((Rows.readsRow.loopsOut == Tryz.f3.resultTypes.toList.any (Tryz.prog.loopsFrom ·))) = true := by kernel_rfl
theorem rf22 : ((Rows.readsRow.plainKeys == Tryz.prog.plainKeys)) = true := by kernel_rfl
theorem rf23 : (Rows.readsRow.shortTexts.isNone) = true := by kernel_rfl
theorem rf24 : (Tryz.prog.stopsHeard) = true := by kernel_rfl
theorem rf25 : (Tryz.prog.mayEnter) = true := by kernel_rfl
theorem rf26 : ((Rows.readsRow.lifted == Tryz.prog.liftsFinal)) = true := by kernel_rfl
theorem rf27 : ((Tryz.prog.make == some Rows.readsRow.make)) = true := by kernel_rfl
theorem rf28 : ((Rows.readsRow.kinds == (if Rows.readsRow.domain.isEmpty then [] else Tryz.f3.params.toList.map fun t => match Tryz.prog.underlying t with | some (.int k) => some k | _ => none))) = true := by kernel_rfl
theorem rf29 : ((Rows.readsRow.pinned == Rows.readsRow.pinnedBy)) = true := by kernel_rfl
theorem rf30 : ((Rows.readsRow.veiled == (Tryz.f3.params.toList ++ Rows.readsSpec.plain.varTypes Tryz.prog ++ Tryz.f3.resultTypes.toList).any (Tryz.prog.veiledRec ·))) = true := by kernel_rfl
theorem rf31 : (Rows.readsRow.veiledFits Tryz.prog Tryz.f3.params.toList (Tryz.f3.params.toList ++ Rows.readsSpec.plain.varTypes Tryz.prog ++ Tryz.f3.resultTypes.toList)) = true := by kernel_rfl
theorem and_t {a b : Bool} (h1 : a = true) (h2 : b = true) : (a && b) = true := by rw [h1, h2]; rfl
set_option maxRecDepth 100000 in
theorem reads_closed : joinedFacts Tryz.prog 3 Tryz.f3 Rows.readsSpec Rows.readsRow = true := by
 unfold joinedFacts
 exact (and_t (and_t (and_t (and_t (and_t (and_t (and_t (and_t (and_t (and_t (and_t (and_t (and_t (and_t (and_t (and_t (and_t (and_t (and_t (and_t (and_t (and_t (and_t (and_t (and_t (and_t (and_t (and_t (and_t (and_t (and_t rf0 rf1) rf2) rf3) rf4) rf5) rf6) rf7) rf8) rf9) rf10) rf11) rf12) rf13) rf14) rf15) rf16) rf17) rf18) rf19) rf20) rf21) rf22) rf23) rf24) rf25) rf26) rf27) rf28) rf29) rf30) rf31)
end Go.Proofs.YtccikgogjfbpeaaGreatDoor
