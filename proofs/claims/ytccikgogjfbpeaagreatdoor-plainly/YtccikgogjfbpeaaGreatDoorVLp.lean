/- The law: the closed facts of the row Plainly, one by one. -/
import Derived.Test.YtccikgogjfbpeaaGreatDoorCards
import Derived.ProofKit
import Derived.JoinedCond
namespace Go.Proofs.YtccikgogjfbpeaaGreatDoor
open Go.ChangeShapes Go.WideShapes Go.ChangeAt Go.RowKit

theorem pf0 : (Rows.plainlyRow.wf (OpenSpec.ofChange Rows.plainlySpec)) = true := by kernel_rfl
theorem pf1 : (laidOutB Tryz.prog) = true := by kernel_rfl
theorem pf2 : (mapsRowed Tryz.prog) = true := by kernel_rfl
theorem pf3 : (Tryz.f8.params.all (Tryz.prog.readableRec ·)) = true := by kernel_rfl
theorem pf4 : (namedTie Tryz.prog Rows.plainlyRow.named Rows.plainlySpec.vars) = true := by kernel_rfl
theorem pf5 : ((Rows.plainlyRow.stops == [])) = true := by kernel_rfl
theorem pf6 : ((Tryz.prog.stops == [])) = true := by kernel_rfl
theorem pf7 : ((Rows.plainlyRow.knobs == [])) = true := by kernel_rfl
theorem pf8 : ((Tryz.prog.stopKnobs == [])) = true := by kernel_rfl
theorem pf9 : ((Rows.plainlyRow.inPlace == Tryz.prog.inPlace 8)) = true := by kernel_rfl
theorem pf10 : ((Rows.plainlyRow.unfollowed == Tryz.prog.unfollowed 8)) = true := by kernel_rfl
theorem pf11 : ((Rows.plainlyRow.recurses == Tryz.prog.recurses 8)) = true := by kernel_rfl
theorem pf12 : ((Rows.plainlyRow.named == Tryz.prog.varsNamed 8)) = true := by kernel_rfl
theorem pf13 : ((Rows.plainlyRow.maps == (Tryz.f8.params.toList ++ Rows.plainlySpec.plain.varTypes Tryz.prog).any (Tryz.prog.mapsRec ·))) = true := by kernel_rfl
theorem pf14 : ((Rows.plainlyRow.ifaces == (Tryz.f8.params.toList ++ Rows.plainlySpec.plain.varTypes Tryz.prog).any (Tryz.prog.ifacesRec ·))) = true := by kernel_rfl
theorem pf15 : ((Rows.plainlyRow.mapsOut == Tryz.prog.mapsAmong Tryz.f8.resultTypes.toList)) = true := by kernel_rfl
theorem pf16 : ((Rows.plainlyRow.loops == (Tryz.f8.params.toList ++ Rows.plainlySpec.plain.varTypes Tryz.prog).any (Tryz.prog.loopsFrom ·))) = true := by kernel_rfl
theorem pf17 : ((Rows.plainlyRow.wideKeys == (Tryz.f8.params.toList ++ Rows.plainlySpec.plain.varTypes Tryz.prog ++ Tryz.f8.resultTypes.toList).any (Tryz.prog.wideKeysFrom ·))) = true := by kernel_rfl
theorem pf18 : (Rows.plainlySpec.vars.all (Tryz.prog.varReadable ·)) = true := by kernel_rfl
theorem pf19 : (Tryz.f8.resultTypes.all (fun t => Tryz.prog.readableRec t && decide (t < Tryz.prog.types.size))) = true := by kernel_rfl
theorem pf20 : ((Rows.plainlyRow.ifacesOut == Tryz.f8.resultTypes.toList.any (Tryz.prog.ifacesRec ·))) = true := by kernel_rfl
theorem pf21 : ((Rows.plainlyRow.loopsOut == Tryz.f8.resultTypes.toList.any (Tryz.prog.loopsFrom ·))) = true := by kernel_rfl
theorem pf22 : ((Rows.plainlyRow.plainKeys == Tryz.prog.plainKeys)) = true := by kernel_rfl
theorem pf23 : (Rows.plainlyRow.shortTexts.isNone) = true := by kernel_rfl
theorem pf24 : (Tryz.prog.stopsHeard) = true := by kernel_rfl
theorem pf25 : (Tryz.prog.mayEnter) = true := by kernel_rfl
theorem pf26 : ((Rows.plainlyRow.lifted == Tryz.prog.liftsFinal)) = true := by kernel_rfl
theorem pf27 : ((Tryz.prog.make == some Rows.plainlyRow.make)) = true := by kernel_rfl
theorem pf28 : ((Rows.plainlyRow.kinds == (if Rows.plainlyRow.domain.isEmpty then [] else Tryz.f8.params.toList.map fun t => match Tryz.prog.underlying t with | some (.int k) => some k | _ => none))) = true := by kernel_rfl
theorem pf29 : ((Rows.plainlyRow.pinned == Rows.plainlyRow.pinnedBy)) = true := by kernel_rfl
theorem pf30 : ((Rows.plainlyRow.veiled == (Tryz.f8.params.toList ++ Rows.plainlySpec.plain.varTypes Tryz.prog ++ Tryz.f8.resultTypes.toList).any (Tryz.prog.veiledRec ·))) = true := by kernel_rfl
theorem pf31 : (Rows.plainlyRow.veiledFits Tryz.prog Tryz.f8.params.toList (Tryz.f8.params.toList ++ Rows.plainlySpec.plain.varTypes Tryz.prog ++ Tryz.f8.resultTypes.toList)) = true := by kernel_rfl
theorem and_p {a b : Bool} (h1 : a = true) (h2 : b = true) : (a && b) = true := by rw [h1, h2]; rfl
set_option maxRecDepth 100000 in
theorem plainly_closed : joinedFacts Tryz.prog 8 Tryz.f8 Rows.plainlySpec Rows.plainlyRow = true := by
 unfold joinedFacts
 exact (and_p (and_p (and_p (and_p (and_p (and_p (and_p (and_p (and_p (and_p (and_p (and_p (and_p (and_p (and_p (and_p (and_p (and_p (and_p (and_p (and_p (and_p (and_p (and_p (and_p (and_p (and_p (and_p (and_p (and_p (and_p pf0 pf1) pf2) pf3) pf4) pf5) pf6) pf7) pf8) pf9) pf10) pf11) pf12) pf13) pf14) pf15) pf16) pf17) pf18) pf19) pf20) pf21) pf22) pf23) pf24) pf25) pf26) pf27) pf28) pf29) pf30) pf31)
end Go.Proofs.YtccikgogjfbpeaaGreatDoor
