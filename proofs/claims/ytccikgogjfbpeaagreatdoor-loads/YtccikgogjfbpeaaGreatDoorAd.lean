import Derived.Test.YtccikgogjfbpeaaGreatDoorAa
import Derived.Test.YtccikgogjfbpeaaGreatDoorCards
import Derived.ProofKit
import Derived.JoinedCond
open Go.Proofs.Tryz renaming prog->I
namespace Go.Proofs.YtccikgogjfbpeaaGreatDoor
set_option maxRecDepth 30000
set_option maxHeartbeats 8000000
open Go.ChangeShapes Go.WideShapes Go.ChangeAt Go.RowKit
theorem sq:(Rows.loadsRow.wf (OpenSpec.ofChange Rows.loadsSpec))=true:=by kernel_rfl
theorem sr:(laidOutB I)=true:=by kernel_rfl
theorem su:(mapsRowed I)=true:=by kernel_rfl
theorem sw:(Tryz.f6.params.all (I.readableRec ·))=true:=by kernel_rfl
theorem sy:(namedTie I Rows.loadsRow.named Rows.loadsSpec.vars)=true:=by kernel_rfl
theorem sA:((Rows.loadsRow.stops==[]))=true:=by kernel_rfl
theorem sB:((I.stops==[]))=true:=by kernel_rfl
theorem sC:((Rows.loadsRow.knobs==[]))=true:=by kernel_rfl
theorem sD:((I.stopKnobs==[]))=true:=by kernel_rfl
theorem sF:((Rows.loadsRow.inPlace==I.inPlace 6))=true:=by kernel_rfl
theorem uQ:((Rows.loadsRow.unfollowed==I.unfollowed 6))=true:=by kernel_rfl
theorem uR:((Rows.loadsRow.recurses==I.recurses 6))=true:=by kernel_rfl
theorem uS:((Rows.loadsRow.named==I.varsNamed 6))=true:=by kernel_rfl
theorem uT:((Rows.loadsRow.maps==(Tryz.f6.params.toList++Rows.loadsSpec.plain.varTypes I).any (I.mapsRec ·)))=true:=by kernel_rfl
theorem uU:((Rows.loadsRow.ifaces==(Tryz.f6.params.toList++Rows.loadsSpec.plain.varTypes I).any (I.ifacesRec ·)))=true:=by kernel_rfl
theorem uV:((Rows.loadsRow.mapsOut==I.mapsAmong Tryz.f6.resultTypes.toList))=true:=by kernel_rfl
theorem uW:((Rows.loadsRow.loops==(Tryz.f6.params.toList++Rows.loadsSpec.plain.varTypes I).any (I.loopsFrom ·)))=true:=by kernel_rfl
theorem uX:((Rows.loadsRow.wideKeys==(Tryz.f6.params.toList++Rows.loadsSpec.plain.varTypes I++Tryz.f6.resultTypes.toList).any (I.wideKeysFrom ·)))=true:=by kernel_rfl
theorem uY:(Rows.loadsSpec.vars.all (I.varReadable ·))=true:=by kernel_rfl
theorem uZ:(Tryz.f6.resultTypes.all (fun t=>I.readableRec t&&decide (t<I.types.size)))=true:=by kernel_rfl
theorem tf:((Rows.loadsRow.ifacesOut==Tryz.f6.resultTypes.toList.any (I.ifacesRec ·)))=true:=by kernel_rfl
theorem th:((Rows.loadsRow.loopsOut==Tryz.f6.resultTypes.toList.any (I.loopsFrom ·)))=true:=by kernel_rfl
theorem tt:((Rows.loadsRow.plainKeys==I.plainKeys))=true:=by kernel_rfl
theorem tw:(Rows.loadsRow.shortTexts.isNone)=true:=by kernel_rfl
theorem tA:(I.stopsHeard)=true:=by kernel_rfl
theorem tB:(I.mayEnter)=true:=by kernel_rfl
theorem tC:((Rows.loadsRow.lifted==I.liftsFinal))=true:=by kernel_rfl
theorem tD:((I.make==some Rows.loadsRow.make))=true:=by kernel_rfl
theorem tF:((Rows.loadsRow.kinds==(if Rows.loadsRow.domain.isEmpty then[]else Tryz.f6.params.toList.map fun t=>match I.underlying t with|some (.int k)=>some k|_=>none)))=true:=by kernel_rfl
theorem tG:((Rows.loadsRow.pinned==Rows.loadsRow.pinnedBy))=true:=by kernel_rfl
theorem tH:((Rows.loadsRow.veiled==(Tryz.f6.params.toList++Rows.loadsSpec.plain.varTypes I++Tryz.f6.resultTypes.toList).any (I.veiledRec ·)))=true:=by kernel_rfl
theorem tI:(Rows.loadsRow.veiledFits I Tryz.f6.params.toList (Tryz.f6.params.toList++Rows.loadsSpec.plain.varTypes I++Tryz.f6.resultTypes.toList))=true:=by kernel_rfl
theorem Y9 {a b}(c:a=true)(d:b=true):(a&&b)=true:=by rw[c,d];rfl
set_option maxRecDepth 100000 in
theorem Jb:joinedFacts I 6 Tryz.f6 Rows.loadsSpec Rows.loadsRow=true:=by
 unfold joinedFacts;exact(Y9 (Y9 (Y9 (Y9 (Y9 (Y9 (Y9 (Y9 (Y9 (Y9 (Y9 (Y9 (Y9 (Y9 (Y9 (Y9 (Y9 (Y9 (Y9 (Y9 (Y9 (Y9 (Y9 (Y9 (Y9 (Y9 (Y9 (Y9 (Y9 (Y9 (Y9 sq sr) su) sw) sy) sA) sB) sC) sD) sF) uQ) uR) uS) uT) uU) uV) uW) uX) uY) uZ) tf) th) tt) tw) tA) tB) tC) tD) tF) tG) tH) tI)
