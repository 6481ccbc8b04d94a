/-
  DERIVED. GIVEN WITH THE SEED: THE CARDS: each row of YtccikgogjfbpeaaGreatDoorRows.lean that lists a variable, with what it lists TIED to the program's text (the seventh form; the later family's looks); each row that meets fmt, with fmt's text TOLD by the authors' own Lean function (tested against real Go, not proved from fmt's source: count such statements apart). THE CARD IS WHAT COUNTS. Prove the row's statement (the work); the ties are given (YtccikgogjfbpeaaGreatDoorTie.lean); close each card by the builder's one call (the guide's Derived/Test/ToyasCard.lean, 'card_holds'). Laid BY PROGRAM, IN A SANDBOX (cutbox-door.mjs). By AI agents, Wed Nov 11 2026. No macro, syntax, notation, axiom, sorry.
-/
import Derived.Test.YtccikgogjfbpeaaGreatDoorRows
import GoSem.ClaimSeven
namespace Go.Proofs.YtccikgogjfbpeaaGreatDoor
namespace Rows

/-- THE TIED CARD OF 'junctionlaw.Reads'. -/
def readsCard : Claim7 := { stood := { row := readsRow, standIns := [], harness := (true, "a00b827f4020455b2e4dd9608eccaed68ddce60db7e4af139c1a604ba09dc93f"), looks := true }, kinds := [], alts := [], laidByText := true, laidKinds := [.data, .data, .data, .data, .data, .sentinel, .sentinel, .pinned], laidTests := true, laidLooks := .later }
def ReadsCardSaid : Prop := Claim7.holds Tryz.pinned (.plain (OpenSpec.ofChange readsSpec)) readsCard

/-- THE TIED CARD OF 'junctionlaw.Decides'. -/
def decidesCard : Claim7 := { stood := { row := decidesRow, standIns := [], harness := (true, "a00b827f4020455b2e4dd9608eccaed68ddce60db7e4af139c1a604ba09dc93f"), looks := true }, kinds := [], alts := [], laidByText := true, laidKinds := [.data, .data, .data, .data, .data, .sentinel, .sentinel, .pinned], laidTests := true, laidLooks := .later }
def DecidesCardSaid : Prop := Claim7.holds Tryz.pinned (.plain (OpenSpec.ofChange decidesSpec)) decidesCard

/-- THE TIED CARD OF 'junctionlaw.Reports'. -/
def reportsCard : Claim7 := { stood := { row := reportsRow, standIns := [], harness := (true, "a00b827f4020455b2e4dd9608eccaed68ddce60db7e4af139c1a604ba09dc93f"), looks := true }, kinds := [], alts := [], laidByText := true, laidKinds := [.data, .data, .data, .data, .data, .sentinel, .sentinel, .pinned], laidTests := true, laidLooks := .later }
def ReportsCardSaid : Prop := Claim7.holds Tryz.pinned (.plain (OpenSpec.ofChange reportsSpec)) reportsCard

/-- THE TIED CARD OF 'junctionlaw.Loads'. -/
def loadsCard : Claim7 := { stood := { row := loadsRow, standIns := [], harness := (true, "a00b827f4020455b2e4dd9608eccaed68ddce60db7e4af139c1a604ba09dc93f"), looks := true }, kinds := [], alts := [], laidByText := true, laidKinds := [.data, .data, .data, .data, .data, .sentinel, .sentinel, .pinned], laidTests := true, laidLooks := .later }
def LoadsCardSaid : Prop := Claim7.holds Tryz.pinned (.plain (OpenSpec.ofChange loadsSpec)) loadsCard

/-- THE TIED CARD OF 'junctionlaw.All'. -/
def allCard : Claim7 := { stood := { row := allRow, standIns := [], harness := (true, "a00b827f4020455b2e4dd9608eccaed68ddce60db7e4af139c1a604ba09dc93f"), looks := true }, kinds := [], alts := [], laidByText := true, laidKinds := [.data, .data, .data, .data, .data, .sentinel, .sentinel, .pinned], laidTests := true, laidLooks := .later }
def AllCardSaid : Prop := Claim7.holds Tryz.pinned (.plain (OpenSpec.ofChange allSpec)) allCard

/-- THE TIED CARD OF 'junctionkeep.Plainly'. -/
def plainlyCard : Claim7 := { stood := { row := plainlyRow, standIns := [], harness := (true, "a00b827f4020455b2e4dd9608eccaed68ddce60db7e4af139c1a604ba09dc93f"), looks := true }, kinds := [], alts := [], laidByText := true, laidKinds := [.data, .data, .data], laidTests := true, laidLooks := .later }
def PlainlyCardSaid : Prop := Claim7.holds Tryz.pinned (.plain (OpenSpec.ofChange plainlySpec)) plainlyCard

/-- THE TIED CARD OF 'junctionkeep.Witnessed'. -/
def witnessedCard : Claim7 := { stood := { row := witnessedRow, standIns := [], harness := (true, "a00b827f4020455b2e4dd9608eccaed68ddce60db7e4af139c1a604ba09dc93f"), looks := true }, kinds := [], alts := [], laidByText := true, laidKinds := [.data, .data, .data], laidTests := true, laidLooks := .later }
def WitnessedCardSaid : Prop := Claim7.holds Tryz.pinned (.plain (OpenSpec.ofChange witnessedSpec)) witnessedCard

/-- THE TIED CARD OF 'junctionkeep.Carried'. -/
def carriedCard : Claim7 := { stood := { row := carriedRow, standIns := [], harness := (true, "a00b827f4020455b2e4dd9608eccaed68ddce60db7e4af139c1a604ba09dc93f"), looks := true }, kinds := [], alts := [], laidByText := true, laidKinds := [.data], laidTests := true, laidLooks := .later }
def CarriedCardSaid : Prop := Claim7.holds Tryz.pinned (.plain (OpenSpec.ofChange carriedSpec)) carriedCard

/-- THE SECOND FORM's CARD OF 'junctionlaw.Reads'. -/
def readsUptoCard : Claim7 := { stood := { row := readsUptoRow, standIns := [], harness := (true, "a00b827f4020455b2e4dd9608eccaed68ddce60db7e4af139c1a604ba09dc93f"), looks := true }, kinds := [], alts := [], laidByText := true, laidKinds := [.data, .data, .data, .data, .data, .sentinel, .sentinel, .pinned], laidTests := true, laidLooks := .later }
def ReadsUptoCardSaid : Prop := Claim7.holds Tryz.pinned (.plain (OpenSpec.upto readsSpec)) readsUptoCard

/-- THE SECOND FORM's CARD OF 'junctionlaw.Decides'. -/
def decidesUptoCard : Claim7 := { stood := { row := decidesUptoRow, standIns := [], harness := (true, "a00b827f4020455b2e4dd9608eccaed68ddce60db7e4af139c1a604ba09dc93f"), looks := true }, kinds := [], alts := [], laidByText := true, laidKinds := [.data, .data, .data, .data, .data, .sentinel, .sentinel, .pinned], laidTests := true, laidLooks := .later }
def DecidesUptoCardSaid : Prop := Claim7.holds Tryz.pinned (.plain (OpenSpec.upto decidesSpec)) decidesUptoCard

/-- THE SECOND FORM's CARD OF 'junctionlaw.Reports'. -/
def reportsUptoCard : Claim7 := { stood := { row := reportsUptoRow, standIns := [], harness := (true, "a00b827f4020455b2e4dd9608eccaed68ddce60db7e4af139c1a604ba09dc93f"), looks := true }, kinds := [], alts := [], laidByText := true, laidKinds := [.data, .data, .data, .data, .data, .sentinel, .sentinel, .pinned], laidTests := true, laidLooks := .later }
def ReportsUptoCardSaid : Prop := Claim7.holds Tryz.pinned (.plain (OpenSpec.upto reportsSpec)) reportsUptoCard

/-- THE SECOND FORM's CARD OF 'junctionlaw.Loads'. -/
def loadsUptoCard : Claim7 := { stood := { row := loadsUptoRow, standIns := [], harness := (true, "a00b827f4020455b2e4dd9608eccaed68ddce60db7e4af139c1a604ba09dc93f"), looks := true }, kinds := [], alts := [], laidByText := true, laidKinds := [.data, .data, .data, .data, .data, .sentinel, .sentinel, .pinned], laidTests := true, laidLooks := .later }
def LoadsUptoCardSaid : Prop := Claim7.holds Tryz.pinned (.plain (OpenSpec.upto loadsSpec)) loadsUptoCard

/-- THE SECOND FORM's CARD OF 'junctionlaw.All'. -/
def allUptoCard : Claim7 := { stood := { row := allUptoRow, standIns := [], harness := (true, "a00b827f4020455b2e4dd9608eccaed68ddce60db7e4af139c1a604ba09dc93f"), looks := true }, kinds := [], alts := [], laidByText := true, laidKinds := [.data, .data, .data, .data, .data, .sentinel, .sentinel, .pinned], laidTests := true, laidLooks := .later }
def AllUptoCardSaid : Prop := Claim7.holds Tryz.pinned (.plain (OpenSpec.upto allSpec)) allUptoCard

/-- THE SECOND FORM's CARD OF 'junctionkeep.Plainly'. -/
def plainlyUptoCard : Claim7 := { stood := { row := plainlyUptoRow, standIns := [], harness := (true, "a00b827f4020455b2e4dd9608eccaed68ddce60db7e4af139c1a604ba09dc93f"), looks := true }, kinds := [], alts := [], laidByText := true, laidKinds := [.data, .data, .data], laidTests := true, laidLooks := .later }
def PlainlyUptoCardSaid : Prop := Claim7.holds Tryz.pinned (.plain (OpenSpec.upto plainlySpec)) plainlyUptoCard

/-- THE SECOND FORM's CARD OF 'junctionkeep.Witnessed'. -/
def witnessedUptoCard : Claim7 := { stood := { row := witnessedUptoRow, standIns := [], harness := (true, "a00b827f4020455b2e4dd9608eccaed68ddce60db7e4af139c1a604ba09dc93f"), looks := true }, kinds := [], alts := [], laidByText := true, laidKinds := [.data, .data, .data], laidTests := true, laidLooks := .later }
def WitnessedUptoCardSaid : Prop := Claim7.holds Tryz.pinned (.plain (OpenSpec.upto witnessedSpec)) witnessedUptoCard

/-- THE SECOND FORM's CARD OF 'junctionkeep.Carried'. -/
def carriedUptoCard : Claim7 := { stood := { row := carriedUptoRow, standIns := [], harness := (true, "a00b827f4020455b2e4dd9608eccaed68ddce60db7e4af139c1a604ba09dc93f"), looks := true }, kinds := [], alts := [], laidByText := true, laidKinds := [.data], laidTests := true, laidLooks := .later }
def CarriedUptoCardSaid : Prop := Claim7.holds Tryz.pinned (.plain (OpenSpec.upto carriedSpec)) carriedUptoCard
end Rows
end Go.Proofs.YtccikgogjfbpeaaGreatDoor
