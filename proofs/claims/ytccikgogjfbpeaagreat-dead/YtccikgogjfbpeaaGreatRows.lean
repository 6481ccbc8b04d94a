/-
  No cell of these rows narrows 'for every input' (looked for: loops, veiled, ifaces, maps, wideKeys, modest, calm, conditions, laid).
  DERIVED. THE GIVEN ROWS OF THIS SEAT. 3 by the template 'for every input the law returns true; each argument reads behind the call as it read before'; 0 by the template 'total and deterministic' (their statements: YtccikgogjfbpeaaGreatTotals.lean).
  GIVEN WITH THE SEED: the statements are not yours to turn. If you find one false, say at which input.
  Laid BY PROGRAM, IN A SANDBOX (cutbox-rows.mjs): the forced cells as the released guide's own fill.sh prints them over the translation 9f0498017c4e10ef… (all of the seat's roots in one cut). By AI agents, Wed Nov 11 2026. No macro, syntax, notation, axiom, sorry.
-/
import Derived.Test.YtccikgogjfbpeaaGreatChecked
import GoSem.Claim
import GoSem.ClaimJoined
import GoSem.ClaimMapViews
import Derived.JoinedTies
import Derived.KernelRfl
namespace Go.Proofs.YtccikgogjfbpeaaGreat
/- THE CELL 'sum', in the pinned program and in every row, IS THE sha256 OF THE DUMP (.gsa) THAT YtccikgogjfbpeaaGreatProg.lean LOADS. Nothing in Lean hashes anything: it is a label: what it is worth is what the hold of that sum in a sandbox is worth. -/
noncomputable def Tryz.pinned : Pinned := { name := "ytccikgogjfbpeaagreat", sum := "9f0498017c4e10ef310c81999077f12d472ecca74a840781cab94082effa3db2", checked := Tryz.checked }
namespace Rows
def none {H : Type} : Left H := { results := [], args := [] }

/-- 'junctionkeep.Cheapest': WHATEVER THE INPUT: true; the input reads as it did. -/
def cheapestSpec : ChangeSpec := { name := "cheapest", fn := fun _ => fun
  | [d1, d2, d3, d4] => { results := [.lit (.bool true)], args := [d1, d2, d3, d4] }
  | _ => none }
def cheapestRow : OpenClaim := { program := "ytccikgogjfbpeaagreat", sum := "9f0498017c4e10ef310c81999077f12d472ecca74a840781cab94082effa3db2", func := "junction/junctionkeep.Cheapest", spec := "cheapest", unfollowed := true, recurses := true, apart := false }
def CheapestSaid : Prop := cheapestRow.holds Tryz.pinned (OpenSpec.ofChange cheapestSpec)

/-- ITS FALSE NEIGHBOUR: 'it returns false'. Refute it at one input. -/
def cheapestWrong : ChangeSpec := { name := "cheapest", fn := fun _ => fun
  | [d1, d2, d3, d4] => { results := [.lit (.bool false)], args := [d1, d2, d3, d4] }
  | _ => none }
def CheapestWrongFalsely : Prop := cheapestRow.holds Tryz.pinned (OpenSpec.ofChange cheapestWrong)

/-- 'junctionkeep.Above': WHATEVER THE INPUT: true; the input reads as it did. -/
def aboveSpec : ChangeSpec := { name := "above", fn := fun _ => fun
  | [d1, d2, d3] => { results := [.lit (.bool true)], args := [d1, d2, d3] }
  | _ => none }
def aboveRow : OpenClaim := { program := "ytccikgogjfbpeaagreat", sum := "9f0498017c4e10ef310c81999077f12d472ecca74a840781cab94082effa3db2", func := "junction/junctionkeep.Above", spec := "above", unfollowed := true, recurses := true, apart := false }
def AboveSaid : Prop := aboveRow.holds Tryz.pinned (OpenSpec.ofChange aboveSpec)

/-- ITS FALSE NEIGHBOUR: 'it returns false'. Refute it at one input. -/
def aboveWrong : ChangeSpec := { name := "above", fn := fun _ => fun
  | [d1, d2, d3] => { results := [.lit (.bool false)], args := [d1, d2, d3] }
  | _ => none }
def AboveWrongFalsely : Prop := aboveRow.holds Tryz.pinned (OpenSpec.ofChange aboveWrong)

/-- 'junctionkeep.Dead': WHATEVER THE INPUT: true; the input reads as it did. -/
def deadSpec : ChangeSpec := { name := "dead", fn := fun _ => fun
  | [d1, d2, d3] => { results := [.lit (.bool true)], args := [d1, d2, d3] }
  | _ => none }
def deadRow : OpenClaim := { program := "ytccikgogjfbpeaagreat", sum := "9f0498017c4e10ef310c81999077f12d472ecca74a840781cab94082effa3db2", func := "junction/junctionkeep.Dead", spec := "dead", unfollowed := true, recurses := true, apart := false }
def DeadSaid : Prop := deadRow.holds Tryz.pinned (OpenSpec.ofChange deadSpec)

/-- ITS FALSE NEIGHBOUR: 'it returns false'. Refute it at one input. -/
def deadWrong : ChangeSpec := { name := "dead", fn := fun _ => fun
  | [d1, d2, d3] => { results := [.lit (.bool false)], args := [d1, d2, d3] }
  | _ => none }
def DeadWrongFalsely : Prop := deadRow.holds Tryz.pinned (OpenSpec.ofChange deadWrong)

/- THE SECOND FORM. 'bulk': how many values and letters a reading holds, each counted each time it is reached (what is shared counts as often as it is met; a slice's spare places count too). A statement '..UptoSaid' is the law's where the arguments, and the package variables that the reading takes, are together of bulk at most 1048576: NARROWER than '..Said'. Prove '..Said' where nothing that the law and all that it calls make is longer than what came in: it says more and counts as full. Else prove '..UptoSaid'. A law counts once. -/
mutual
def uptoBulk {H : Type} : DataW H → Nat
  | .lit (.string bytes) => bytes.length + 1
  | .lit _ => 1
  | .nil => 1
  | .ptr d => uptoBulk d + 1
  | .slice elems spare => uptoBulkAll elems + uptoBulkAll spare + 1
  | .agg parts => uptoBulkAll parts + 1
  | .iface _ d => uptoBulk d + 1
  | .map entries => uptoBulkEntries entries + 1
  | .held _ => 1
def uptoBulkAll {H : Type} : List (DataW H) → Nat
  | [] => 0
  | d :: r => uptoBulk d + uptoBulkAll r
def uptoBulkEntries {H : Type} : List (Lit × DataW H) → Nat
  | [] => 0
  | x :: r => uptoBulkEntry x + uptoBulkEntries r
def uptoBulkEntry {H : Type} : Lit × DataW H → Nat
  | (.string bytes, d) => bytes.length + uptoBulk d + 1
  | (_, d) => uptoBulk d + 1
 end
def uptoSmall : (H : Type) → List (DataW H) → Bool := fun _ ds => decide (uptoBulkAll ds ≤ 1048576)
def OpenSpec.upto (s : _root_.Go.ChangeSpec) : _root_.Go.OpenSpec := { _root_.Go.OpenSpec.ofChange s with cond := some uptoSmall }

/-- 'junctionkeep.Cheapest', WHERE WHAT IT READS IS OF BULK AT MOST 1048576: true; the input reads as it did. -/
def cheapestUptoRow : OpenClaim := { program := "ytccikgogjfbpeaagreat", sum := "9f0498017c4e10ef310c81999077f12d472ecca74a840781cab94082effa3db2", func := "junction/junctionkeep.Cheapest", spec := "cheapest", unfollowed := true, recurses := true, apart := false, narrowed := true }
def CheapestUptoSaid : Prop := cheapestUptoRow.holds Tryz.pinned (OpenSpec.upto cheapestSpec)

/-- 'junctionkeep.Above', WHERE WHAT IT READS IS OF BULK AT MOST 1048576: true; the input reads as it did. -/
def aboveUptoRow : OpenClaim := { program := "ytccikgogjfbpeaagreat", sum := "9f0498017c4e10ef310c81999077f12d472ecca74a840781cab94082effa3db2", func := "junction/junctionkeep.Above", spec := "above", unfollowed := true, recurses := true, apart := false, narrowed := true }
def AboveUptoSaid : Prop := aboveUptoRow.holds Tryz.pinned (OpenSpec.upto aboveSpec)

/-- 'junctionkeep.Dead', WHERE WHAT IT READS IS OF BULK AT MOST 1048576: true; the input reads as it did. -/
def deadUptoRow : OpenClaim := { program := "ytccikgogjfbpeaagreat", sum := "9f0498017c4e10ef310c81999077f12d472ecca74a840781cab94082effa3db2", func := "junction/junctionkeep.Dead", spec := "dead", unfollowed := true, recurses := true, apart := false, narrowed := true }
def DeadUptoSaid : Prop := deadUptoRow.holds Tryz.pinned (OpenSpec.upto deadSpec)

end Rows
end Go.Proofs.YtccikgogjfbpeaaGreat
