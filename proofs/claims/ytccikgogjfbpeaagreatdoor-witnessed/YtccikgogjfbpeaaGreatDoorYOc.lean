/- Lists of numbers that came in, read. The law: the closed facts of the row Witnessed, one by one. For every two lists of numbers Witnessed answers true, and the lists read afterwards as they did: a witness that is told goes by both of its rules alone; of two rules that are not told the payment does not go by both. No condition but that the library's tables lie as the program's text lays them (the card ties them). -/
import Derived.Test.YtccikgogjfbpeaaGreatDoorYKc
import Derived.ProofKit
import Derived.OpenShut
import Derived.Carry
import Derived.SizedLaws
import Derived.Deep.Slices
import Derived.Deep.DeepHandedRow
import Derived.Test.YtccikgogjfbpeaaGreatDoorCards
import Derived.JoinedCond
import Derived.Test.YtccikgogjfbpeaaGreatDoorYOb
import Derived.Test.YtccikgogjfbpeaaGreatDoorTie
import Derived.Deep.DeepWitnessRowRef
import Derived.Lib.LaidTab
import Derived.Stop.LaidErr
import Derived.Lay
namespace Go.Proofs.YtccikgogjfbpeaaGreatDoor
open Go.ChangeShapes Go.WideShapes Go.ChangeAt Go.RowKit Go.Deep
theorem own : ownKnob Tryz.prog.godebug = none := by kernel_rfl
theorem laidOut : laidOutB Tryz.prog = true := by kernel_rfl
theorem cellsInt : Tryz.prog.cellsOf 3 = 1 := by kernel_rfl
theorem wf_in {a : Int} (h : (Lit.int .i64 a).wf = true) : InI a := (by simpa [Lit.wf] using h : IntKind.i64.min ≤ a ∧ a ≤ 9223372036854775807)
theorem listI_of {Q : Nat → Int → Prop} : ∀ n, (∀ i, i < n → ∃ s, Q i s) → ∃ l : List Int, l.length = n ∧ ∀ k s, l[k]? = some s → Q k s
 | 0, _ => ⟨[], rfl, fun k s h => by simp at h⟩
 | n + 1, h => by
  obtain ⟨l, h1, h2⟩ := listI_of n (fun i hi => h i (by omega))
  obtain ⟨s, hs⟩ := h n (by omega)
  refine ⟨l ++ [s], by simp [h1], fun k s' hk => ?_⟩
  by_cases hkn : k < l.length
  ·rw [List.getElem?_append_left hkn] at hk
   exact h2 k s' hk
  ·rw [List.getElem?_append_right (by omega)] at hk
   have : k - l.length = 0 := by have := (List.getElem?_eq_some_iff.1 hk).1; simp at this; omega
   rw [this] at hk
   injection hk with hk
   subst hk
   have : k = n := by omega
   subst this
   exact hs
theorem ints_read {H : Type} {enc : TypeId × Value → H} {w : World} {base : Nat} {spare : Nat → Bool} {held : Bool} {n : Nat} {v : Value} {x : DataW H × List MemPlace} (h : DataW.trod enc Tryz.prog w base spare held n 25 [v] = some x) :
  ∃ (da : Option Addr) (dn dc : Nat) (dl : List Int), v = .slice da dn dc ∧ dl.length = dn ∧ RawAt w da dl ∧ (∀ y, y ∈ dl → InI y) ∧ dn ≤ dc := by
 rcases open_slice Tryz.underlying25 h with ⟨hcs, _⟩ | ⟨a, len, cap, m, n, D, Pl, hcs, hb, hl, hm, hmm, hx, hel⟩
 ·simp only [List.cons.injEq, and_true] at hcs
  exact ⟨none, 0, 0, [], hcs, rfl, fun k s hk => by simp at hk, fun y hy => (by simp at hy), Nat.le_refl _⟩
 ·simp only [List.cons.injEq, and_true] at hcs
  have hlm : len ≤ m := by rw [hmm]; split <;> omega
  obtain ⟨dl, h1, h2⟩ := listI_of (Q := fun k s => w.cell? (a.add k) = some (.int .i64 s) ∧ InI s) len (fun i hi => by
   obtain ⟨cs', e1, e2⟩ := hel i (by omega)
   rw [cellsInt, Nat.mul_one] at e1
   obtain ⟨s, e3, _, e4⟩ := DataW.trod_int Tryz.underlying3 e2
   subst e3
   obtain ⟨_, _, hc⟩ := World.cells?_some e1
   have := hc 0 (by simp)
   refine ⟨s, ?_, wf_in e4⟩
   simpa [Addr.add] using this)
  refine ⟨some a, len, cap, dl, hcs, h1, fun k s hk => ?_, fun y hy => ?_, hl⟩
  ·have hc := (h2 k s hk).1
   obtain ⟨g, o, spot⟩ := a
   have h00 : 0 < dl.length := by have := (List.getElem?_eq_some_iff.1 hk).1; omega
   have hc0 := (h2 0 _ (List.getElem?_eq_getElem h00)).1
   have hspot : spot = none := by simpa [Addr.add] using World.cell?_spot hc0
   subst hspot
   exact ⟨g, o, rfl, by rw [addr_add'] at hc; exact hc⟩
  ·obtain ⟨k, hk, rfl⟩ := List.getElem_of_mem hy
   exact (h2 k _ (List.getElem?_eq_getElem hk)).2
end Go.Proofs.YtccikgogjfbpeaaGreatDoor

namespace Go.Proofs.YtccikgogjfbpeaaGreatDoor
open Go.ChangeShapes Go.WideShapes Go.ChangeAt Go.RowKit
theorem pf0 : (Rows.witnessedRow.wf (OpenSpec.ofChange Rows.witnessedSpec)) = true := by kernel_rfl
theorem pf1 : (laidOutB Tryz.prog) = true := by kernel_rfl
theorem pf2 : (mapsRowed Tryz.prog) = true := by kernel_rfl
theorem pf3 : (Tryz.f9.params.all (Tryz.prog.readableRec ·)) = true := by kernel_rfl
theorem pf4 : (namedTie Tryz.prog Rows.witnessedRow.named Rows.witnessedSpec.vars) = true := by kernel_rfl
theorem pf5 : ((Rows.witnessedRow.stops == [])) = true := by kernel_rfl
theorem pf6 : ((Tryz.prog.stops == [])) = true := by kernel_rfl
theorem pf7 : ((Rows.witnessedRow.knobs == [])) = true := by kernel_rfl
theorem pf8 : ((Tryz.prog.stopKnobs == [])) = true := by kernel_rfl
theorem pf9 : ((Rows.witnessedRow.inPlace == Tryz.prog.inPlace 9)) = true := by kernel_rfl
theorem pf10 : ((Rows.witnessedRow.unfollowed == Tryz.prog.unfollowed 9)) = true := by kernel_rfl
theorem pf11 : ((Rows.witnessedRow.recurses == Tryz.prog.recurses 9)) = true := by kernel_rfl
theorem pf12 : ((Rows.witnessedRow.named == Tryz.prog.varsNamed 9)) = true := by kernel_rfl
theorem pf13 : ((Rows.witnessedRow.maps == (Tryz.f9.params.toList ++ Rows.witnessedSpec.plain.varTypes Tryz.prog).any (Tryz.prog.mapsRec ·))) = true := by kernel_rfl
theorem pf14 : ((Rows.witnessedRow.ifaces == (Tryz.f9.params.toList ++ Rows.witnessedSpec.plain.varTypes Tryz.prog).any (Tryz.prog.ifacesRec ·))) = true := by kernel_rfl
theorem pf15 : ((Rows.witnessedRow.mapsOut == Tryz.prog.mapsAmong Tryz.f9.resultTypes.toList)) = true := by kernel_rfl
theorem pf16 : ((Rows.witnessedRow.loops == (Tryz.f9.params.toList ++ Rows.witnessedSpec.plain.varTypes Tryz.prog).any (Tryz.prog.loopsFrom ·))) = true := by kernel_rfl
theorem pf17 : ((Rows.witnessedRow.wideKeys == (Tryz.f9.params.toList ++ Rows.witnessedSpec.plain.varTypes Tryz.prog ++ Tryz.f9.resultTypes.toList).any (Tryz.prog.wideKeysFrom ·))) = true := by kernel_rfl
theorem pf18 : (Rows.witnessedSpec.vars.all (Tryz.prog.varReadable ·)) = true := by kernel_rfl
theorem pf19 : (Tryz.f9.resultTypes.all (fun t => Tryz.prog.readableRec t && decide (t < Tryz.prog.types.size))) = true := by kernel_rfl
theorem pf20 : ((Rows.witnessedRow.ifacesOut == Tryz.f9.resultTypes.toList.any (Tryz.prog.ifacesRec ·))) = true := by kernel_rfl
theorem pf21 : ((Rows.witnessedRow.loopsOut == Tryz.f9.resultTypes.toList.any (Tryz.prog.loopsFrom ·))) = true := by kernel_rfl
theorem pf22 : ((Rows.witnessedRow.plainKeys == Tryz.prog.plainKeys)) = true := by kernel_rfl
theorem pf23 : (Rows.witnessedRow.shortTexts.isNone) = true := by kernel_rfl
theorem pf24 : (Tryz.prog.stopsHeard) = true := by kernel_rfl
theorem pf25 : (Tryz.prog.mayEnter) = true := by kernel_rfl
theorem pf26 : ((Rows.witnessedRow.lifted == Tryz.prog.liftsFinal)) = true := by kernel_rfl
theorem pf27 : ((Tryz.prog.make == some Rows.witnessedRow.make)) = true := by kernel_rfl
theorem pf28 : ((Rows.witnessedRow.kinds == (if Rows.witnessedRow.domain.isEmpty then [] else Tryz.f9.params.toList.map fun t => match Tryz.prog.underlying t with | some (.int k) => some k | _ => none))) = true := by kernel_rfl
theorem pf29 : ((Rows.witnessedRow.pinned == Rows.witnessedRow.pinnedBy)) = true := by kernel_rfl
theorem pf30 : ((Rows.witnessedRow.veiled == (Tryz.f9.params.toList ++ Rows.witnessedSpec.plain.varTypes Tryz.prog ++ Tryz.f9.resultTypes.toList).any (Tryz.prog.veiledRec ·))) = true := by kernel_rfl
theorem pf31 : (Rows.witnessedRow.veiledFits Tryz.prog Tryz.f9.params.toList (Tryz.f9.params.toList ++ Rows.witnessedSpec.plain.varTypes Tryz.prog ++ Tryz.f9.resultTypes.toList)) = true := by kernel_rfl
theorem and_p {a b : Bool} (h1 : a = true) (h2 : b = true) : (a && b) = true := by rw [h1, h2]; rfl
set_option maxRecDepth 100000 in
theorem witnessed_closed : joinedFacts Tryz.prog 9 Tryz.f9 Rows.witnessedSpec Rows.witnessedRow = true := by
 unfold joinedFacts
 exact (and_p (and_p (and_p (and_p (and_p (and_p (and_p (and_p (and_p (and_p (and_p (and_p (and_p (and_p (and_p (and_p (and_p (and_p (and_p (and_p (and_p (and_p (and_p (and_p (and_p (and_p (and_p (and_p (and_p (and_p (and_p pf0 pf1) pf2) pf3) pf4) pf5) pf6) pf7) pf8) pf9) pf10) pf11) pf12) pf13) pf14) pf15) pf16) pf17) pf18) pf19) pf20) pf21) pf22) pf23) pf24) pf25) pf26) pf27) pf28) pf29) pf30) pf31)
end Go.Proofs.YtccikgogjfbpeaaGreatDoor

namespace Go.Proofs.YtccikgogjfbpeaaGreatDoor
open Go.ChangeShapes Go.WideShapes Go.ChangeAt Go.RowKit Go.Deep
theorem gPow : Tryz.prog.globalNamed "internal/strconv.uint64pow10" = some 1 := by kernel_rfl
theorem gPowType : (Tryz.prog.globals[1]?).map (·.type) = some 351 := by kernel_rfl
theorem cellsPow : Tryz.prog.cellsOf 351 = 20 := by kernel_rfl
theorem cells64 : Tryz.prog.cellsOf 328 = 1 := by kernel_rfl
theorem table {W : World} (h : laidMetH Tryz.prog Rows.witnessedRow.laid W) : Tab W := by
 have h' : laidMet Tryz.prog Rows.witnessedRow.laid W := h
 exact Lib.tabIs_of_head gPow gPowType Tryz.underlying351 Tryz.underlying328 cells64 cellsPow h'.tail.tail
set_option maxRecDepth 100000 in
theorem laid_met (os : Os) : laidMet Tryz.prog Rows.witnessedRow.laid ((World.laidAll Tryz.prog os Rows.witnessedRow.laid).forCall (fun _ _ => 0) ⟨#[], #[.slice none 0 0, .slice none 0 0], []⟩).memory :=
 laidMet_laidAll _ (by kernel_rfl) (by kernel_rfl)
set_option maxRecDepth 100000 in
theorem laid_vars (os : Os) : ((World.laidAll Tryz.prog os Rows.witnessedRow.laid).forCall (fun _ _ => 0) ⟨#[], #[.slice none 0 0, .slice none 0 0], []⟩).variablesRefB Tryz.checked.prog = true := by kernel_rfl
set_option maxRecDepth 100000 in
theorem contract (H : Type) (enc : TypeId × Value → H) (W : World) (base : Nat) (args : Array Value) (ds gs : List (DataW H)) (before : List MemPlace)
  (hval : ∀ (j : Nat) t v, Tryz.f9.params[j]? = some t → args[j]? = some v → Value.okWide Tryz.prog W .any base t v)
  (hW : DataW.Whole enc Tryz.prog Tryz.f9.params.toList Rows.witnessedSpec.vars false W args.toList ds gs before) (hL : laidMetH Tryz.prog Rows.witnessedRow.laid W) :
  Calls Tryz.prog 9 args W fun e W' => ∃ v, e = .returned v ∧ Rows.witnessedSpec.post enc Tryz.prog Tryz.f9 false true false false W args v W' := by
 have hW' := hW
 obtain ⟨p, q, hA0, hV, rfl, _, _⟩ := hW
 have hA : DataW.TrodAll enc Tryz.prog W 0 (fun _ => true) true Tryz.f9.params.toList args.toList ds p := hA0
 rw [Tryz.params9] at hA hval
 obtain ⟨v0, vs0, d0, ds0, p0, q0, hargs, rfl, rfl, h0, r0⟩ := trodAll_cons hA
 obtain ⟨v1, vs1, d1, ds1, p1, q1, rfl, rfl, rfl, h1, r1⟩ := trodAll_cons r0
 obtain ⟨rfl, rfl, rfl⟩ := trodAll_nil r1
 obtain rfl : args = #[v0, v1] := by cases args; simp_all
 obtain ⟨rfl, rfl⟩ := trodVars_none hV
 have h0k := h0
 have h1k := h1
 obtain ⟨fuel, hf⟩ := h0
 obtain ⟨fuel2, hf2⟩ := h1
 clear hA0
 simp only [List.append_nil] at hW'
 have hlt : ∀ x ∈ p0, x.block < W.heap.size := fun x hx => by simpa using hW'.lt x (by simp [hx])
 have hlt2 : ∀ x ∈ p1, x.block < W.heap.size := fun x hx => by simpa using hW'.lt x (by simp [hx])
 obtain ⟨da, dn, dc, rfl⟩ := okWide_slice Tryz.underlying25 (hval 0 25 v0 rfl rfl)
 obtain ⟨ea, en, ec, rfl⟩ := okWide_slice Tryz.underlying25 (hval 1 25 v1 rfl rfl)
 obtain ⟨da', dn', dc', dl, e, l1, l2, l3, l4⟩ := ints_read hf
 injection e with e1 e2 e3
 subst e1 e2 e3
 obtain ⟨ea', en', ec', el, e, m1, m2, m3, m4⟩ := ints_read hf2
 injection e with e1 e2 e3
 subst e1 e2 e3
 refine (Witnessed_any W da dn dc dl ea en ec el l1 l4 l2 l3 m1 m2 m3 (table hL)).mono fun e W' ⟨he, hfr⟩ => ?_
 subst he
 have hB : Below W.heap.size W W' := hfr.below (Nat.le_refl _) (by simp)
 exact ⟨_, rfl, ⟨_, _, _, [], _, [], hW', trodAll_mk1 (shut_bool Tryz.underlying4 true), trodAll_cons_mk (Below.trod laidOut (by kernel_rfl) (of_decide_eq_true (by kernel_rfl)) h0k hB hlt) (trodAll_cons_mk (Below.trod laidOut (by kernel_rfl) (of_decide_eq_true (by kernel_rfl)) h1k hB hlt2) trodAll_mk0), rfl, hB.frame _, fun h => by cases h⟩⟩
theorem reads (os : Os) {H : Type} (enc : TypeId × Value → H) : ∃ places, DataW.whole enc Tryz.prog ((World.laidAll Tryz.prog os Rows.witnessedRow.laid).forCall (fun _ _ => 0) ⟨#[], #[.slice none 0 0, .slice none 0 0], []⟩).memory Tryz.f9.params.toList Rows.witnessedSpec.vars false #[Value.slice none 0 0, .slice none 0 0].toList 8 = some ([.nil, .nil], [], places) :=
 ⟨[], by kernel_rfl⟩
set_option maxRecDepth 100000 in
theorem lifted (os : Os) (started : os.Started) (H : Type) (enc : TypeId × Value → H) (F : Stop.Interp) :
    ReturnsInHanded {} Tryz.checked os 9 .any ((OpenSpec.ofChange Rows.witnessedSpec).preRow enc Tryz.prog Tryz.f9 Rows.witnessedRow.domain false Rows.witnessedRow.laid) (((OpenSpec.ofChange Rows.witnessedSpec).at F).post enc Tryz.prog Tryz.f9 false true false false) := by
  obtain ⟨places, hx⟩ := reads os enc
  refine returnsInHanded_of_row (C := Tryz.checked) (s := OpenSpec.ofChange Rows.witnessedSpec) own started (by kernel_rfl) Tryz.func9
    (witness_row_atRef (enc := enc) (C := Tryz.checked) false (World.laidAll Tryz.prog os Rows.witnessedRow.laid) #[.slice none 0 0, .slice none 0 0] (World.laidAll_os _ _ _) (laid_vars os) (by kernel_rfl) (by kernel_rfl)
      (OpenSpec.preRow_of_cond 8 hx (by kernel_rfl) (fun k hk => by cases hk) (by kernel_rfl) (laid_met os))) ?_
  intro W base args ds gs before hval hW _ _ _ hL _ _
  exact contract H enc W base args ds gs before hval hW hL
set_option maxRecDepth 100000 in
theorem said : Rows.WitnessedSaid :=
 OpenClaim.holds_of_cond 9 Tryz.f9 rfl rfl rfl rfl rfl rfl rfl ⟨rfl, rfl, rfl, rfl, rfl⟩ rfl rfl rfl rfl rfl (by kernel_rfl) Tryz.func9 witnessed_closed
  (of_decide_eq_true (by kernel_rfl)) (by unfold Func.isWrapper; first | (rw [if_pos (by decide +kernel)]; kernel_rfl) | (rw [if_neg (by decide +kernel)]; exact ⟨rfl, rfl⟩))
  (fun os started H enc _ F => by rw [OpenClaim.pre_eq_preRow]; exact lifted os started H enc F)
theorem plain (f : FuncId) (fn : Func) (hf : Tryz.pinned.checked.prog.funcNamed "junction/junctionkeep.Witnessed" = some f) (hfn : Tryz.pinned.checked.prog.funcs[f]? = some fn) :
  true = Tryz.pinned.checked.prog.looks [] ∧ ∀ (j : Nat) t, fn.params[j]? = some t → Tryz.pinned.checked.prog.wantsStandIn t = false := by
 obtain rfl : f = 9 := Option.some.inj ((show Tryz.prog.funcNamed "junction/junctionkeep.Witnessed" = some 9 by kernel_rfl).symm.trans hf) |>.symm
 obtain rfl : fn = Tryz.f9 := (Option.some.inj (Tryz.func9.symm.trans hfn)).symm
 refine ⟨by kernel_rfl, fun j t ht => ?_⟩
 rw [Tryz.params9] at ht
 have hm := Array.mem_of_getElem? ht
 simp only [List.mem_toArray, List.mem_cons, List.not_mem_nil, or_false] at hm
 rcases hm with rfl | rfl
 ·exact (show Tryz.prog.wantsStandIn 25 = false by kernel_rfl)
 ·exact (show Tryz.prog.wantsStandIn 25 = false by kernel_rfl)
theorem witnessed_card : Rows.WitnessedCardSaid :=
 Claim7.holds_tied_plain_at .later [] _ _ _ _ said (fun _ h => by cases h) (by kernel_rfl) (fun _ h => by cases h) witnessed_row_tie rfl ⟨rfl, rfl⟩ (by kernel_rfl) rfl plain (by kernel_rfl)
end Go.Proofs.YtccikgogjfbpeaaGreatDoor
