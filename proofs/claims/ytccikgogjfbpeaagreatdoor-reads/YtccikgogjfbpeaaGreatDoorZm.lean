/- For every script of steps, played up to the plain texts, Reads answers true, and the script reads afterwards as it did: every Compile tells the fault's kind and line that the document's own reader tells, or gives a table where it gives rules, and every table's plain text is the document's. Conditions: none but the row's own (the library's three tables lie as their text lays them; the card ties them). -/
import Derived.Test.YtccikgogjfbpeaaGreatDoorZk
import Derived.Test.YtccikgogjfbpeaaGreatDoorZl
import Derived.Test.YtccikgogjfbpeaaGreatDoorCards
import Derived.Test.YtccikgogjfbpeaaGreatDoorTie
import Derived.ProofKit
import Derived.OpenShut
import Derived.Carry
import Derived.Deep.Slices
import Derived.Deep.DeepHandedRow
import Derived.Lib.LaidTab
import Derived.Stop.LaidErr
namespace Go.Proofs.YtccikgogjfbpeaaGreatDoor
open Go.ChangeShapes Go.WideShapes Go.ChangeAt Go.RowKit Go.Deep

theorem own : ownKnob Tryz.prog.godebug = none := by kernel_rfl
theorem laidOut : laidOutB Tryz.prog = true := by kernel_rfl
theorem cellsOp : Tryz.prog.cellsOf 62 = 9 := by kernel_rfl
theorem cellsInt : Tryz.prog.cellsOf 3 = 1 := by kernel_rfl
theorem cellsStr : Tryz.prog.cellsOf 9 = 1 := by kernel_rfl
theorem cellsPay : Tryz.prog.cellsOf 35 = 4 := by kernel_rfl
theorem cellsStrs : Tryz.prog.cellsOf 28 = 1 := by kernel_rfl
theorem cellsBool : Tryz.prog.cellsOf 4 = 1 := by kernel_rfl

set_option maxRecDepth 100000 in
/-- One step of the script, read. -/
theorem op_read {H : Type} {enc : TypeId × Value → H} {w : World} {base : Nat} {spare : Nat → Bool} {held : Bool} {n : Nat} {cs : List Value} {x : DataW H × List MemPlace} (h : DataW.trod enc Tryz.prog w base spare held n 62 cs = some x) :
  ∃ (k on : Int) (s pan : ByteArray) (mcc am cur : Int) (da : Option Addr) (dn dc : Nat) (up : Bool), -9223372036854775808 ≤ on ∧ on ≤ 9223372036854775807 ∧
   cs = [.int .i64 k, .int .i64 on, .string s, .string pan, .int .i64 mcc, .int .i64 am, .int .i64 cur, .slice da dn dc, .bool up] := by
 obtain ⟨xs, m, _, _, hl, hxl, hf⟩ := DataW.trod_struct Tryz.underlying62 h
 rw [cellsOp] at hl
 match cs, hl, xs, hxl, hf with
 | [v0, v1, v2, v3, v4, v5, v6, v7, v8], _, [y0, y1, y2, y3, y4, y5], _, hf =>
  have g0 := hf 0 (Field.mk "Kind" 3 0 false "" "" 0) rfl
  have g1 := hf 1 (Field.mk "On" 3 1 false "" "" 8) rfl
  have g2 := hf 2 (Field.mk "Text" 9 2 false "" "" 16) rfl
  have g3 := hf 3 (Field.mk "P" 35 3 false "" "" 32) rfl
  have g4 := hf 4 (Field.mk "Down" 28 7 false "" "" 72) rfl
  have g5 := hf 5 (Field.mk "Up" 4 8 false "" "" 96) rfl
  simp only [cellsInt, cellsStr, cellsPay, cellsStrs, cellsBool, List.drop_succ_cons, List.drop_zero, List.take_succ_cons, List.take_zero, List.getElem?_cons_zero, List.getElem?_cons_succ] at g0 g1 g2 g3 g4 g5
  obtain ⟨k, e0, _, _⟩ := DataW.trod_int Tryz.underlying3 g0
  obtain ⟨on, e1, _, w1⟩ := DataW.trod_int Tryz.underlying3 g1
  obtain ⟨s, e2, _, _⟩ := DataW.trod_string Tryz.underlying9 g2
  obtain ⟨zs, m', _, _, _, hzl, hz⟩ := DataW.trod_struct Tryz.underlying35 g3
  obtain ⟨up, e8, _⟩ := DataW.trod_bool Tryz.underlying4 g5
  have e7 : ∃ da dn dc, [v7] = [Value.slice da dn dc] := by
   rcases DataW.trod_slice Tryz.underlying28 g4 with ⟨e, _⟩ | ⟨a, len, cap, _, _, _, _, e, _⟩
   ·exact ⟨none, 0, 0, e⟩
   ·exact ⟨some a, len, cap, e⟩
  obtain ⟨da, dn, dc, e7⟩ := e7
  match zs, hzl, hz with
  | [z0, z1, z2, z3], _, hz =>
   have q0 := hz 0 (Field.mk "Pan" 9 0 false "" "" 0) rfl
   have q1 := hz 1 (Field.mk "Mcc" 3 1 false "" "" 16) rfl
   have q2 := hz 2 (Field.mk "Amount" 3 2 false "" "" 24) rfl
   have q3 := hz 3 (Field.mk "Cur" 3 3 false "" "" 32) rfl
   simp only [cellsInt, cellsStr, List.drop_succ_cons, List.drop_zero, List.take_succ_cons, List.take_zero, List.getElem?_cons_zero, List.getElem?_cons_succ] at q0 q1 q2 q3
   obtain ⟨pan, e3, _, _⟩ := DataW.trod_string Tryz.underlying9 q0
   obtain ⟨mcc, e4, _, _⟩ := DataW.trod_int Tryz.underlying3 q1
   obtain ⟨am, e5, _, _⟩ := DataW.trod_int Tryz.underlying3 q2
   obtain ⟨cur, e6, _, _⟩ := DataW.trod_int Tryz.underlying3 q3
   simp only [List.cons.injEq, and_true] at e0 e1 e2 e3 e4 e5 e6 e7 e8
   subst e0 e1 e2 e3 e4 e5 e6 e7 e8
   have hw : -9223372036854775808 ≤ on ∧ on ≤ 9223372036854775807 := (by simpa [Lit.wf] using w1 : IntKind.i64.min ≤ on ∧ on ≤ 9223372036854775807)
   exact ⟨k, on, s, pan, mcc, am, cur, da, dn, dc, up, hw.1, hw.2, rfl⟩

set_option maxRecDepth 100000 in
/-- What the walks give, for every argument and every world that holds the table. -/
theorem contract (H : Type) (enc : TypeId × Value → H) (W : World) (base : Nat) (args : Array Value) (ds gs : List (DataW H)) (before : List MemPlace)
  (hval : ∀ (j : Nat) t v, Tryz.f3.params[j]? = some t → args[j]? = some v → Value.okWide Tryz.prog W .any base t v)
  (hW : DataW.Whole enc Tryz.prog Tryz.f3.params.toList Rows.readsSpec.vars false W args.toList ds gs before) (hL : laidMetH Tryz.prog Rows.readsRow.laid W) :
  Calls Tryz.prog 3 args W fun e W' => ∃ v, e = .returned v ∧ Rows.readsSpec.post enc Tryz.prog Tryz.f3 false true false false W args v W' := by
 have hW' := hW
 obtain ⟨p, q, hA0, hV, rfl, _, _⟩ := hW
 have hA : DataW.TrodAll enc Tryz.prog W 0 (fun _ => true) true Tryz.f3.params.toList args.toList ds p := hA0
 rw [Tryz.params3] at hA hval
 obtain ⟨v0, d0, rfl, rfl, h0⟩ := trodAll_one hA
 obtain ⟨rfl, rfl⟩ := trodVars_none hV
 have h0k := h0
 obtain ⟨fuel, hf⟩ := h0
 clear hA0
 simp only [List.append_nil] at hW'
 have hlt : ∀ x ∈ p, x.block < W.heap.size := fun x hx => by simpa using hW'.lt x hx
 obtain ⟨a0, len, cap, rfl⟩ := okWide_slice Tryz.underlying22 (hval 0 22 v0 rfl rfl)
 have hT : ∀ w', Below W.heap.size W w' → Tab w' := fun w' hb => (table hL).below (Nat.le_refl _) hb
 have walk : Calls Tryz.prog 3 #[.slice a0 len cap] W fun e w' => e = .returned (.bool true) ∧ Below W.heap.size W w' := by
  rcases open_slice Tryz.underlying22 hf with ⟨hcs, _⟩ | ⟨a, len', cap', m, n, D, Pl, hcs, hb, hl, hm, hmm, _, hx⟩
  ·simp [Value.cells] at hcs
   obtain ⟨rfl, rfl, rfl⟩ := hcs
   exact Reads_any W none 0 0 (by unfold maxLen; omega) (fun i hi => by omega) hT
  ·simp [Value.cells] at hcs
   obtain ⟨rfl, rfl, rfl⟩ := hcs
   simp only [if_true] at hmm
   refine Reads_any W (some a) len cap (by omega) (fun i hi => ?_) hT
   obtain ⟨cs', h1, h2⟩ := hx i (by omega)
   obtain ⟨cs0, h3, _⟩ := hx 0 (by omega)
   rw [cellsOp] at h1 h3
   obtain ⟨_, hlen, hcell⟩ := World.cells?_some h1
   obtain ⟨_, hlen0, hcell0⟩ := World.cells?_some h3
   obtain ⟨k, on, s, pan, mcc, am, cur, da, dn, dc, up, w1, w2, rfl⟩ := op_read h2
   obtain ⟨b, off, spot⟩ := a
   have hspot : spot = none := by
    match cs0, hlen0, hcell0 with
    | c :: _, _, hcell0 => simpa [Addr.add] using World.cell?_spot (hcell0 0 (by omega))
   subst hspot
   have g : ∀ j v, [Value.int .i64 k, .int .i64 on, .string s, .string pan, .int .i64 mcc, .int .i64 am, .int .i64 cur, .slice da dn dc, .bool up][j]? = some v → W.cell? ⟨b, off + i * 9 + j, none⟩ = some v := fun j v hj => by
    have := hcell j (List.getElem?_eq_some_iff.1 hj).1
    rw [add_plain, add_plain] at this
    rw [this]
    exact hj
   exact ⟨b, off, rfl, World.block_lt_of_cell? W _ (g 0 _ rfl), k, on, s, pan, mcc, am, cur, da, dn, dc, up, w1, w2, g 0 _ rfl, g 1 _ rfl, g 2 _ rfl, g 3 _ rfl, g 4 _ rfl, g 5 _ rfl, g 6 _ rfl, g 7 _ rfl, g 8 _ rfl⟩
 refine walk.mono fun e W' ⟨he, hB⟩ => ?_
 subst he
 exact ⟨_, rfl, ⟨_, _, _, [], _, [], hW', trodAll_mk1 (shut_bool Tryz.underlying4 true), trodAll_mk1 (Below.trod laidOut (by kernel_rfl) (of_decide_eq_true (by kernel_rfl)) h0k hB hlt), rfl, hB.frame _, fun h => by cases h⟩⟩

theorem reads (os : Os) {H : Type} (enc : TypeId × Value → H) : ∃ places, DataW.whole enc Tryz.prog ((World.laidAll Tryz.prog os Rows.readsRow.laid).forCall (fun _ _ => 0) ⟨#[], #[.slice none 0 0], []⟩).memory Tryz.f3.params.toList Rows.readsSpec.vars false #[Value.slice none 0 0].toList 8 = some ([.nil], [], places) :=
 ⟨[], by kernel_rfl⟩

set_option maxRecDepth 100000 in
theorem lifted (os : Os) (started : os.Started) (H : Type) (enc : TypeId × Value → H) (F : Stop.Interp) :
    ReturnsInHanded {} Tryz.checked os 3 .any ((OpenSpec.ofChange Rows.readsSpec).preRow enc Tryz.prog Tryz.f3 Rows.readsRow.domain false Rows.readsRow.laid) (((OpenSpec.ofChange Rows.readsSpec).at F).post enc Tryz.prog Tryz.f3 false true false false) := by
  obtain ⟨places, hx⟩ := reads os enc
  refine returnsInHanded_of_row (C := Tryz.checked) (s := OpenSpec.ofChange Rows.readsSpec) own started (by kernel_rfl) Tryz.func3
    (witness_row_atRef (enc := enc) (C := Tryz.checked) false (World.laidAll Tryz.prog os Rows.readsRow.laid) #[.slice none 0 0] (World.laidAll_os _ _ _) (laid_vars os) (by kernel_rfl) (by kernel_rfl)
      (OpenSpec.preRow_of_cond 8 hx (by kernel_rfl) (fun k hk => by cases hk) (by kernel_rfl) (laid_met os))) ?_
  intro W base args ds gs before hval hW _ _ _ hL _ _
  exact contract H enc W base args ds gs before hval hW hL

set_option maxRecDepth 100000 in
theorem said : Rows.ReadsSaid :=
 OpenClaim.holds_of_cond 3 Tryz.f3 rfl rfl rfl rfl rfl rfl rfl ⟨rfl, rfl, rfl, rfl, rfl⟩ rfl rfl rfl rfl rfl (by kernel_rfl) Tryz.func3 reads_closed
  (of_decide_eq_true (by kernel_rfl)) (by unfold Func.isWrapper; first | (rw [if_pos (by decide +kernel)]; kernel_rfl) | (rw [if_neg (by decide +kernel)]; exact ⟨rfl, rfl⟩))
  (fun os started H enc _ F => by rw [OpenClaim.pre_eq_preRow]; exact lifted os started H enc F)

theorem plain (f : FuncId) (fn : Func) (hf : Tryz.pinned.checked.prog.funcNamed "junction/junctionlaw.Reads" = some f) (hfn : Tryz.pinned.checked.prog.funcs[f]? = some fn) :
  true = Tryz.pinned.checked.prog.looks [] ∧ ∀ (j : Nat) t, fn.params[j]? = some t → Tryz.pinned.checked.prog.wantsStandIn t = false := by
 obtain rfl : f = 3 := Option.some.inj ((show Tryz.prog.funcNamed "junction/junctionlaw.Reads" = some 3 by kernel_rfl).symm.trans hf) |>.symm
 obtain rfl : fn = Tryz.f3 := (Option.some.inj (Tryz.func3.symm.trans hfn)).symm
 refine ⟨by kernel_rfl, fun j t ht => ?_⟩
 rw [Tryz.params3] at ht
 obtain rfl : t = 22 := by simpa using Array.mem_of_getElem? ht
 exact (show Tryz.prog.wantsStandIn 22 = false by kernel_rfl)

/-- The card. -/
theorem reads_card : Rows.ReadsCardSaid :=
 Claim7.holds_tied_plain_at .later [] _ _ _ _ said (fun _ h => by cases h) (by kernel_rfl) (fun _ h => by cases h) reads_row_tie rfl ⟨rfl, rfl⟩ (by kernel_rfl) rfl plain (by kernel_rfl)
end Go.Proofs.YtccikgogjfbpeaaGreatDoor
