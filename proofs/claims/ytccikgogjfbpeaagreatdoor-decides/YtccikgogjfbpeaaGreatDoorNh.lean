/- For every script of steps, played up to the decisions, Decides answers true, and the script reads afterwards as it did: every decision of a compiled table is the document's own, whatever payment and whatever routes are down; and lists that went in or came out belong to their callers. Conditions: none but the row's own (the library's three tables lie as their text lays them; the card ties them). -/
import Derived.Test.YtccikgogjfbpeaaGreatDoorNg
import Derived.Test.YtccikgogjfbpeaaGreatDoorTie
import Derived.OpenShut
import Derived.SizedLaws
namespace Go.Proofs.YtccikgogjfbpeaaGreatDoor
set_option maxRecDepth 30000
set_option maxHeartbeats 8000000
open Go.ChangeShapes Go.WideShapes Go.ChangeAt Go.RowKit Go.Deep
theorem own : ownKnob Tryz.prog.godebug = none := by kernel_rfl
theorem laidOut : laidOutB Tryz.prog = true := by kernel_rfl
theorem cellsOp : Tryz.prog.cellsOf 62 = 9 := by kernel_rfl
theorem cellsInt : Tryz.prog.cellsOf 3 = 1 := by kernel_rfl
theorem cellsStr : Tryz.prog.cellsOf 9 = 1 := by kernel_rfl
theorem cellsPay : Tryz.prog.cellsOf 35 = 4 := by kernel_rfl
theorem cellsStrs : Tryz.prog.cellsOf 28 = 1 := by kernel_rfl
theorem cellsBool : Tryz.prog.cellsOf 4 = 1 := by kernel_rfl
theorem bytesOp : Tryz.prog.bytesOf 62 = 104 := by kernel_rfl
theorem bytesStr : Tryz.prog.bytesOf 9 = 16 := by kernel_rfl
theorem weightsAll_mem {H : Type} {P : Program} {e : TypeId} : ∀ {l : List (DataW H)} {d : DataW H}, d ∈ l -> ∀ n ∈ d.weights P e, n ∈ DataW.weightsAll P e l
 | x :: r, d, hd, n, hn => by
  unfold DataW.weightsAll;rcases List.mem_cons.1 hd with e | e
  ·subst e
   exact List.mem_append_left _ hn
  ·exact List.mem_append_right _ (weightsAll_mem e n hn)
theorem list_of {Q : Nat -> ByteArray -> Prop} : ∀ n, (∀ i, i < n -> ∃ s, Q i s) -> ∃ l : List ByteArray, l.length = n /\ ∀ k s, l[k]? = some s -> Q k s
 | 0, _ => ⟨[], rfl, fun k s h => by simp at h⟩
 | n + 1, h => by
  obtain ⟨l, h1, h2⟩ := list_of n (fun i hi => h i (by omega));obtain ⟨s, hs⟩ := h n (by omega);refine ⟨l ++ [s], by simp [h1], fun k s' hk => ?_⟩;by_cases hkn : k < l.length
  ·rw [List.getElem?_append_left hkn] at hk
   exact h2 k s' hk
  ·rw [aR (by omega)] at hk
   have : k - l.length = 0 := by have := (iG.1 hk).1; simp at this; omega
   rw [this] at hk;injection hk with hk;subst hk
   have : k = n := by omega
   subst this;exact hs
theorem strs_read {H : Type} {enc : TypeId × Value -> H} {w : World} {base : Nat} {spare : Nat -> Bool} {held : Bool} {n : Nat} {v : Value} {x : DataW H × List MemPlace} (h : DataW.trod enc Tryz.prog w base spare held n 28 [v] = some x) (hw : ∀ n ∈ x.1.weights Tryz.prog 28, n <= reachBytes) :
  ∃ (da : Option Addr) (dn dc : Nat) (dl : List ByteArray), v = .slice da dn dc /\ dl.length = dn /\ StrsAt w da dl /\ (dn + 6) * 16 <= 140737488355328 := by
 rcases open_slice Tryz.underlying28 h with ⟨hcs, _⟩ | ⟨a, len, cap, m, n, D, Pl, hcs, hb, hl, hm, hmm, hx, hel⟩
 ·simp only [List.cons.injEq, and_true] at hcs
  exact ⟨none, 0, 0, [], hcs, rfl, fun k s hk => by simp at hk, by omega⟩
 ·simp only [List.cons.injEq, and_true] at hcs
  have hlm : len <= m := by rw [hmm]; split <;> omega
  have hB : len * 16 <= reachBytes := by
   have := hw ((len + (m - len)) * 16) (by rw [hx]; simp [DataW.weights, Tryz.underlying28, bytesStr]);omega
  obtain ⟨dl, h1, h2⟩ := list_of (Q := fun k s => w.cell? (a.add k) = some (.string s)) len (fun i hi => by
   obtain ⟨cs', e1, e2⟩ := hel i (by omega);rw [cellsStr, Nat.mul_one] at e1;obtain ⟨s, e3, _, _⟩ := DataW.trod_string Tryz.underlying9 e2;subst e3;obtain ⟨_, _, hc⟩ := World.cells?_some e1;have := hc 0 (by simp);refine ⟨s, ?_⟩
   simpa [Addr.add] using this)
  refine ⟨some a, len, cap, dl, hcs, h1, fun k s hk => ?_, by unfold reachBytes at hB; omega⟩;have hc := h2 k s hk
  have h00 : 0 < dl.length := by have := (iG.1 hk).1; omega
  have hc0 := h2 0 _ (gE h00);obtain ⟨g, o, spot⟩ := a
  have hspot : spot = none := by simpa [Addr.add] using World.cell?_spot hc0
  subst hspot;exact ⟨g, o, rfl, by rw [add_plain] at hc; exact hc⟩
set_option maxRecDepth 100000 in
theorem op_read {H : Type} {enc : TypeId × Value -> H} {w : World} {base : Nat} {spare : Nat -> Bool} {held : Bool} {n : Nat} {cs : List Value} {x : DataW H × List MemPlace} (h : DataW.trod enc Tryz.prog w base spare held n 62 cs = some x) (hwt : ∀ n ∈ x.1.weights Tryz.prog 62, n <= reachBytes) :
  ∃ (k on : Int) (s pan : ByteArray) (mcc am cur : Int) (da : Option Addr) (dn dc : Nat) (up : Bool) (dl : List ByteArray), (-9223372036854775808 <= on /\ on <= 9223372036854775807 /\ dl.length = dn /\ StrsAt w da dl /\ pan.size <= maxLen /\ (dn + 6) * 16 <= 140737488355328) /\
   cs = [.int .i64 k, .int .i64 on, .string s, .string pan, .int .i64 mcc, .int .i64 am, .int .i64 cur, .slice da dn dc, .bool up] := by
 obtain ⟨xs, m, _, hxe, hl, hxl, hf⟩ := DataW.trod_struct Tryz.underlying62 h;rw [cellsOp] at hl
 match cs, hl, xs, hxl, hf, hxe with
 | [v0, v1, v2, v3, v4, v5, v6, v7, v8], _, [y0, y1, y2, y3, y4, y5], _, hf, hxe =>
  have g0 := hf 0 (Field.mk "Kind" 3 0 false "" "" 0) rfl;have g1 := hf 1 (Field.mk "On" 3 1 false "" "" 8) rfl;have g2 := hf 2 (Field.mk "Text" 9 2 false "" "" 16) rfl;have g3 := hf 3 (Field.mk "P" 35 3 false "" "" 32) rfl;have g4 := hf 4 (Field.mk "Down" 28 7 false "" "" 72) rfl;have g5 := hf 5 (Field.mk "Up" 4 8 false "" "" 96) rfl;simp only [cellsInt, cellsStr, cellsPay, cellsStrs, cellsBool, List.drop_succ_cons, List.drop_zero, List.take_succ_cons, List.take_zero, List.getElem?_cons_zero, List.getElem?_cons_succ] at g0 g1 g2 g3 g4 g5;obtain ⟨k, e0, _, _⟩ := DataW.trod_int Tryz.underlying3 g0;obtain ⟨on, e1, _, w1⟩ := DataW.trod_int Tryz.underlying3 g1;obtain ⟨s, e2, _, _⟩ := DataW.trod_string Tryz.underlying9 g2;obtain ⟨zs, m', _, _, _, hzl, hz⟩ := DataW.trod_struct Tryz.underlying35 g3;obtain ⟨up, e8, _⟩ := DataW.trod_bool Tryz.underlying4 g5
  obtain ⟨da, dn, dc, dl, e7, l1, l2, l3⟩ := strs_read g4 (fun k hk => hwt k (by
   rw [hxe];simp only [DataW.weights, Tryz.underlying62]
   exact DataW.weights_mem_each (j := 4) rfl rfl k hk))
  match zs, hzl, hz with
  | [z0, z1, z2, z3], _, hz =>
   have q0 := hz 0 (Field.mk "Pan" 9 0 false "" "" 0) rfl;have q1 := hz 1 (Field.mk "Mcc" 3 1 false "" "" 16) rfl;have q2 := hz 2 (Field.mk "Amount" 3 2 false "" "" 24) rfl;have q3 := hz 3 (Field.mk "Cur" 3 3 false "" "" 32) rfl;simp only [cellsInt, cellsStr, List.drop_succ_cons, List.drop_zero, List.take_succ_cons, List.take_zero, List.getElem?_cons_zero, List.getElem?_cons_succ] at q0 q1 q2 q3;obtain ⟨pan, e3, _, lp⟩ := DataW.trod_string Tryz.underlying9 q0;obtain ⟨mcc, e4, _, _⟩ := DataW.trod_int Tryz.underlying3 q1;obtain ⟨am, e5, _, _⟩ := DataW.trod_int Tryz.underlying3 q2;obtain ⟨cur, e6, _, _⟩ := DataW.trod_int Tryz.underlying3 q3;simp only [List.cons.injEq, and_true] at e0 e1 e2 e3 e4 e5 e6 e7 e8;subst e0 e1 e2 e3 e4 e5 e6 e7 e8;have hw : -9223372036854775808 <= on /\ on <= 9223372036854775807 := (by simpa [Lit.wf] using w1 : IntKind.i64.min <= on /\ on <= 9223372036854775807);exact ⟨k, on, s, pan, mcc, am, cur, da, dn, dc, up, dl, ⟨hw.1, hw.2, l1, l2, lp, l3⟩, rfl⟩
set_option maxRecDepth 100000 in
theorem contract (H : Type) (enc : TypeId × Value -> H) (W : World) (base : Nat) (args : Array Value) (ds gs : List (DataW H)) (before : List MemPlace)
  (hval : ∀ (j : Nat) t v, Tryz.f4.params[j]? = some t -> args[j]? = some v -> Value.okWide Tryz.prog W .any base t v)
  (hW : DataW.Whole enc Tryz.prog Tryz.f4.params.toList Rows.decidesSpec.vars false W args.toList ds gs before) (hsz0 : (DataW.weightsEach Tryz.prog (Tryz.f4.params.toList ++ Rows.decidesSpec.plain.varTypes Tryz.prog) (ds ++ gs)).all (· <= reachBytes) = true) (hL : laidMetH Tryz.prog Rows.decidesRow.laid W) :
  Calls Tryz.prog 4 args W fun e W' => ∃ v, e = .returned v /\ Rows.decidesSpec.post enc Tryz.prog Tryz.f4 false true false false W args v W' := by
 have hsz : (DataW.weightsEach Tryz.prog (Tryz.f4.params.toList ++ []) (ds ++ gs)).all (· <= reachBytes) = true := hsz0;clear hsz0;have hW' := hW;obtain ⟨p, q, hA0, hV, rfl, _, _⟩ := hW;have hA : DataW.TrodAll enc Tryz.prog W 0 (fun _ => true) true Tryz.f4.params.toList args.toList ds p := hA0;rw [Tryz.params4] at hA hval hsz;obtain ⟨v0, d0, rfl, rfl, h0⟩ := trodAll_one hA;obtain ⟨rfl, rfl⟩ := trodVars_none hV;have h0k := h0;obtain ⟨fuel, hf⟩ := h0;clear hA0;simp only [List.append_nil] at hW'
 have hlt : ∀ x ∈ p, x.block < W.heap.size := fun x hx => by simpa using hW'.lt x hx
 obtain ⟨a0, len, cap, rfl⟩ := okWide_slice Tryz.underlying22 (hval 0 22 v0 rfl rfl)
 have hT : ∀ w', Below W.heap.size W w' -> Tab w' := fun w' hb => (table hL).below (Nat.le_refl _) hb
 have walk : Calls Tryz.prog 4 #[.slice a0 len cap] W fun e w' => e = .returned (.bool true) /\ Below W.heap.size W w' := by
  rcases open_slice Tryz.underlying22 hf with ⟨hcs, _⟩ | ⟨a, len', cap', m, n, D, Pl, hcs, hb, hl, hm, hmm, hd0, hx⟩
  ·simp [Value.cells] at hcs
   obtain ⟨rfl, rfl, rfl⟩ := hcs;exact Decides_any W none 0 0 (by omega) (fun i hi => by omega) hT
  ·simp [Value.cells] at hcs
   obtain ⟨rfl, rfl, rfl⟩ := hcs;simp only [if_true] at hmm;have hd : d0 = .slice ((List.range len).map D) ((List.range (m - len)).map fun j => D (len + j)) := congrArg Prod.fst hd0
   have hB : len * 104 <= reachBytes := by
    have e := sized_slice hsz (j := 0) (t := 22) (e := 62) rfl (by rw [hd]; rfl) Tryz.underlying22;rw [bytesOp] at e;simp at e;omega
   have hwD : ∀ i, i < len -> ∀ n ∈ (D i).weights Tryz.prog 62, n <= reachBytes := fun i hi n hn => by
    have e := List.all_eq_true.1 hsz n (DataW.weights_mem_each (j := 0) (t := 22) (d := d0) rfl rfl n (by
     rw [hd];simp only [DataW.weights, Tryz.underlying22]
     exact List.mem_cons_of_mem _ (List.mem_append_left _ (weightsAll_mem (List.mem_map.2 ⟨i, List.mem_range.2 hi, rfl⟩) n hn))))
    simpa using e
   refine Decides_any W (some a) len cap (by unfold reachBytes at hB; omega) (fun i hi => ?_) hT;obtain ⟨cs', h1, h2⟩ := hx i (by omega);obtain ⟨cs0, h3, _⟩ := hx 0 (by omega);rw [cellsOp] at h1 h3;obtain ⟨_, hlen, hcell⟩ := World.cells?_some h1;obtain ⟨_, hlen0, hcell0⟩ := World.cells?_some h3;obtain ⟨k, on, s, pan, mcc, am, cur, da, dn, dc, up, dl, hD, rfl⟩ := op_read h2 (hwD i hi);obtain ⟨b, off, spot⟩ := a
   have hspot : spot = none := by
    match cs0, hlen0, hcell0 with
    | c :: _, _, hcell0 => simpa [Addr.add] using World.cell?_spot (hcell0 0 (by omega))
   subst hspot
   have g : ∀ j v, [Value.int .i64 k, .int .i64 on, .string s, .string pan, .int .i64 mcc, .int .i64 am, .int .i64 cur, .slice da dn dc, .bool up][j]? = some v -> W.cell? ⟨b, off + i * 9 + j, none⟩ = some v := fun j v hj => by
    have := hcell j (iG.1 hj).1;rw [add_plain, add_plain] at this;rw [this];exact hj
   exact ⟨b, off, rfl, bL W _ (g 0 _ rfl), k, on, s, pan, mcc, am, cur, da, dn, dc, up, dl, hD, g 0 _ rfl, g 1 _ rfl, g 2 _ rfl, g 3 _ rfl, g 4 _ rfl, g 5 _ rfl, g 6 _ rfl, g 7 _ rfl, g 8 _ rfl⟩
 refine walk.mono fun e W' ⟨he, hB⟩ => ?_
 subst he;exact ⟨_, rfl, ⟨_, _, _, [], _, [], hW', trodAll_mk1 (shut_bool Tryz.underlying4 true), trodAll_mk1 (Below.trod laidOut (by kernel_rfl) (of_decide_eq_true (by kernel_rfl)) h0k hB hlt), rfl, hB.frame _, fun h => by cases h⟩⟩
theorem reads (os : Os) {H : Type} (enc : TypeId × Value -> H) : ∃ places, DataW.whole enc Tryz.prog ((World.laidAll Tryz.prog os Rows.decidesRow.laid).forCall (fun _ _ => 0) ⟨#[], #[.slice none 0 0], []⟩).memory Tryz.f4.params.toList Rows.decidesSpec.vars false #[Value.slice none 0 0].toList 8 = some ([.nil], [], places) :=
 ⟨[], by kernel_rfl⟩
set_option maxRecDepth 100000 in
theorem lifted (os : Os) (started : os.Started) (H : Type) (enc : TypeId × Value -> H) (F : Stop.Interp) :
    ReturnsInHanded {} Tryz.checked os 4 .any ((OpenSpec.ofChange Rows.decidesSpec).preRow enc Tryz.prog Tryz.f4 Rows.decidesRow.domain false Rows.decidesRow.laid) (((OpenSpec.ofChange Rows.decidesSpec).at F).post enc Tryz.prog Tryz.f4 false true false false) := by
  obtain ⟨places, hx⟩ := reads os enc;refine returnsInHanded_of_row (C := Tryz.checked) (s := OpenSpec.ofChange Rows.decidesSpec) own started (by kernel_rfl) Tryz.func4
    (witness_row_atRef (enc := enc) (C := Tryz.checked) false (World.laidAll Tryz.prog os Rows.decidesRow.laid) #[.slice none 0 0] (World.laidAll_os _ _ _) (laid_vars os) (by kernel_rfl) (by kernel_rfl)
      (OpenSpec.preRow_of_cond 8 hx (by kernel_rfl) (fun k hk => by cases hk) (by kernel_rfl) (laid_met os))) ?_
  intro W base args ds gs before hval hW _ _ hsz hL _ _;exact contract H enc W base args ds gs before hval hW hsz hL
set_option maxRecDepth 100000 in
theorem said : Rows.DecidesSaid :=
 OpenClaim.holds_of_cond 4 Tryz.f4 rfl rfl rfl rfl rfl rfl rfl ⟨rfl, rfl, rfl, rfl, rfl⟩ rfl rfl rfl rfl rfl (by kernel_rfl) Tryz.func4 decides_closed
  (of_decide_eq_true (by kernel_rfl)) (by unfold Func.isWrapper; first | (rw [if_pos (by decide +kernel)]; kernel_rfl) | (rw [if_neg (by decide +kernel)]; exact ⟨rfl, rfl⟩))
  (fun os started H enc _ F => by rw [OpenClaim.pre_eq_preRow]; exact lifted os started H enc F)
theorem plain (f : FuncId) (fn : Func) (hf : Tryz.pinned.checked.prog.funcNamed "junction/junctionlaw.Decides" = some f) (hfn : Tryz.pinned.checked.prog.funcs[f]? = some fn) :
  true = Tryz.pinned.checked.prog.looks [] /\ ∀ (j : Nat) t, fn.params[j]? = some t -> Tryz.pinned.checked.prog.wantsStandIn t = false := by
 obtain rfl : f = 4 := Option.some.inj ((show Tryz.prog.funcNamed "junction/junctionlaw.Decides" = some 4 by kernel_rfl).symm.trans hf) |>.symm;obtain rfl : fn = Tryz.f4 := (Option.some.inj (Tryz.func4.symm.trans hfn)).symm;refine ⟨by kernel_rfl, fun j t ht => ?_⟩;rw [Tryz.params4] at ht
 obtain rfl : t = 22 := by simpa using Array.mem_of_getElem? ht
 exact (show Tryz.prog.wantsStandIn 22 = false by kernel_rfl)
theorem decides_card : Rows.DecidesCardSaid :=
 Claim7.holds_tied_plain_at .later [] _ _ _ _ said (fun _ h => by cases h) (by kernel_rfl) (fun _ h => by cases h) decides_row_tie rfl ⟨rfl, rfl⟩ (by kernel_rfl) rfl plain (by kernel_rfl)
