/- Lists of numbers that came in, read. The keep Strange, walked: of any bytes none, or a table with outcomes. The law: the closed facts of the row Strange, one by one. -/
import Derived.Test.YtccikgogjfbpeabGreatDoorSKc
import Derived.ProofKit
import Derived.OpenShut
import Derived.Carry
import Derived.SizedLaws
import Derived.Deep.Slices
import Derived.Deep.DeepHandedRow
import Derived.Test.YtccikgogjfbpeabGreatDoorSHa
import Derived.Test.YtccikgogjfbpeabGreatDoorSIh
import Derived.Test.YtccikgogjfbpeabGreatDoorSKg
import Derived.Test.YtccikgogjfbpeabGreatDoorCards
import Derived.JoinedCond
namespace Go.Proofs.YtccikgogjfbpeabGreatDoor
open Go.ChangeShapes Go.WideShapes Go.ChangeAt Go.RowKit Go.Deep
theorem own : ownKnob Tryz.prog.godebug = none := by kernel_rfl
theorem laidOut : laidOutB Tryz.prog = true := by kernel_rfl
theorem cellsInt : Tryz.prog.cellsOf 3 = 1 := by kernel_rfl
theorem wf_in {a : Int} (h : (Lit.int .i64 a).wf = true) : InI a := (by simpa [Lit.wf] using h : IntKind.i64.min ≤ a ∧ a ≤ 9223372036854775807)
theorem listI_of {Q : Nat → Int → Prop} : ∀ n, (∀ i, i < n → ∃ s, Q i s) → ∃ l : List Int, l.length = n ∧ ∀ k s, l[k]? = some s → Q k s
 | 0, _ => ⟨[], rfl, fun k s h => by simp at h⟩
 | n + 1, h => by
  obtain ⟨l, h1, h2⟩ := listI_of n (fun i hi => h i (by omega))
  obtain ⟨s, hs⟩ := h n (by omega)
  refine ⟨l ++ [s], by simp [h1], fun k s' hk => ?_⟩
  by_cases hkn : k < l.length
  ·rw [List.getElem?_append_left hkn] at hk
   exact h2 k s' hk
  ·rw [List.getElem?_append_right (by omega)] at hk
   have : k - l.length = 0 := by have := (List.getElem?_eq_some_iff.1 hk).1; simp at this; omega
   rw [this] at hk
   injection hk with hk
   subst hk
   have : k = n := by omega
   subst this
   exact hs
theorem ints_read {H : Type} {enc : TypeId × Value → H} {w : World} {base : Nat} {spare : Nat → Bool} {held : Bool} {n : Nat} {v : Value} {x : DataW H × List MemPlace} (h : DataW.trod enc Tryz.prog w base spare held n 22 [v] = some x) :
  ∃ (da : Option Addr) (dn dc : Nat) (dl : List Int), v = .slice da dn dc ∧ dl.length = dn ∧ RawAt w da dl ∧ (∀ y, y ∈ dl → InI y) ∧ dn ≤ dc := by
 rcases open_slice Tryz.underlying22 h with ⟨hcs, _⟩ | ⟨a, len, cap, m, n, D, Pl, hcs, hb, hl, hm, hmm, hx, hel⟩
 ·simp only [List.cons.injEq, and_true] at hcs
  exact ⟨none, 0, 0, [], hcs, rfl, fun k s hk => by simp at hk, fun y hy => (by simp at hy), Nat.le_refl _⟩
 ·simp only [List.cons.injEq, and_true] at hcs
  have hlm : len ≤ m := by rw [hmm]; split <;> omega
  obtain ⟨dl, h1, h2⟩ := listI_of (Q := fun k s => w.cell? (a.add k) = some (.int .i64 s) ∧ InI s) len (fun i hi => by
   obtain ⟨cs', e1, e2⟩ := hel i (by omega)
   rw [cellsInt, Nat.mul_one] at e1
   obtain ⟨s, e3, _, e4⟩ := DataW.trod_int Tryz.underlying3 e2
   subst e3
   obtain ⟨_, _, hc⟩ := World.cells?_some e1
   have := hc 0 (by simp)
   refine ⟨s, ?_, wf_in e4⟩
   simpa [Addr.add] using this)
  refine ⟨some a, len, cap, dl, hcs, h1, fun k s hk => ?_, fun y hy => ?_, hl⟩
  ·have hc := (h2 k s hk).1
   obtain ⟨g, o, spot⟩ := a
   have h00 : 0 < dl.length := by have := (List.getElem?_eq_some_iff.1 hk).1; omega
   have hc0 := (h2 0 _ (List.getElem?_eq_getElem h00)).1
   have hspot : spot = none := by simpa [Addr.add] using World.cell?_spot hc0
   subst hspot
   exact ⟨g, o, rfl, by rw [addr_add'] at hc; exact hc⟩
  ·obtain ⟨k, hk, rfl⟩ := List.getElem_of_mem hy
   exact (h2 k _ (List.getElem?_eq_getElem hk)).2
end Go.Proofs.YtccikgogjfbpeabGreatDoor

namespace Go.Proofs.YtccikgogjfbpeabGreatDoor
open Go.RowKit
theorem endOut_kind (rts : List RouteM) (nm : ByteArray) (s : StepM) (dn : Nat → Bool) (am : Int) : (endOut rts nm s dn am).1 = 0 ∨ (endOut rts nm s dn am).1 = 2 ∨ (endOut rts nm s dn am).1 = 3 ∨ (endOut rts nm s dn am).1 = 4 := by
 have hb : ∀ o, (outB rts nm o).1 = 0 ∨ (outB rts nm o).1 = 4 := fun o => by
  cases o
  ·exact .inr rfl
  ·exact .inl rfl
 unfold endOut
 split
 ·exact .inr (.inr (.inl rfl))
 ·split
  ·rcases hb (bestM false (feeM rts am) dn s.nums none) with h | h
   ·exact .inl h
   ·exact .inr (.inr (.inr h))
  ·split
   ·rcases hb (bestM true (feeM rts am) dn s.nums none) with h | h
    ·exact .inl h
    ·exact .inr (.inr (.inr h))
   ·exact .inr (.inl rfl)
theorem LdAt.decide {w : World} {T : Nat} {t : TrD} (h : LdAt w T t) (ho : t.Ok) (a : Option Addr) (c : Nat) (l : List ByteArray) (hst : StrsAt w a l) (hl : l.length ≤ maxLen) (p : PayM) (hs : p.pan.size ≤ maxLen) :
  Calls Tryz.prog 7 #[.pointer (some ⟨T, 0, none⟩), payV p, .slice a l.length c] w fun e w' => (∃ o, e = .returned (outV o) ∧ (payOk p = true → o.1 = 0 ∨ o.1 = 2 ∨ o.1 = 3 ∨ o.1 = 4) ∧ (payOk p = false → o.1 = 1)) ∧ Fr (fun _ => False) w w' := by
 obtain ⟨_, TT, zb, ra, rc, h1, h2⟩ := h
 obtain ⟨sE, hE⟩ := ok_ends ho p
 refine (Decide_g w zb T TT t.rts ra rc t.nms t.prs t.root a c l p sE ⟨h1, h2, ok_pt ho, hst, hl⟩ (fun _ => hE) hs).mono ?_
 rintro e w' ⟨rfl, hf⟩
 refine ⟨⟨_, rfl, fun hp => ?_, fun hp => ?_⟩, hf⟩
 ·unfold decG
  rw [if_pos hp]
  exact endOut_kind _ _ _ _ _
 ·unfold decG
  rw [if_neg (by rw [hp]; decide)]
set_option maxRecDepth 1000000 in
set_option maxHeartbeats 8000000 in
theorem Strange_any (w : World) (s : ByteArray) (pa : Option Addr) (pn pc : Nat) (pl : List Int) (bp : PayM) (hs : s.size ≤ 9223372036854775807) (hpl : pl.length = pn) (hpr : RawAt w pa pl) (hpi : ∀ x, x ∈ pl → InI x) (hH : Hal w) :
  Calls Tryz.prog 3 #[.string s, .slice pa pn pc, payV bp] w fun e w' => e = .returned (.bool true) ∧ Fr (fun _ => False) w w' := by
 have HPL : Hid (pl.length = pn ∧ RawAt w pa pl ∧ ∀ x, x ∈ pl → InI x) := ⟨hpl, hpr, hpi⟩
 have HB0 : Hid ((w.alloc (payO bp)).heap[w.heap.size]? = some (payO bp)) := heap_alloc_new w _
 have HF0 : Hid (Fr (fun _ => False) w (w.alloc (payO bp))) := (Fr.refl _ _).alloc _
 have HLd : Hid (∀ W, Fr (fun _ => False) w W → Calls Tryz.prog 6 #[.string s] W (LoP W (loadM s.data.toList))) := fun W hf => Load_any s W hs (hH.fr hf)
 unfold payV
 unfold payO at HB0 HF0
 clear hpl hpr hpi hs hH
 go_enter Tryz.func3, Tryz.ntmps3
 go_upto_region 1 with fail
 generalize w.alloc _ = w0 at *
 generalize w.heap.size = X at *
 go_wp2_with fail
 refine (kawake_any w0).mono ?_
 rintro e w1 ⟨rfl, hf1⟩
 have HF1 := hid (HF0.out.trans hf1)
 have HB1 := hid (hf1.whole HB0.out (by simp))
 clear hf1 HF0 HB0
 go_wp2_with fail
 refine (HLd.out w1 HF1.out).mono ?_
 intro e w2 hP
 cases hT : loadM s.data.toList with
 | none =>
  rw [hT] at hP
  obtain ⟨rfl, hf2⟩ := hP
  have HF2 := hid (HF1.out.trans hf2)
  clear hf2 hT HLd
  go_wp2_with fail
  go_ret
  exact ⟨rfl, HF2.out⟩
 | some t =>
  rw [hT] at hP
  obtain ⟨T, rfl, hL, hf2⟩ := lo_some hP
  have HO := hid (load_ok hT)
  have HL := hid hL
  have HF2 := hid (HF1.out.trans hf2)
  have HB2 := hid (hf2.whole HB1.out (by simp))
  clear hP hL hf2 hT HLd HB1 HF1
  go_wp2_with fail
  refine (kpayment_any w2 pa pn pc pl HPL.out.1 (HPL.out.2.1.fr HF2.out) HPL.out.2.2).mono ?_
  rintro e w3 ⟨⟨p, rfl, hpo, hps⟩, hf3⟩
  have HPO : Hid (payOk p = true ∧ p.pan.size ≤ 19) := ⟨hpo, hps⟩
  have HF3 := hid hf3
  have HFa : Hid (Fr (fun _ => False) w2 (w3.alloc (.cells #[.string ⟨#[97]⟩] 9))) := hf3.alloc _
  clear hpo hps hf3
  have HD : Hid (Calls Tryz.prog 7 #[.pointer (some ⟨T, 0, none⟩), .agg #[.string p.pan, .int .i64 p.mcc, .int .i64 p.am, .int .i64 p.cur], .slice (some ⟨w3.heap.size, 0, none⟩) 1 1] (w3.alloc (.cells #[.string ⟨#[97]⟩] 9)) fun e w' => (∃ o, e = .returned (outV o) ∧ (o.1 = 0 ∨ o.1 = 2 ∨ o.1 = 3 ∨ o.1 = 4)) ∧ Fr (fun _ => False) (w3.alloc (.cells #[.string ⟨#[97]⟩] 9)) w') := by
   have hst : StrsAt (w3.alloc (.cells #[.string ⟨#[97]⟩] 9)) (some ⟨w3.heap.size, 0, none⟩) [⟨#[97]⟩] := fun k s hk => by
    cases k with
    | zero =>
     injection hk with hk
     subst hk
     exact ⟨_, 0, rfl, block_cell (heap_alloc_new w3 _) 0 _ rfl⟩
    | succ k => simp at hk
   refine ((HL.out.fr HFa.out).decide HO.out _ 1 _ hst (by unfold maxLen; simp) p (by unfold maxLen; have := HPO.out.2; omega)).mono ?_
   rintro e w' ⟨⟨o, he, h1, _⟩, hf⟩
   exact ⟨⟨o, he, h1 HPO.out.1⟩, hf⟩
  unfold payV
  go_wp2_with fail
  refine HD.out.mono ?_
  rintro e w4 ⟨⟨o, rfl, ho⟩, hf4⟩
  have HF4 := hid (HFa.out.trans hf4)
  unfold outV
  obtain ⟨ok, o1, o2⟩ := o
  have HOk := hid ho
  dsimp only at HOk
  clear hf4 HD HF3 HFa ho
  have HF5 : Hid (Fr (fun _ => False) w2 (w4.alloc (.cells #[.int .i64 (ok : Nat), .string o1, .string o2] 30))) := HF4.out.alloc _
  have HB5 := hid (heap_alloc_new w4 (.cells #[.int .i64 (ok : Nat), .string o1, .string o2] 30))
  have HX5 := hid (HF5.out.whole HB2.out (by simp))
  go_upto_region 8 with fail
  generalize w4.alloc _ = w5 at *
  generalize w4.heap.size = Y at *
  have x1 := block_cell HX5.out 1 _ rfl
  have x2 := block_cell HX5.out 2 _ rfl
  have x3 := block_cell HX5.out 3 _ rfl
  have HD : Hid (Calls Tryz.prog 7 #[.pointer (some ⟨T, 0, none⟩), .agg #[.string ⟨#[49, 50, 51, 52, 53]⟩, .int .i64 bp.mcc, .int .i64 bp.am, .int .i64 bp.cur], .slice none 0 0] w5 fun e w' => (∃ o, e = .returned (outV o) ∧ o.1 = 1) ∧ Fr (fun _ => False) w5 w') := by
   refine ((HL.out.fr HF5.out).decide HO.out none 0 [] (strsAt_nil w5) (by unfold maxLen; simp) ⟨⟨#[49, 50, 51, 52, 53]⟩, bp.mcc, bp.am, bp.cur⟩ (by show 5 ≤ maxLen; unfold maxLen; omega)).mono ?_
   rintro e w' ⟨⟨o, he, _, h2⟩, hf⟩
   refine ⟨⟨o, he, h2 ?_⟩, hf⟩
   rw [payOk_eq]
   rfl
  go_wp2_with fail
  refine HD.out.mono ?_
  rintro e w6 ⟨⟨q, rfl, hq⟩, hf6⟩
  unfold outV
  obtain ⟨qk, q1, q2⟩ := q
  have hq : qk = 1 := hq
  subst hq
  have HF7 : Hid (Fr (fun _ => False) w5 (w6.alloc (.cells #[.int .i64 ((1 : Nat) : Int), .string q1, .string q2] 30))) := hf6.alloc _
  have HB7 := hid (heap_alloc_new w6 (.cells #[.int .i64 ((1 : Nat) : Int), .string q1, .string q2] 30))
  clear hf6 HD x1 x2 x3
  go_upto_region 9 with fail
  generalize w6.alloc _ = w7 at *
  generalize w6.heap.size = Z at *
  have HL7 := hid (HL.out.1.fr (HF5.out.trans HF7.out))
  have HB8 := hid (HF7.out.whole HB5.out (by simp))
  have HFz := hid (HF2.out.trans (HF5.out.trans HF7.out))
  go_wp2_with fail
  refine (tOverlaps_none w7 T HL7.out).mono ?_
  rintro e w' ⟨rfl, he⟩
  replace he := he.symm
  subst he
  go_wp2_with fail
  refine (tDead_none w7 T HL7.out).mono ?_
  rintro e w' ⟨rfl, he⟩
  replace he := he.symm
  subst he
  have y0 := block_cell HB8.out 0 _ rfl
  have z0 := block_cell HB7.out 0 _ rfl
  have k1 : (ok : Int) ≤ 4 := by have := HOk.out; omega
  have k2 : ¬ (ok : Int) = 1 := by have := HOk.out; omega
  have k3 : ((ok : Int) != 1) = true := by simp [k2]
  go_wp2_with fail
  refine (TText_none w7 T HL7.out).mono ?_
  rintro e w8 ⟨rfl, hf8⟩
  have HF8 := hid (HFz.out.trans hf8)
  clear hf8
  go_wp2_with fail
  go_ret
  exact ⟨rfl, HF8.out⟩
end Go.Proofs.YtccikgogjfbpeabGreatDoor

namespace Go.Proofs.YtccikgogjfbpeabGreatDoor
open Go.ChangeShapes Go.WideShapes Go.ChangeAt Go.RowKit
theorem pf0 : (Rows.strangeRow.wf (OpenSpec.ofChange Rows.strangeSpec)) = true := by kernel_rfl
theorem pf1 : (laidOutB Tryz.prog) = true := by kernel_rfl
theorem pf2 : (mapsRowed Tryz.prog) = true := by kernel_rfl
theorem pf3 : (Tryz.f3.params.all (Tryz.prog.readableRec ·)) = true := by kernel_rfl
theorem pf4 : (namedTie Tryz.prog Rows.strangeRow.named Rows.strangeSpec.vars) = true := by kernel_rfl
theorem pf5 : ((Rows.strangeRow.stops == [])) = true := by kernel_rfl
theorem pf6 : ((Tryz.prog.stops == [])) = true := by kernel_rfl
theorem pf7 : ((Rows.strangeRow.knobs == [])) = true := by kernel_rfl
theorem pf8 : ((Tryz.prog.stopKnobs == [])) = true := by kernel_rfl
theorem pf9 : ((Rows.strangeRow.inPlace == Tryz.prog.inPlace 3)) = true := by kernel_rfl
theorem pf10 : ((Rows.strangeRow.unfollowed == Tryz.prog.unfollowed 3)) = true := by kernel_rfl
theorem pf11 : ((Rows.strangeRow.recurses == Tryz.prog.recurses 3)) = true := by kernel_rfl
theorem pf12 : ((Rows.strangeRow.named == Tryz.prog.varsNamed 3)) = true := by kernel_rfl
theorem pf13 : ((Rows.strangeRow.maps == (Tryz.f3.params.toList ++ Rows.strangeSpec.plain.varTypes Tryz.prog).any (Tryz.prog.mapsRec ·))) = true := by kernel_rfl
theorem pf14 : ((Rows.strangeRow.ifaces == (Tryz.f3.params.toList ++ Rows.strangeSpec.plain.varTypes Tryz.prog).any (Tryz.prog.ifacesRec ·))) = true := by kernel_rfl
theorem pf15 : ((Rows.strangeRow.mapsOut == Tryz.prog.mapsAmong Tryz.f3.resultTypes.toList)) = true := by kernel_rfl
theorem pf16 : ((Rows.strangeRow.loops == (Tryz.f3.params.toList ++ Rows.strangeSpec.plain.varTypes Tryz.prog).any (Tryz.prog.loopsFrom ·))) = true := by kernel_rfl
theorem pf17 : ((Rows.strangeRow.wideKeys == (Tryz.f3.params.toList ++ Rows.strangeSpec.plain.varTypes Tryz.prog ++ Tryz.f3.resultTypes.toList).any (Tryz.prog.wideKeysFrom ·))) = true := by kernel_rfl
theorem pf18 : (Rows.strangeSpec.vars.all (Tryz.prog.varReadable ·)) = true := by kernel_rfl
theorem pf19 : (Tryz.f3.resultTypes.all (fun t => Tryz.prog.readableRec t && decide (t < Tryz.prog.types.size))) = true := by kernel_rfl
theorem pf20 : ((Rows.strangeRow.ifacesOut == Tryz.f3.resultTypes.toList.any (Tryz.prog.ifacesRec ·))) = true := by kernel_rfl
theorem pf21 : ((Rows.strangeRow.loopsOut == Tryz.f3.resultTypes.toList.any (Tryz.prog.loopsFrom ·))) = true := by kernel_rfl
theorem pf22 : ((Rows.strangeRow.plainKeys == Tryz.prog.plainKeys)) = true := by kernel_rfl
theorem pf23 : (Rows.strangeRow.shortTexts.isNone) = true := by kernel_rfl
theorem pf24 : (Tryz.prog.stopsHeard) = true := by kernel_rfl
theorem pf25 : (Tryz.prog.mayEnter) = true := by kernel_rfl
theorem pf26 : ((Rows.strangeRow.lifted == Tryz.prog.liftsFinal)) = true := by kernel_rfl
theorem pf27 : ((Tryz.prog.make == some Rows.strangeRow.make)) = true := by kernel_rfl
theorem pf28 : ((Rows.strangeRow.kinds == (if Rows.strangeRow.domain.isEmpty then [] else Tryz.f3.params.toList.map fun t => match Tryz.prog.underlying t with | some (.int k) => some k | _ => none))) = true := by kernel_rfl
theorem pf29 : ((Rows.strangeRow.pinned == Rows.strangeRow.pinnedBy)) = true := by kernel_rfl
theorem pf30 : ((Rows.strangeRow.veiled == (Tryz.f3.params.toList ++ Rows.strangeSpec.plain.varTypes Tryz.prog ++ Tryz.f3.resultTypes.toList).any (Tryz.prog.veiledRec ·))) = true := by kernel_rfl
theorem pf31 : (Rows.strangeRow.veiledFits Tryz.prog Tryz.f3.params.toList (Tryz.f3.params.toList ++ Rows.strangeSpec.plain.varTypes Tryz.prog ++ Tryz.f3.resultTypes.toList)) = true := by kernel_rfl
theorem and_p {a b : Bool} (h1 : a = true) (h2 : b = true) : (a && b) = true := by rw [h1, h2]; rfl
set_option maxRecDepth 100000 in
theorem strange_closed : joinedFacts Tryz.prog 3 Tryz.f3 Rows.strangeSpec Rows.strangeRow = true := by
 unfold joinedFacts
 exact (and_p (and_p (and_p (and_p (and_p (and_p (and_p (and_p (and_p (and_p (and_p (and_p (and_p (and_p (and_p (and_p (and_p (and_p (and_p (and_p (and_p (and_p (and_p (and_p (and_p (and_p (and_p (and_p (and_p (and_p (and_p pf0 pf1) pf2) pf3) pf4) pf5) pf6) pf7) pf8) pf9) pf10) pf11) pf12) pf13) pf14) pf15) pf16) pf17) pf18) pf19) pf20) pf21) pf22) pf23) pf24) pf25) pf26) pf27) pf28) pf29) pf30) pf31)
end Go.Proofs.YtccikgogjfbpeabGreatDoor
