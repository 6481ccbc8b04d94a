/- The keep Carried, walked: an image, loaded, decides the same. The law: the closed facts of the row Carried, one by one. -/
import Derived.Test.YtccikgogjfbpeaaGreatDoorCHa
import Derived.Test.YtccikgogjfbpeaaGreatDoorCJf
import Derived.Test.YtccikgogjfbpeaaGreatDoorCIh
import Derived.Test.YtccikgogjfbpeaaGreatDoorCKc
import Derived.Test.YtccikgogjfbpeaaGreatDoorCards
import Derived.ProofKit
import Derived.JoinedCond
namespace Go.Proofs.YtccikgogjfbpeaaGreatDoor
open Go.RowKit
def normT (t : TrD) : TrD := ⟨t.rts, t.nms, t.prs, t.root.norm⟩
theorem norm_body (t : TrD) : bodyW (normT t) = bodyW t := by
 unfold bodyW normT
 rw [wr_norm]
theorem norm_wr {t : TrD} (h : t.Wr) (ho : (normT t).Ok) : (normT t).Wr := ⟨h.r6, h.rt, h.n8, h.nm, h.df, h.pl, h.pr, ho.dp, ho.lf⟩
theorem TbAt.ti {w : World} {T : Nat} {rts : List RouteM} {R : List RuleM} (h : TbAt w T rts R) : TiAt w T (grownT rts R) := by
 obtain ⟨zb, TT, ra, rc, h1, h2, h3, _⟩ := h
 exact ⟨TT, zb, ra, rc, h1, h2.tg h3⟩
theorem LdAt.ti {w : World} {T : Nat} {t : TrD} (h : LdAt w T t) : TiAt w T t := by
 obtain ⟨_, TT, zb, ra, rc, h1, h2⟩ := h
 exact ⟨TT, zb, ra, rc, h1, h2⟩
theorem LdAt.same {w : World} {T : Nat} {rts : List RouteM} {R : List RuleM} (h : LdAt w T (normT (grownT rts R))) (ho : (normT (grownT rts R)).Ok) (hb : BookOk rts R) (a : Option Addr) (c : Nat) (l : List ByteArray) (hst : StrsAt w a l) (hl : l.length ≤ maxLen) (p : PayM) (hs : p.pan.size ≤ maxLen) :
  Calls Tryz.prog 19 #[.pointer (some ⟨T, 0, none⟩), payV p, .slice a l.length c] w fun e w' => e = .returned (outV (decM rts R p (dnF rts l))) ∧ Fr (fun _ => False) w w' := by
 obtain ⟨_, TT, zb, ra, rc, h1, h2⟩ := h
 have e := Decide_g w zb T TT rts ra rc _ _ _ a c l p (endM R (bestR (rankF R) (meetC R p (card6 p.pan)) R.length)) ⟨h1, h2, ok_pt ho, hst, hl⟩ (fun hp => by
  obtain ⟨q, h3, h4⟩ := grown_ends hb p hp
  have hfn := find_norm (dg := dgt (card6 p.pan)) (fun n => Nat.mod_lt _ (by decide)) (grownT rts R).root 0
  refine ⟨q, ?_, h4⟩
  show (grownT rts R).prs[(grownT rts R).root.norm.find (dgt (card6 p.pan)) 0]? = some q
  rw [hfn]
  exact h3) hs
 have e2 := grown_dec (rts := rts) (R := R) p (dnF rts l)
 rw [← e2]
 exact e
theorem strsAt_of {w : World} {base : Nat} {v : Value} {n : Nat} {l : List ByteArray} (h : w.ownsRow base 9 1 v n (sRow l)) (hl : l.length = n) : ∃ a c, v = .slice a n c ∧ StrsAt w a l := by
 obtain ⟨a, c, e⟩ := ownsRow_len h
 subst e hl
 exact ⟨a, c, rfl, strsAt_row h⟩
theorem rl_small (l : List Int) {m : Nat} (hm : m ≤ 8) : ∀ b, b ∈ rlL l m → b.size ≤ 100 := by
 intro b hb
 obtain ⟨i, hi, rfl⟩ := List.mem_map.1 hb
 have := rlT_len (i := i) (by have := List.mem_range.1 hi; omega) (rawK l i)
 rw [bs_size]
 omega
theorem strs_one (W : World) (s : ByteArray) : StrsAt (W.alloc (.cells #[.string s] 9)) (some ⟨W.heap.size, 0, none⟩) [s] := fun k x hk => by
 cases k with
 | zero =>
  injection hk with hk
  subst hk
  exact ⟨_, 0, rfl, block_cell (heap_alloc_new W _) 0 _ rfl⟩
 | succ k => simp at hk
set_option maxRecDepth 1000000 in
set_option maxHeartbeats 8000000 in
theorem Carried_any (w : World) (a : Option Addr) (n c : Nat) (l : List Int) (pa : Option Addr) (pn pc : Nat) (pl : List Int) (fi mk cu : Int) (hl : l.length = n) (hr : RawAt w a l) (hi : ∀ x, x ∈ l → InI x) (hpl : pl.length = pn) (hpr : RawAt w pa pl) (hpi : ∀ x, x ∈ pl → InI x) (hi1 : InI fi) (hi2 : InI mk) (hi3 : InI cu) (hH : Hal w) :
  Calls Tryz.prog 10 #[.slice a n c, .slice pa pn pc, .int .i64 fi, .int .i64 mk, .int .i64 cu] w fun e w' => e = .returned (.bool true) ∧ Fr (fun _ => False) w w' := by
 have HPL : Hid (pl.length = pn ∧ RawAt w pa pl ∧ ∀ x, x ∈ pl → InI x) := ⟨hpl, hpr, hpi⟩
 have HLL : Hid (l.length = n ∧ RawAt w a l ∧ ∀ x, x ∈ l → InI x) := ⟨hl, hr, hi⟩
 have HI : Hid (InI fi ∧ InI mk ∧ InI cu) := ⟨hi1, hi2, hi3⟩
 have HH := hid hH
 obtain ⟨m, hm⟩ : ∃ m, min n 8 = m := ⟨_, rfl⟩
 have hm8 : m ≤ 8 := by omega
 have HM := hid hm.symm
 have HWr := hid (raw_wr l m hm8)
 have HBk : Hid (BookOk rts3 (rsM l 0 m)) := readM_book (base_read l m hm8)
 clear hl hr hi hpl hpr hpi hi1 hi2 hi3 hH hm
 go_enter Tryz.func10, Tryz.ntmps10
 go_wp2_with fail
 refine (kawake_any w).mono ?_
 rintro e w0 ⟨rfl, hf0⟩
 have HF0 := hid hf0
 clear hf0
 go_wp2_with fail
 refine (kruled_any w0 a n c l m HLL.out.1 (HLL.out.2.1.fr HF0.out) HLL.out.2.2 HM.out).mono ?_
 rintro e w1 ⟨⟨v, rfl, hov, _⟩, hf1⟩
 obtain ⟨ra, rc, rfl, hst⟩ := strsAt_of hov (rlL_len l m)
 have HF1 := hid (HF0.out.trans hf1)
 have HWh := hid (kwhole_any w1 ra m rc (rlL l m) (rlL_len l m) (by omega) hst (rl_small l hm8))
 have HTb := hid (ktable_any _ w1 _ (base_read l m hm8))
 generalize bs (whT (rlL l m)) = S1 at *
 clear hf1 hov hst
 go_wp2_with fail
 refine HWh.out.mono ?_
 rintro e w' ⟨rfl, he⟩
 replace he := he.symm
 subst he
 go_wp2_with fail
 refine HTb.out.mono ?_
 rintro e w2 ⟨⟨T, rfl, hT⟩, hf2⟩
 have HT := hid hT
 have HF2 := hid (HF1.out.trans hf2)
 clear hT hf2 HWh HTb HF1 HF0
 have HIm := hid (Image_any w2 T _ HT.out.ti HWr.out.1 (Nat.le_trans HWr.out.2 (by omega)) (HH.out.fr HF2.out))
 obtain ⟨S, hS⟩ : ∃ S : ByteArray, (⟨(closeM (bodyW (grownT rts3 (rsM l 0 m)))).toArray⟩ : ByteArray) = S := ⟨_, rfl⟩
 have HSl : Hid (S.data.toList = closeM (bodyW (grownT rts3 (rsM l 0 m)))) := by show _ = _; rw [← hS]
 have HS2 : Hid (∀ t, bodyW t = bodyW (grownT rts3 (rsM l 0 m)) → (⟨(closeM (bodyW t)).toArray⟩ : ByteArray) = S) := fun t ht => by rw [ht]; exact hS
 have hss : 8 ≤ S.size ∧ S.size ≤ 200000 := by
  have e := close_len (bodyW (grownT rts3 (rsM l 0 m)))
  have e2 : S.size = (closeM (bodyW (grownT rts3 (rsM l 0 m)))).length := by rw [← hS]; rfl
  have := HWr.out.2
  unfold rawT at this
  omega
 rw [hS] at HIm
 clear hS
 go_wp2_with fail
 refine HIm.out.mono ?_
 rintro e w3 ⟨rfl, hf3⟩
 have HF3 := hid (HF2.out.trans hf3)
 have HT3 := hid (HT.out.fr hf3)
 clear hf3 HIm HT HF2
 have HOp : Hid (openM S.data.toList = some (bodyW (grownT rts3 (rsM l 0 m)))) := by
  show _ = _
  rw [HSl.out]
  exact open_close (Nat.le_trans HWr.out.2 (by omega))
 have HLm : Hid (loadM S.data.toList = some (normT (grownT rts3 (rsM l 0 m)))) := by
  show _ = _
  rw [HSl.out]
  exact load_image HWr.out.1 (Nat.le_trans HWr.out.2 (by omega))
 have HOk := hid (load_ok HLm.out)
 have HLd := hid (Load_any S w3 (by omega) (HH.out.fr HF3.out))
 rw [HLm.out] at HLd
 have hs1 : ¬ (S.size : Int) < 4 := by omega
 have hs2 : ¬ (200000 : Int) < (S.size : Int) := by omega
 go_wp2_with fail
 refine HLd.out.mono ?_
 intro e w4 hP
 obtain ⟨U, rfl, hU, hf4⟩ := lo_some hP
 have HU := hid hU
 have HF4 := hid (HF3.out.trans hf4)
 have HT4 := hid (HT3.out.fr hf4)
 clear hP hU hf4 HLd HT3 HF3
 go_wp2_with fail
 refine (kpayment_any w4 pa pn pc pl HPL.out.1 (HPL.out.2.1.fr HF4.out) HPL.out.2.2).mono ?_
 rintro e w5 ⟨⟨p, rfl, hpo, hps⟩, hf5⟩
 have HPO : Hid (payOk p = true ∧ p.pan.size ≤ 19) := ⟨hpo, hps⟩
 have HF6 : Hid (Fr (fun _ => False) w4 (w5.alloc (payO p))) := hf5.alloc _
 have HB6 : Hid ((w5.alloc (payO p)).heap[w5.heap.size]? = some (payO p)) := heap_alloc_new w5 _
 clear hpo hps hf5
 unfold payV
 unfold payO at HF6 HB6
 go_upto_region 10 with fail
 generalize w5.alloc _ = w6 at *
 generalize w5.heap.size = P at *
 obtain ⟨D, hD⟩ : ∃ D, decM rts3 (rsM l 0 m) p (dnF rts3 [⟨#[98]⟩]) = D := ⟨_, rfl⟩
 have HDc : Hid (∀ W, Fr (fun _ => False) w4 W → Calls Tryz.prog 19 #[.pointer (some ⟨T, 0, none⟩), .agg #[.string p.pan, .int .i64 p.mcc, .int .i64 p.am, .int .i64 p.cur], .slice (some ⟨W.heap.size, 0, none⟩) 1 1] (W.alloc (.cells #[.string ⟨#[98]⟩] 9)) fun e w' => e = .returned (outV D) ∧ Fr (fun _ => False) W w') := fun W hf => by
  have hfa : Fr (fun _ => False) W (W.alloc (.cells #[.string ⟨#[98]⟩] 9)) := (Fr.refl _ _).alloc _
  have e := (HT4.out.fr (hf.trans hfa)).decide (some ⟨W.heap.size, 0, none⟩) 1 [⟨#[98]⟩] (strs_one W _) (by unfold maxLen; simp) p (by unfold maxLen; have := HPO.out.2; omega)
  rw [← hD]
  exact e.mono (by rintro e w' ⟨rfl, hf2⟩; exact ⟨rfl, hfa.trans hf2⟩)
 have HDd : Hid (∀ W, Fr (fun _ => False) w4 W → Calls Tryz.prog 19 #[.pointer (some ⟨U, 0, none⟩), .agg #[.string p.pan, .int .i64 p.mcc, .int .i64 p.am, .int .i64 p.cur], .slice (some ⟨W.heap.size, 0, none⟩) 1 1] (W.alloc (.cells #[.string ⟨#[98]⟩] 9)) fun e w' => e = .returned (outV D) ∧ Fr (fun _ => False) W w') := fun W hf => by
  have hfa : Fr (fun _ => False) W (W.alloc (.cells #[.string ⟨#[98]⟩] 9)) := (Fr.refl _ _).alloc _
  have e := (HU.out.fr (hf.trans hfa)).same HOk.out HBk.out (some ⟨W.heap.size, 0, none⟩) 1 [⟨#[98]⟩] (strs_one W _) (by unfold maxLen; simp) p (by unfold maxLen; have := HPO.out.2; omega)
  rw [← hD]
  exact e.mono (by rintro e w' ⟨rfl, hf2⟩; exact ⟨rfl, hfa.trans hf2⟩)
 unfold outV at HDc HDd
 obtain ⟨dk, d1, d2⟩ := D
 dsimp only at HDc HDd
 clear hD
 have y0 := block_cell HB6.out 0 _ rfl
 have y1 := block_cell HB6.out 1 _ rfl
 have y2 := block_cell HB6.out 2 _ rfl
 have y3 := block_cell HB6.out 3 _ rfl
 have hPw : P < w6.heap.size := (Array.getElem?_eq_some_iff.1 HB6.out).1
 go_wp2_with fail
 refine (HDc.out w6 HF6.out).mono ?_
 rintro e w7 ⟨rfl, hf7⟩
 have HF8 : Hid (Fr (fun _ => False) w6 (w7.alloc (.cells #[.int .i64 (dk : Nat), .string d1, .string d2] 38))) := hf7.alloc _
 have HB8 := hid (heap_alloc_new w7 (.cells #[.int .i64 (dk : Nat), .string d1, .string d2] 38))
 clear hf7 y0 y1 y2 y3 hPw
 go_upto_region 11 with fail
 generalize w7.alloc _ = w8 at *
 generalize w7.heap.size = X at *
 have HB9 := hid (HF8.out.whole HB6.out (by simp))
 have y0 := block_cell HB9.out 0 _ rfl
 have y1 := block_cell HB9.out 1 _ rfl
 have y2 := block_cell HB9.out 2 _ rfl
 have y3 := block_cell HB9.out 3 _ rfl
 have hPw : P < w8.heap.size := (Array.getElem?_eq_some_iff.1 HB9.out).1
 go_wp2_with fail
 refine (HDd.out w8 (HF6.out.trans HF8.out)).mono ?_
 rintro e w9 ⟨rfl, hf9⟩
 have HFa : Hid (Fr (fun _ => False) w8 (w9.alloc (.cells #[.int .i64 (dk : Nat), .string d1, .string d2] 38))) := hf9.alloc _
 have HBa := hid (heap_alloc_new w9 (.cells #[.int .i64 (dk : Nat), .string d1, .string d2] 38))
 clear hf9 y0 y1 y2 y3 hPw
 go_upto_region 12 with fail
 generalize w9.alloc _ = wa at *
 generalize w9.heap.size = Y at *
 have HFb := hid ((HF6.out.trans HF8.out).trans HFa.out)
 have HIm := hid (Image_any wa U _ (HU.out.fr HFb.out).ti (norm_wr HWr.out.1 HOk.out) (by rw [norm_body]; exact Nat.le_trans HWr.out.2 (by omega)) (HH.out.fr (HF4.out.trans HFb.out)))
 rw [HS2.out _ (norm_body _)] at HIm
 go_wp2_with fail
 refine HIm.out.mono ?_
 rintro e wb ⟨rfl, hfb⟩
 have HFc := hid (HF4.out.trans (HFb.out.trans hfb))
 have HBx := hid ((HFa.out.trans hfb).whole HB8.out (by simp))
 have HBy := hid (hfb.whole HBa.out (by simp))
 have x0 := block_cell HBx.out 0 _ rfl
 have x1 := block_cell HBx.out 1 _ rfl
 have x2 := block_cell HBx.out 2 _ rfl
 have z0 := block_cell HBy.out 0 _ rfl
 have z1 := block_cell HBy.out 1 _ rfl
 have z2 := block_cell HBy.out 2 _ rfl
 clear hfb HIm HDc HDd
 go_upto_if 83 with fail
 go_cut [] (fun wx => wx = wb)
 case first =>
  go_wp2_with fail
  go_meet
  rfl
 case rest =>
  replace hcut := hcut.symm
  subst hcut
  apply_assumption
  exact carried_tail15 w wb S _ _ fi mk cu HI.out.1 HI.out.2.1 HI.out.2.2 HOp.out HLm.out (HH.out.fr HFc.out) HFc.out _ _ _ _ _ _ _ _ _ _ _ _ _ _ _ _ _ _ _ _ _ _ _ _ _ _ _ _ _ _ _ _ _ _ _ _ _ _ _ _ _ _ _ _ _ _ _ _ _ _ _ _ _ _ _ _ _ _ _ _ _ _ _ _ _ _ _ _ _ _ _ _ _ _ _ _ _ _ _ _ _ _ _ _ _ _ _ _ _ _ _ _ _ _ _ _ _ _ _ _ _ _ _ _ _ _ _ _ _ _ _ _ _ _ _ _ _ _ _ _ _ _ _ _ _ _ _ _ _ _ _ _ _ _ _ _ _ _ _ _ _ _ _ _ _ _ _ _ _ _ _ _ _ _ _ _ _ _ _ _ _ _ _ _ _ _ _ _ _ _
end Go.Proofs.YtccikgogjfbpeaaGreatDoor

namespace Go.Proofs.YtccikgogjfbpeaaGreatDoor
open Go.ChangeShapes Go.WideShapes Go.ChangeAt Go.RowKit
theorem pf0 : (Rows.carriedRow.wf (OpenSpec.ofChange Rows.carriedSpec)) = true := by kernel_rfl
theorem pf1 : (laidOutB Tryz.prog) = true := by kernel_rfl
theorem pf2 : (mapsRowed Tryz.prog) = true := by kernel_rfl
theorem pf3 : (Tryz.f10.params.all (Tryz.prog.readableRec ·)) = true := by kernel_rfl
theorem pf4 : (namedTie Tryz.prog Rows.carriedRow.named Rows.carriedSpec.vars) = true := by kernel_rfl
theorem pf5 : ((Rows.carriedRow.stops == [])) = true := by kernel_rfl
theorem pf6 : ((Tryz.prog.stops == [])) = true := by kernel_rfl
theorem pf7 : ((Rows.carriedRow.knobs == [])) = true := by kernel_rfl
theorem pf8 : ((Tryz.prog.stopKnobs == [])) = true := by kernel_rfl
theorem pf9 : ((Rows.carriedRow.inPlace == Tryz.prog.inPlace 10)) = true := by kernel_rfl
theorem pf10 : ((Rows.carriedRow.unfollowed == Tryz.prog.unfollowed 10)) = true := by kernel_rfl
theorem pf11 : ((Rows.carriedRow.recurses == Tryz.prog.recurses 10)) = true := by kernel_rfl
theorem pf12 : ((Rows.carriedRow.named == Tryz.prog.varsNamed 10)) = true := by kernel_rfl
theorem pf13 : ((Rows.carriedRow.maps == (Tryz.f10.params.toList ++ Rows.carriedSpec.plain.varTypes Tryz.prog).any (Tryz.prog.mapsRec ·))) = true := by kernel_rfl
theorem pf14 : ((Rows.carriedRow.ifaces == (Tryz.f10.params.toList ++ Rows.carriedSpec.plain.varTypes Tryz.prog).any (Tryz.prog.ifacesRec ·))) = true := by kernel_rfl
theorem pf15 : ((Rows.carriedRow.mapsOut == Tryz.prog.mapsAmong Tryz.f10.resultTypes.toList)) = true := by kernel_rfl
theorem pf16 : ((Rows.carriedRow.loops == (Tryz.f10.params.toList ++ Rows.carriedSpec.plain.varTypes Tryz.prog).any (Tryz.prog.loopsFrom ·))) = true := by kernel_rfl
theorem pf17 : ((Rows.carriedRow.wideKeys == (Tryz.f10.params.toList ++ Rows.carriedSpec.plain.varTypes Tryz.prog ++ Tryz.f10.resultTypes.toList).any (Tryz.prog.wideKeysFrom ·))) = true := by kernel_rfl
theorem pf18 : (Rows.carriedSpec.vars.all (Tryz.prog.varReadable ·)) = true := by kernel_rfl
theorem pf19 : (Tryz.f10.resultTypes.all (fun t => Tryz.prog.readableRec t && decide (t < Tryz.prog.types.size))) = true := by kernel_rfl
theorem pf20 : ((Rows.carriedRow.ifacesOut == Tryz.f10.resultTypes.toList.any (Tryz.prog.ifacesRec ·))) = true := by kernel_rfl
theorem pf21 : ((Rows.carriedRow.loopsOut == Tryz.f10.resultTypes.toList.any (Tryz.prog.loopsFrom ·))) = true := by kernel_rfl
theorem pf22 : ((Rows.carriedRow.plainKeys == Tryz.prog.plainKeys)) = true := by kernel_rfl
theorem pf23 : (Rows.carriedRow.shortTexts.isNone) = true := by kernel_rfl
theorem pf24 : (Tryz.prog.stopsHeard) = true := by kernel_rfl
theorem pf25 : (Tryz.prog.mayEnter) = true := by kernel_rfl
theorem pf26 : ((Rows.carriedRow.lifted == Tryz.prog.liftsFinal)) = true := by kernel_rfl
theorem pf27 : ((Tryz.prog.make == some Rows.carriedRow.make)) = true := by kernel_rfl
theorem pf28 : ((Rows.carriedRow.kinds == (if Rows.carriedRow.domain.isEmpty then [] else Tryz.f10.params.toList.map fun t => match Tryz.prog.underlying t with | some (.int k) => some k | _ => none))) = true := by kernel_rfl
theorem pf29 : ((Rows.carriedRow.pinned == Rows.carriedRow.pinnedBy)) = true := by kernel_rfl
theorem pf30 : ((Rows.carriedRow.veiled == (Tryz.f10.params.toList ++ Rows.carriedSpec.plain.varTypes Tryz.prog ++ Tryz.f10.resultTypes.toList).any (Tryz.prog.veiledRec ·))) = true := by kernel_rfl
theorem pf31 : (Rows.carriedRow.veiledFits Tryz.prog Tryz.f10.params.toList (Tryz.f10.params.toList ++ Rows.carriedSpec.plain.varTypes Tryz.prog ++ Tryz.f10.resultTypes.toList)) = true := by kernel_rfl
theorem and_p {a b : Bool} (h1 : a = true) (h2 : b = true) : (a && b) = true := by rw [h1, h2]; rfl
set_option maxRecDepth 100000 in
theorem carried_closed : joinedFacts Tryz.prog 10 Tryz.f10 Rows.carriedSpec Rows.carriedRow = true := by
 unfold joinedFacts
 exact (and_p (and_p (and_p (and_p (and_p (and_p (and_p (and_p (and_p (and_p (and_p (and_p (and_p (and_p (and_p (and_p (and_p (and_p (and_p (and_p (and_p (and_p (and_p (and_p (and_p (and_p (and_p (and_p (and_p (and_p (and_p pf0 pf1) pf2) pf3) pf4) pf5) pf6) pf7) pf8) pf9) pf10) pf11) pf12) pf13) pf14) pf15) pf16) pf17) pf18) pf19) pf20) pf21) pf22) pf23) pf24) pf25) pf26) pf27) pf28) pf29) pf30) pf31)
end Go.Proofs.YtccikgogjfbpeaaGreatDoor
