/- The keep Swapped, walked: a switch decides as the last table that it took. The law: the closed facts of the row Swapped, one by one. -/
import Derived.Test.YtccikgogjfbpeabGreatDoorWHa
import Derived.Test.YtccikgogjfbpeabGreatDoorWSi
import Derived.Test.YtccikgogjfbpeabGreatDoorCards
import Derived.ProofKit
import Derived.JoinedCond
namespace Go.Proofs.YtccikgogjfbpeabGreatDoor
open Go.RowKit Go.Maps Go.WideMaps
theorem wire_eq (p : PayM) : ((((((p.pan ++ ⟨#[32]⟩) ++ bs (mccL p)) ++ ⟨#[32]⟩) ++ bs (amL p)) ++ ⟨#[32]⟩) ++ bs (curL p) : ByteArray) = wireP p := by
 have e : p.pan = bs p.pan.data.toList := rfl
 rw [e, show (⟨#[32]⟩ : ByteArray) = bs [32] from rfl]
 simp only [bs_append, List.append_assoc]
 rfl
set_option maxRecDepth 1000000 in
set_option maxHeartbeats 16000000 in
theorem Swapped_any (w : World) (la : Option Addr) (ln lc : Nat) (l : List Int) (ma : Option Addr) (mn mc : Nat) (ml : List Int) (pa : Option Addr) (pn pc : Nat) (pl : List Int) (Bd : ByteArray) (cu : Int) (hcu : InI cu) (hHs : Hal w) (hl : l.length = ln /\ RawAt w la l /\ ∀ x, x ∈ l -> InI x) (hml : ml.length = mn /\ RawAt w ma ml /\ ∀ x, x ∈ ml -> InI x) (hpl : pl.length = pn /\ RawAt w pa pl /\ ∀ x, x ∈ pl -> InI x) :
  Calls Tryz.prog 4 #[.slice la ln lc, .slice ma mn mc, .slice pa pn pc, .string Bd, .int .i64 cu] w fun e w' => e = .returned (.bool true) /\ F0 w w' := by
 obtain ⟨m1, hm1⟩ : ∃ m, min ln 8 = m := ⟨_, rfl⟩
 obtain ⟨m2, hm2⟩ : ∃ m, min mn 8 = m := ⟨_, rfl⟩
 have h81 : m1 <= 8 := by omega
 have h82 : m2 <= 8 := by omega
 have HR1 := hid (base_read l m1 h81)
 have HR2 := hid (base_read ml m2 h82)
 have HM : Hid (m1 = min ln 8 /\ m2 = min mn 8) := ⟨hm1.symm, hm2.symm⟩
 have HRu1 : Hid (∀ W, F0 w W -> Calls Tryz.prog 15 #[.slice la ln lc] W fun e w' => (∃ ra rc, e = .returned (.slice ra m1 rc) /\ Calls Tryz.prog 14 #[.slice ra m1 rc] w' fun e2 w2 => e2 = .returned (.string (bs (whT (rlL l m1)))) /\ w2 = w') /\ F0 W w') := fun W hf => ruled_any W la ln lc l m1 hl.1 (hl.2.1.fr hf) hl.2.2 hm1.symm
 have HRu2 : Hid (∀ W, F0 w W -> Calls Tryz.prog 15 #[.slice ma mn mc] W fun e w' => (∃ ra rc, e = .returned (.slice ra m2 rc) /\ Calls Tryz.prog 14 #[.slice ra m2 rc] w' fun e2 w2 => e2 = .returned (.string (bs (whT (rlL ml m2)))) /\ w2 = w') /\ F0 W w') := fun W hf => ruled_any W ma mn mc ml m2 hml.1 (hml.2.1.fr hf) hml.2.2 hm2.symm
 generalize bs (whT (rlL l m1)) = S1 at *
 generalize bs (whT (rlL ml m2)) = S2 at *
 have HLs : Hid ((l.length = ln /\ RawAt w la l /\ ∀ x, x ∈ l -> InI x) /\ (ml.length = mn /\ RawAt w ma ml /\ ∀ x, x ∈ ml -> InI x)) := ⟨hl, hml⟩
 have HPL := hid hpl
 have HHs := hid hHs
 have HI := hid hcu
 clear hcu hHs hl hml hpl hm1 hm2 h81 h82
 go_enter Tryz.func4, Tryz.ntmps4
 go_wp2_with fail
 refine (kawake_any w).mono ?_
 rintro e w1 ⟨rfl, hf1⟩
 have HF1 := hid hf1
 clear hf1
 go_wp2_with fail
 refine (NewSwitch_any w1).mono ?_
 rintro e w2 ⟨⟨X, M, TT, zb, za, zc, rfl, hX, hM, hS, hT⟩, hf2⟩
 have HF2 := hid (HF1.o.trans hf2)
 have hlt := hS.lt
 have HB2 : Hid ((w.heap.size <= X /\ X < w2.heap.size) /\ w.heap.size <= M /\ M < w2.heap.size) := ⟨⟨by have := HF1.o.size; omega, hlt.1⟩, by have := HF1.o.size; omega, hlt.2⟩
 have HS2 := hid hS
 have HT2 := hid hT
 clear hX hM hS hT hf2 hlt HF1
 go_wp2_with fail
 refine (NewSwitch_any w2).mono ?_
 rintro e w3 ⟨⟨X2, M2, TT2, zb2, za2, zc2, rfl, hX, hM, hS, hT⟩, hf3⟩
 have HF3 := hid (HF2.o.trans hf3)
 have hlt := hS.lt
 have HB3 : Hid ((w2.heap.size <= X2 /\ X2 < w3.heap.size) /\ (w2.heap.size <= M2 /\ M2 < w3.heap.size) /\ w2.heap.size <= w3.heap.size /\ w.heap.size <= w2.heap.size) := ⟨⟨hX, hlt.1⟩, ⟨hM, hlt.2⟩, hf3.size, HF2.o.size⟩
 have HS3a := hid (HS2.o.fr hf3 (by simp) (by simp))
 have HT3 := hid (HT2.o.fr hf3)
 have HS3b := hid hS
 clear hX hM hS hT hf3 hlt HF2 HS2 HT2
 go_wp2_with fail
 refine (HRu1.o w3 HF3.o).mono ?_
 rintro e w4 ⟨⟨ra, rc, rfl, hwh⟩, hf⟩
 have HWh := hid hwh
 have HF4 := hid hf
 clear hwh hf
 go_wp2_with fail
 refine HWh.o.mono ?_
 rintro e w' ⟨rfl, he⟩
 replace he := he.symm
 subst he
 clear HWh
 have HTb := hid (ktab_z S1 w4 _ HR1.o)
 go_wp2_with fail
 refine HTb.o.mono ?_
 rintro e w5 ⟨⟨T1, rfl, hT1⟩, hf5⟩
 have HF5 := hid (HF4.o.trans hf5)
 have HT1 : Hid (TzAt w3.heap.size w5 T1 (grownT rts3 (rsM l 0 m1))) := by
  obtain ⟨TTx, h1, h2, h3⟩ := hT1
  exact ⟨TTx, Nat.le_trans HF4.o.size h1, h2, h3.lo HF4.o.size⟩
 clear hT1 hf5 HTb HF4
 go_wp2_with fail
 refine (HRu2.o w5 (HF3.o.trans HF5.o)).mono ?_
 rintro e w6 ⟨⟨ra, rc, rfl, hwh⟩, hf⟩
 have HWh := hid hwh
 have HF6 := hid hf
 clear hwh hf
 go_wp2_with fail
 refine HWh.o.mono ?_
 rintro e w' ⟨rfl, he⟩
 replace he := he.symm
 subst he
 clear HWh
 have HTb := hid (ktab_z S2 w6 _ HR2.o)
 go_wp2_with fail
 refine HTb.o.mono ?_
 rintro e w7 ⟨⟨T2, rfl, hT2⟩, hf7⟩
 have HF67 := hid (HF6.o.trans hf7)
 have HF7 := hid (HF5.o.trans HF67.o)
 have HT2 : Hid (TzAt w3.heap.size w7 T2 (grownT rts3 (rsM ml 0 m2))) := by
  obtain ⟨TTx, h1, h2, h3⟩ := hT2
  have hz := (HF5.o.trans HF6.o).size
  exact ⟨TTx, Nat.le_trans hz h1, h2, h3.lo hz⟩
 have HT1b := hid (HT1.o.fr HF67.o (by simp))
 clear hT2 hf7 HTb HF6 HF5 HT1
 go_wp2_with fail
 refine (kpayment_c w7 pa pn pc pl HPL.o.1 (HPL.o.2.1.fr (HF3.o.trans HF7.o)) HPL.o.2.2).mono ?_
 rintro e w8 ⟨⟨p, rfl, hpo, hps, hpc⟩, hf8⟩
 have HPO : Hid (payOk p = true /\ p.pan.size <= 19 /\ p.cur <= 3) := ⟨hpo, hps, hpc⟩
 have hps19 := hps
 have HF9 : Hid (F0 w7 (w8.alloc (.cells #[.string p.pan, .int .i64 p.mcc, .int .i64 p.am, .int .i64 p.cur] 24))) := hf8.alloc _
 have HB9 := hid (heap_alloc_new w8 (.cells #[.string p.pan, .int .i64 p.mcc, .int .i64 p.am, .int .i64 p.cur] 24))
 have HL9 : Hid (w7.heap.size <= w8.heap.size) := hf8.size
 clear hpo hps hpc hf8
 unfold payV
 go_upto_region 9 with fail
 generalize w8.alloc _ = w9 at *
 generalize w8.heap.size = P at *
 have HSC : Hid (∀ W', F0 w9 W' -> W'.cell? ⟨P, 0, none⟩ = some (.string p.pan) /\ W'.cell? ⟨P, 1, none⟩ = some (.int .i64 p.mcc) /\ W'.cell? ⟨P, 2, none⟩ = some (.int .i64 p.am) /\ W'.cell? ⟨P, 3, none⟩ = some (.int .i64 p.cur)) := fun W' hf => by
  have e := hf.whole HB9.o (by simp)
  exact ⟨block_cell e 0 _ rfl, block_cell e 1 _ rfl, block_cell e 2 _ rfl, block_cell e 3 _ rfl⟩
 go_cut [17] (fun v wx => ∃ Wi, v = .string Wi /\ Hid (Wi = wireP p) /\ Hid (F0 w9 wx))
 case first =>
  have hr := pay_rng HPO.o.1
  have hd := pay_DW HPO.o.1
  have HTx1 := hid (fun W => ktext_any p.mcc.toNat p.mcc W (Int.toNat_of_nonneg hr.2.1.1).symm (by omega))
  have HTx2 := hid (fun W => ktext_any p.am.toNat p.am W (Int.toNat_of_nonneg hr.2.2.1.1).symm (by omega))
  have HTx3 := hid (fun W => ktext_any p.cur.toNat p.cur W (Int.toNat_of_nonneg hr.2.2.2.1).symm (by omega))
  have HWe := hid (wire_eq p)
  have hs1 : (bs (mccL p)).size <= 4 := by rw [bs_size]; exact hd.1.2.1
  have hs2 : (bs (amL p)).size <= 10 := by rw [bs_size]; exact hd.2.1.2.1
  have hs3 : (bs (curL p)).size <= 3 := by rw [bs_size]; exact hd.2.2.2.1
  unfold mccL amL curL at HWe
  unfold mccL at hs1
  unfold amL at hs2
  unfold curL at hs3
  generalize bs (digL p.mcc.toNat 1) = D1 at *
  generalize bs (digL p.am.toNat 1) = D2 at *
  generalize bs (digL p.cur.toNat 1) = D3 at *
  clear hr hd
  have hq0 : ¬ 9223372036854775807 < p.pan.size + 1 := by omega
  have hq1 : ¬ 9223372036854775807 < p.pan.size + 1 + D1.size := by omega
  have hq2 : ¬ 9223372036854775807 < p.pan.size + 1 + D1.size + 1 := by omega
  have hq3 : ¬ 9223372036854775807 < p.pan.size + 1 + D1.size + 1 + D2.size := by omega
  have hq4 : ¬ 9223372036854775807 < p.pan.size + 1 + D1.size + 1 + D2.size + 1 := by omega
  have hq5 : ¬ 9223372036854775807 < p.pan.size + 1 + D1.size + 1 + D2.size + 1 + D3.size := by omega
  refine wp_region_held_drew (S := fun W' => W'.cell? ⟨P, 0, none⟩ = some (.string p.pan) /\ W'.cell? ⟨P, 1, none⟩ = some (.int .i64 p.mcc) /\ W'.cell? ⟨P, 2, none⟩ = some (.int .i64 p.am) /\ W'.cell? ⟨P, 3, none⟩ = some (.int .i64 p.cur)) (by kernel_rfl) (HSC.o _ (Fr.refl _ _).drew) (fun hH => ?_)
  have HD0 : Hid (F0 w9 w9.drew) := (Fr.refl _ _).drew
  refine htk 0 (v := ?v0z) ?y0z hH ?r0z
  case y0z =>
   rintro w ⟨s0, s1, s2, s3⟩
   go_simp
   with_reducible rfl
  try go_frame
  refine htk 1 (v := ?v1z) ?y1z hH ?r1z
  case y1z =>
   rintro w ⟨s0, s1, s2, s3⟩
   go_simp
   with_reducible rfl
  try go_frame
  refine htk 2 (v := ?v2z) ?y2z hH ?r2z
  case y2z =>
   rintro w ⟨s0, s1, s2, s3⟩
   go_simp
   with_reducible rfl
  try go_frame
  refine htk 3 (v := ?v3z) ?y3z hH ?r3z
  case y3z =>
   rintro w ⟨s0, s1, s2, s3⟩
   go_simp
   with_reducible rfl
  try go_frame
  refine htk 4 (v := ?v4z) ?y4z hH ?r4z
  case y4z =>
   rintro w ⟨s0, s1, s2, s3⟩
   go_simp
   with_reducible rfl
  try go_frame
  refine htk 8 (v := ?v8z) ?y8z hH ?r8z
  case y8z =>
   rintro w ⟨s0, s1, s2, s3⟩
   go_simp
   with_reducible rfl
  try go_frame
  refine htk 9 (v := ?v9z) ?y9z hH ?r9z
  case y9z =>
   rintro w ⟨s0, s1, s2, s3⟩
   go_simp
   with_reducible rfl
  try go_frame
  refine htk 13 (v := ?v13z) ?y13z hH ?r13z
  case y13z =>
   rintro w ⟨s0, s1, s2, s3⟩
   go_simp
   with_reducible rfl
  try go_frame
  refine htk 14 (v := ?v14z) ?y14z hH ?r14z
  case y14z =>
   rintro w ⟨s0, s1, s2, s3⟩
   go_simp
   with_reducible rfl
  try go_frame
  refine wpAnyH_ready (rs := [5]) (by kernel_rfl) (by simp) ?_
  refine held_cons rfl (fun K2 hK => ?_) AllReadyH.nil
  try rw [if_pos (by rfl)]
  go_simp
  refine (HTx1.o _).mono ?_
  rintro e x1 ⟨rfl, hf⟩
  have Hx1 := hid (HD0.o.trans hf)
  clear hf
  refine hK.out _ _ (HSC.o _ Hx1.o) (fun hH => ?_)
  clear hK K2
  try go_frame
  refine htk 6 (v := ?v6z) ?y6z hH ?r6z
  case y6z =>
   rintro w ⟨s0, s1, s2, s3⟩
   go_simp
   with_reducible rfl
  try go_frame
  refine htk 7 (v := ?v7z) ?y7z hH ?r7z
  case y7z =>
   rintro w ⟨s0, s1, s2, s3⟩
   go_simp
   with_reducible rfl
  try go_frame
  refine wpAnyH_ready (rs := [10]) (by kernel_rfl) (by simp) ?_
  refine held_cons rfl (fun K2 hK => ?_) AllReadyH.nil
  try rw [if_pos (by rfl)]
  go_simp
  refine (HTx2.o _).mono ?_
  rintro e x2 ⟨rfl, hf⟩
  have Hx2 := hid (Hx1.o.trans hf)
  clear hf
  refine hK.out _ _ (HSC.o _ Hx2.o) (fun hH => ?_)
  clear hK K2
  try go_frame
  refine htk 11 (v := ?v11z) ?y11z hH ?r11z
  case y11z =>
   rintro w ⟨s0, s1, s2, s3⟩
   go_simp
   with_reducible rfl
  try go_frame
  refine htk 12 (v := ?v12z) ?y12z hH ?r12z
  case y12z =>
   rintro w ⟨s0, s1, s2, s3⟩
   go_simp
   with_reducible rfl
  try go_frame
  refine wpAnyH_ready (rs := [15]) (by kernel_rfl) (by simp) ?_
  refine held_cons rfl (fun K2 hK => ?_) AllReadyH.nil
  try rw [if_pos (by rfl)]
  go_simp
  refine (HTx3.o _).mono ?_
  rintro e x3 ⟨rfl, hf⟩
  have Hx3 := hid (Hx2.o.trans hf)
  clear hf
  refine hK.out _ _ (HSC.o _ Hx3.o) (fun hH => ?_)
  clear hK K2
  try go_frame
  refine htk 16 (v := ?v16z) ?y16z hH ?r16z
  case y16z =>
   rintro w ⟨s0, s1, s2, s3⟩
   go_simp
   with_reducible rfl
  try go_frame
  refine htk 17 (v := ?v17z) ?y17z hH ?r17z
  case y17z =>
   rintro w ⟨s0, s1, s2, s3⟩
   go_simp
   with_reducible rfl
  try go_frame
  refine wpAnyH_done (by kernel_rfl) ?_ _
  go_wp2_with fail
  go_meet
  exact ⟨_, rfl, HWe, Hx3⟩
 case rest =>
  obtain ⟨Wi, rfl, HWi, HF10⟩ := hcut
  have hb2 := HB2.o
  have hb3 := HB3.o
  have f := HF9.o.trans HF10.o
  have g := HF7.o.trans f
  apply_assumption
  exact swapped_tail10 w wc w3.heap.size X M TT X2 M2 TT2 zb T1 T2 P za zc la ln lc l ma mn mc ml m1 m2 p Wi Bd cu HI.o (HF3.o.trans g) HHs.o g.size ⟨by omega, hb2.1.1⟩ ⟨by omega, hb2.2.1⟩ ⟨hb3.1.2, by omega⟩ ⟨hb3.2.1.2, by omega⟩ ⟨by omega, by omega, by omega, by omega⟩ (HS3a.o.fr g (by simp) (by simp)) (HT3.o.fr g) (HS3b.o.fr g (by simp) (by simp)) (HT1b.o.fr f (by simp)) (HT2.o.fr f (by simp)) HPO.o.1 HPO.o.2.1 HPO.o.2.2 (HF10.o.whole HB9.o (by simp)) (by have := HL9.o; have := HF7.o.size; omega) HWi.o HLs.o.1 HLs.o.2 HM.o.1 HM.o.2 _ _ _ _ _ _ _ _ _ _ _ _ _ _ _ _ _ _ _ _ _ _ _ _ _ _ _ _ _ _ _ _ _ _ _ _ _ _ _ _ _ _ _ _ _ _ _ _ _ _ _ _ _ _ _ _ _ _ _ _ _ _ _ _ _ _ _ _ _ _ _ _ _ _ _ _ _ _ _ _ _ _ _ _ _ _ _ _ _ _ _ _ _ _ _ _ _ _ _ _ _ _ _ _ _ _ _ _ _ _ _ _ _ _ _ _ _ _ _ _ _ _ _ _ _ _ _ _ _ _ _ _ _ _ _ _ _ _ _ _ _ _ _ _ _ _ _ _ _ _ _ _ _ _ _ _ _ _ _ _ _ _ _ _ _ _ _ _ _ _ _ _ _ _ _ _ _ _ _ _ _ _ _ _ _ _ _ _ _ _ _ _ _ _ _ _ _ _ _ _ _ _ _ _ _ _ _ _ _ _ _ _ _ _ _ _ _ _ _ _ _ _ _ _ _ _ _ _ _ _ _ _ _ _ _ _ _ _ _ _ _ _ _
end Go.Proofs.YtccikgogjfbpeabGreatDoor

namespace Go.Proofs.YtccikgogjfbpeabGreatDoor
open Go.ChangeShapes Go.WideShapes Go.ChangeAt Go.RowKit
theorem pf0 : (Rows.swappedRow.wf (OpenSpec.ofChange Rows.swappedSpec)) = true := by kernel_rfl
theorem pf1 : (laidOutB Tryz.prog) = true := by kernel_rfl
theorem pf2 : (mapsRowed Tryz.prog) = true := by kernel_rfl
theorem pf3 : (Tryz.f4.params.all (Tryz.prog.readableRec ·)) = true := by kernel_rfl
theorem pf4 : (namedTie Tryz.prog Rows.swappedRow.named Rows.swappedSpec.vars) = true := by kernel_rfl
theorem pf5 : ((Rows.swappedRow.stops == [])) = true := by kernel_rfl
theorem pf6 : ((Tryz.prog.stops == [])) = true := by kernel_rfl
theorem pf7 : ((Rows.swappedRow.knobs == [])) = true := by kernel_rfl
theorem pf8 : ((Tryz.prog.stopKnobs == [])) = true := by kernel_rfl
theorem pf9 : ((Rows.swappedRow.inPlace == Tryz.prog.inPlace 4)) = true := by kernel_rfl
theorem pf10 : ((Rows.swappedRow.unfollowed == Tryz.prog.unfollowed 4)) = true := by kernel_rfl
theorem pf11 : ((Rows.swappedRow.recurses == Tryz.prog.recurses 4)) = true := by kernel_rfl
theorem pf12 : ((Rows.swappedRow.named == Tryz.prog.varsNamed 4)) = true := by kernel_rfl
theorem pf13 : ((Rows.swappedRow.maps == (Tryz.f4.params.toList ++ Rows.swappedSpec.plain.varTypes Tryz.prog).any (Tryz.prog.mapsRec ·))) = true := by kernel_rfl
theorem pf14 : ((Rows.swappedRow.ifaces == (Tryz.f4.params.toList ++ Rows.swappedSpec.plain.varTypes Tryz.prog).any (Tryz.prog.ifacesRec ·))) = true := by kernel_rfl
theorem pf15 : ((Rows.swappedRow.mapsOut == Tryz.prog.mapsAmong Tryz.f4.resultTypes.toList)) = true := by kernel_rfl
theorem pf16 : ((Rows.swappedRow.loops == (Tryz.f4.params.toList ++ Rows.swappedSpec.plain.varTypes Tryz.prog).any (Tryz.prog.loopsFrom ·))) = true := by kernel_rfl
theorem pf17 : ((Rows.swappedRow.wideKeys == (Tryz.f4.params.toList ++ Rows.swappedSpec.plain.varTypes Tryz.prog ++ Tryz.f4.resultTypes.toList).any (Tryz.prog.wideKeysFrom ·))) = true := by kernel_rfl
theorem pf18 : (Rows.swappedSpec.vars.all (Tryz.prog.varReadable ·)) = true := by kernel_rfl
theorem pf19 : (Tryz.f4.resultTypes.all (fun t => Tryz.prog.readableRec t && decide (t < Tryz.prog.types.size))) = true := by kernel_rfl
theorem pf20 : ((Rows.swappedRow.ifacesOut == Tryz.f4.resultTypes.toList.any (Tryz.prog.ifacesRec ·))) = true := by kernel_rfl
theorem pf21 : ((Rows.swappedRow.loopsOut == Tryz.f4.resultTypes.toList.any (Tryz.prog.loopsFrom ·))) = true := by kernel_rfl
theorem pf22 : ((Rows.swappedRow.plainKeys == Tryz.prog.plainKeys)) = true := by kernel_rfl
theorem pf23 : (Rows.swappedRow.shortTexts.isNone) = true := by kernel_rfl
theorem pf24 : (Tryz.prog.stopsHeard) = true := by kernel_rfl
theorem pf25 : (Tryz.prog.mayEnter) = true := by kernel_rfl
theorem pf26 : ((Rows.swappedRow.lifted == Tryz.prog.liftsFinal)) = true := by kernel_rfl
theorem pf27 : ((Tryz.prog.make == some Rows.swappedRow.make)) = true := by kernel_rfl
theorem pf28 : ((Rows.swappedRow.kinds == (if Rows.swappedRow.domain.isEmpty then [] else Tryz.f4.params.toList.map fun t => match Tryz.prog.underlying t with | some (.int k) => some k | _ => none))) = true := by kernel_rfl
theorem pf29 : ((Rows.swappedRow.pinned == Rows.swappedRow.pinnedBy)) = true := by kernel_rfl
theorem pf30 : ((Rows.swappedRow.veiled == (Tryz.f4.params.toList ++ Rows.swappedSpec.plain.varTypes Tryz.prog ++ Tryz.f4.resultTypes.toList).any (Tryz.prog.veiledRec ·))) = true := by kernel_rfl
theorem pf31 : (Rows.swappedRow.veiledFits Tryz.prog Tryz.f4.params.toList (Tryz.f4.params.toList ++ Rows.swappedSpec.plain.varTypes Tryz.prog ++ Tryz.f4.resultTypes.toList)) = true := by kernel_rfl
theorem and_p {a b : Bool} (h1 : a = true) (h2 : b = true) : (a && b) = true := by rw [h1, h2]; rfl
set_option maxRecDepth 100000 in
theorem swapped_closed : joinedFacts Tryz.prog 4 Tryz.f4 Rows.swappedSpec Rows.swappedRow = true := by
 unfold joinedFacts
 exact (and_p (and_p (and_p (and_p (and_p (and_p (and_p (and_p (and_p (and_p (and_p (and_p (and_p (and_p (and_p (and_p (and_p (and_p (and_p (and_p (and_p (and_p (and_p (and_p (and_p (and_p (and_p (and_p (and_p (and_p (and_p pf0 pf1) pf2) pf3) pf4) pf5) pf6) pf7) pf8) pf9) pf10) pf11) pf12) pf13) pf14) pf15) pf16) pf17) pf18) pf19) pf20) pf21) pf22) pf23) pf24) pf25) pf26) pf27) pf28) pf29) pf30) pf31)
end Go.Proofs.YtccikgogjfbpeabGreatDoor
