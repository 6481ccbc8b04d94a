/- The keep Dead: which rules are told to be dead, and what is left. -/
import Derived.Test.YtccikgogjfbpeaaGreatUHa
import Derived.Test.YtccikgogjfbpeaaGreatUOb
namespace Go.Proofs.YtccikgogjfbpeaaGreat
open Go.RowKit

theorem nmRow_strs {w : World} {base : Nat} {v : Value} {n : Nat} {l : List ByteArray} (h : w.ownsRow base 9 1 v n (nmRow l)) (hl : l.length = n) : ∃ a c, v = .slice a n c ∧ StrsAt w a l := strsAt_owns h hl
theorem ktext_i (i : Nat) (hi : i ≤ 8) : ∃ s : ByteArray, s.size ≤ 2 ∧ (0 < i → s = bs (digL (i - 1) 1)) ∧ ∀ W, Calls Tryz.prog 9 #[.int .i64 ((i : Int) - 1)] W fun e w' => e = .returned (.string s) ∧ Fr (fun _ => False) W w' := by
 cases i with
 | zero => exact ⟨⟨#[47]⟩, by decide, fun h => by omega, fun W => ktext_neg W⟩
 | succ j =>
  refine ⟨bs (digL j 1), by rw [bs_size]; exact tx_len (by omega), fun _ => rfl, fun W => ?_⟩
  exact ktext_any j _ W (by omega) (by omega)
theorem deLs_nm (l : List Int) (m : Nat) (c : Int) {i : Nat} {x : LnX} (hx : (deLs l m c)[i]? = some x) : x.x.nm = if i = 0 then ovN else if i = m + 1 then agN else 114 :: digL (i - 1) 1 := by
 unfold deLs at hx
 cases i with
 | zero => simp at hx; subst hx; rfl
 | succ j =>
  rw [List.getElem?_cons_succ] at hx
  rw [if_neg (by omega)]
  by_cases hj : j < m
  ·rw [List.getElem?_append_left (by simpa using hj), List.getElem?_map, List.getElem?_range hj] at hx
   simp at hx
   subst hx
   rw [if_neg (by omega)]
   rfl
  ·rw [List.getElem?_append_right (by simpa using hj)] at hx
   have : j - m = 0 := by
    have h2 := (List.getElem?_eq_some_iff.1 hx).1
    simp at h2
    omega
   simp [this] at hx
   subst hx
   rw [if_pos (by omega)]
   rfl
set_option maxRecDepth 1000000 in
set_option maxHeartbeats 8000000 in
theorem dead_tail11 (w0 w : World) (T : Nat) (L : List Int) (m : Nat) (ci : Int) (N : Nat) (hm : m ≤ 6) (hN : N = m + 2) (da : Option Addr) (dn dc : Nat) (ra : Option Addr) (rc : Nat) (pa : Option Addr) (pn pc : Nat) (pl : List Int)
    (hF : Fr (fun _ => False) w0 w) (hT : TqAt w T rts3 (deR L m ci)) (hs : StrsAt w ra ((deLs L m ci).map LnX.B)) (hd : StrsAt w da (dedN (deR L m ci))) (hdn : (dedN (deR L m ci)).length = dn)
    (hpl : pl.length = pn) (hpr : RawAt w pa pl) (hpi : ∀ x, x ∈ pl → InI x)
    (t0 t2 t3 t4 t5 t6 t7 t11 t12 t13 t14 t15 t16 t17 t18 t19 t20 t21 t22 t23 t24 t25 t26 t27 t28 t29 t30 t31 t32 t33 t34 t35 t36 t37 t38 t39 t40 t41 t42 t43 t44 t45 t46 t47 t48 t49 t50 t51 t52 t53 t54 t55 t56 t57 t58 t59 t60 t61 t62 t63 t64 t65 t66 t67 t68 t69 t70 t71 t72 t73 t74 t75 t76 t77 t78 t79 t80 t81 t82 t83 t84 t85 t86 t87 t88 t89 t90 t91 t92 t93 t94 t95 t96 t97 t98 t99 t100 t101 t102 t103 t104 t105 t106 t107 t108 t109 t110 t111 t112 t113 t114 t115 t116 t117 t118 t119 t120 t121 t122 t123 t124 t125 t126 t127 t128 t129 t130 t131 t132 t133 t134 t135 t136 t137 t138 t139 t140 t141 : Value) :
    Code.wp Tryz.prog (restFrom Tryz.f5 11) (bodyPost Tryz.prog Tryz.f5 fun e w' => e = .returned (.bool true) ∧ Fr (fun _ => False) w0 w') ⟨#[t0, .slice pa pn pc, t2, t3, t4, t5, t6, t7, .slice ra N rc, .pointer (some ⟨T, 0, none⟩), .slice da dn dc, t11, t12, t13, t14, t15, t16, t17, t18, t19, t20, t21, t22, t23, t24, t25, t26, t27, t28, t29, t30, t31, t32, t33, t34, t35, t36, t37, t38, t39, t40, t41, t42, t43, t44, t45, t46, t47, t48, t49, t50, t51, t52, t53, t54, t55, t56, t57, t58, t59, t60, t61, t62, t63, t64, t65, t66, t67, t68, t69, t70, t71, t72, t73, t74, t75, t76, t77, t78, t79, t80, t81, t82, t83, t84, t85, t86, t87, t88, t89, t90, t91, t92, t93, t94, t95, t96, t97, t98, t99, t100, t101, t102, t103, t104, t105, t106, t107, t108, t109, t110, t111, t112, t113, t114, t115, t116, t117, t118, t119, t120, t121, t122, t123, t124, t125, t126, t127, t128, t129, t130, t131, t132, t133, t134, t135, t136, t137, t138, t139, t140, t141], []⟩ w := by
  obtain ⟨ij, hj', hy0, hy1, hy2⟩ := info_parts Tryz.infoStrK
  conv => arg 2; whnf
  have HF := hid hF
  have HT := hid hT
  have HS := hid hs
  have HD := hid hd
  have HDn := hid hdn
  have HPL : Hid (pl.length = pn ∧ RawAt w pa pl ∧ ∀ x, x ∈ pl → InI x) := ⟨hpl, hpr, hpi⟩
  have hN8 : N ≤ 8 := by omega
  have HN := hid hN
  have HM := hid hm
  have hdb : dn ≤ 8 := by rw [← hdn]; have := dedL_len (deR L m ci) (deR L m ci).length; rw [deR_len] at this; unfold dedN; rw [deR_len]; omega
  have HLen : Hid ((deLs L m ci).length = N) := by show _ = _; rw [deLs_len, hN]
  clear hF hT hs hd hdn hpl hpr hpi hN hm
  go_wp2_with fail
  rename_i K0 h0
  have H0 := hid h0
  clear h0
  obtain ⟨R, hR⟩ : ∃ R, deR L m ci = R := ⟨_, rfl⟩
  have HR := hid hR
  clear hR
  go_loopg [11, 12, 13] N (fun mm ov gv iv wr => ∃ i, i ≤ N ∧ mm = N - i ∧ iv = .int .i64 (i : Nat) ∧ gv = .int .i64 ((dedL R i).length : Nat) ∧ Hid (wr.ownsRow w.heap.size 9 1 ov (selL (livB R) ((deLs L m ci).map LnX.B) i).length (sRow (selL (livB R) ((deLs L m ci).map LnX.B) i))) ∧ Hid (Fr (fun _ => False) w wr))
  case atStart => exact ⟨0, by omega, rfl, rfl, rfl, World.ownsRow_nil _ _ _ _, Fr.refl _ _⟩
  case round =>
    obtain ⟨i, hi, rfl, rfl, rfl, HO, HFr⟩ := hrel
    obtain ⟨oa, oc, ho⟩ := ownsRow_len HO.out
    subst ho
    by_cases hlt : i < N
    · have hki : (i : Int) < (N : Int) := by omega
      obtain ⟨x, hx⟩ : ∃ x, (deLs L m ci)[i]? = some x := ⟨_, List.getElem?_eq_getElem (show i < (deLs L m ci).length by have := HLen.out; omega)⟩
      have HX := hid hx
      have HNm := hid (deLs_nm L m ci hx)
      have HOut : Hid (((dedN R).any fun n => n.toList == (bs x.x.nm).toList) = !livB R i) := by show _ = _; rw [← HR.out]; exact de_out L m ci hx
      have HMx : Hid (R[i]? = some x.M) := by show _ = _; rw [← HR.out]; unfold deR; rw [List.getElem?_map, hx]; rfl
      have hBx : ((deLs L m ci).map LnX.B)[i]? = some x.B := by rw [List.getElem?_map, hx]; rfl
      have HSel := hid (selL_step (b := livB R) hBx)
      obtain ⟨gr, go, er, hcr⟩ := HS.out i x.B hBx
      subst er
      have HCr : Hid (∀ W, Fr (fun _ => False) wr W → W.cell? ⟨gr, go + i, none⟩ = some (.string x.B)) := fun W hf => ((HFr.out.trans hf).cell (p := ⟨gr, go + i, none⟩) (World.block_lt_of_cell? w _ hcr) (by simp)).trans hcr
      have HBs : Hid (x.B.size ≤ 100) := by show _ ≤ _; unfold LnX.B; rw [bs_size]; exact (deLs_ok L HM.out ci x (List.mem_of_getElem? hx)).sz
      obtain ⟨s, hs2, hse, hsc⟩ := ktext_i i (by omega)
      have HSc := hid hsc
      have HSe := hid hse
      have hw1 : IntKind.i64.wrap ((i : Int) - 1) = (i : Int) - 1 := IntWalk.i64_in _ (by constructor <;> omega)
      clear hx hBx hcr hsc hse
      go_wp2_with (go_at_call 9; refine (HSc.out _).mono ?_)
      rintro e w1 ⟨rfl, hf1⟩
      have HF1 := hid hf1
      obtain ⟨nl, hnl⟩ : ∃ n, (selL (livB R) ((deLs L m ci).map LnX.B) i).length = n := ⟨_, rfl⟩
      have hnb : nl ≤ 8 := by rw [← hnl]; have := selL_len (livB R) ((deLs L m ci).map LnX.B) i; omega
      have HNL := hid hnl
      obtain ⟨gn, hgn⟩ : ∃ n, (dedL R i).length = n := ⟨_, rfl⟩
      have hgb : gn ≤ 8 := by rw [← hgn]; have := dedL_len R i; omega
      have HGN := hid hgn
      have HO1 := hid (ownsRow_fr HO.out hf1 (by simp))
      rw [hnl] at HO1
      rw [hnl, hgn]
      clear hf1 hw1 hnl hgn HSc
      go_upto_if 66 with fail
      go_cut [14] (fun v wx => v = .string (if i = 0 then bs ovN else (⟨#[114]⟩ : ByteArray) ++ s) ∧ wx = w1)
      case first =>
        by_cases h0 : i = 0
        · have hz : ((i : Int) == 0) = true := by simp [h0]
          have HZ := hid h0
          clear h0
          go_wp2_with fail
          go_meet
          exact ⟨by rw [if_pos HZ.out]; rfl, rfl⟩
        · have hz : ((i : Int) == 0) = false := by simp; omega
          have HZ := hid h0
          clear h0
          go_wp2_with fail
          go_meet
          exact ⟨by rw [if_neg HZ.out], rfl⟩
      case rest =>
        obtain ⟨hv, hwc⟩ := hcut
        replace hwc := hwc.symm
        subst hwc hv
        obtain ⟨S1, hS1⟩ : ∃ S1, (if i = 0 then bs ovN else (⟨#[114]⟩ : ByteArray) ++ s) = S1 := ⟨_, rfl⟩
        rw [hS1]
        have HS1 := hid hS1
        clear hS1
        have hw2 : IntKind.i64.wrap ((N : Int) - 1) = (N : Int) - 1 := IntWalk.i64_in _ (by constructor <;> omega)
        go_upto_if 71 with fail
        go_cut [14] (fun v wx => v = .string (bs x.x.nm) ∧ wx = w1)
        case first =>
          by_cases h1 : i = m + 1
          · have hz : ((i : Int) == (N : Int) - 1) = true := by have := HN.out; simp; omega
            have HZ := hid h1
            clear h1
            go_wp2_with fail
            go_meet
            exact ⟨by rw [HNm.out, if_neg (by have := HZ.out; omega), if_pos HZ.out]; rfl, rfl⟩
          · have hz : ((i : Int) == (N : Int) - 1) = false := by have := HN.out; simp; omega
            have HZ := hid h1
            clear h1
            go_wp2_with fail
            go_meet
            refine ⟨?_, rfl⟩
            rw [← HS1.out, HNm.out, if_neg HZ.out]
            by_cases h0 : i = 0
            · rw [if_pos h0, if_pos h0]
            · rw [if_neg h0, if_neg h0, HSe.out (by omega)]
              exact congrArg Value.string (bs_append [114] (digL (i - 1) 1))
        case rest =>
          obtain ⟨hv, hwc⟩ := hcut
          replace hwc := hwc.symm
          subst hwc hv
          obtain ⟨NM, hNM⟩ : ∃ NM, bs x.x.nm = NM := ⟨_, rfl⟩
          rw [hNM] at HOut
          rw [hNM]
          clear hNM hw2 HS1 HSe hs2 HNm
          go_wp2_with fail
          obtain ⟨D, hD⟩ : ∃ D, dedN R = D := ⟨_, rfl⟩
          have HD1 : Hid (StrsAt w1 da D ∧ D.length = dn) := by
            refine ⟨?_, ?_⟩
            · rw [← hD, ← HR.out]; exact (HD.out.fr (HFr.out.trans HF1.out) (by simp))
            · rw [← hD, ← HR.out]; exact HDn.out
          rw [hD] at HOut
          have HDe := hid hD
          clear hD
          go_loopg [15, 16] dn (fun mm bv jv wx => ∃ (j : Nat) (b : Bool), j ≤ dn ∧ mm = dn - j ∧ jv = .int .i64 (j : Nat) ∧ bv = .bool b ∧ Hid (b = (D.take j).any fun n => n.toList == NM.toList) ∧ wx = w1)
          case atStart => exact ⟨0, false, by omega, rfl, rfl, rfl, rfl, rfl⟩
          case round =>
            obtain ⟨j, b, hj, rfl, rfl, rfl, HB, hwx⟩ := hrel
            replace hwx := hwx.symm
            subst hwx
            by_cases hjl : j < dn
            · have hji : (j : Int) < (dn : Int) := by omega
              obtain ⟨d, hd⟩ : ∃ d, D[j]? = some d := ⟨_, List.getElem?_eq_getElem (show j < D.length by have := HD1.out.2; omega)⟩
              obtain ⟨gd, od, ed, hcd⟩ := HD1.out.1 j d hd
              have HBn : Hid ((b || (d.toList == NM.toList)) = (D.take (j + 1)).any fun n => n.toList == NM.toList) := by
                show _ = _
                rw [List.take_add_one, hd, List.any_append, ← HB.out]
                simp
              subst ed
              clear hd HB
              cases b with
              | true =>
                go_wp2_with fail
                go_roundg (dn - (j + 1))
                case measure => omega
                case rel => exact ⟨j + 1, true, by omega, rfl, by go_num, rfl, HBn, rfl⟩
              | false =>
                go_wp2_with fail
                go_roundg (dn - (j + 1))
                case measure => omega
                case rel => exact ⟨j + 1, (d.toList == NM.toList), by omega, rfl, by go_num, rfl, by have := HBn.out; rw [Bool.false_or] at this; exact this, rfl⟩
            · have hji : ¬ (j : Int) < (dn : Int) := by omega
              have HBe : Hid (b = !livB R i) := by
                show _ = _
                rw [HB.out, List.take_of_length_le (by have := HD1.out.2; omega)]
                exact HOut.out
              clear HB hjl
              have hw3 : IntKind.i64.wrap ((N : Int) - 1) = (N : Int) - 1 := IntWalk.i64_in _ (by constructor <;> omega)
              have HDs : Hid (dedL R (i + 1) = dedL R i ++ (if livB R i then [] else [x.M.name])) := by show _ = _; conv => lhs; unfold dedL; rw [HMx.out]
              have cr := HCr.out w1 HF1.out
              cases hlv : livB R i with
              | false =>
                have eb : b = true := by rw [HBe.out, hlv]; rfl
                have i0 : ((i : Int) == 0) = false := by
                  have : i ≠ 0 := fun e => by
                    subst e
                    have := deR_live0 L HM.out ci
                    rw [HR.out, hlv] at this
                    cases this
                  simp
                  omega
                have HO2 : Hid (w1.ownsRow w.heap.size 9 1 (.slice oa nl oc) (selL (livB R) ((deLs L m ci).map LnX.B) (i + 1)).length (sRow (selL (livB R) ((deLs L m ci).map LnX.B) (i + 1)))) := by
                  show World.ownsRow _ _ _ _ _ _ _
                  rw [HSel.out, hlv]
                  simp only [Bool.false_eq_true, if_false, List.append_nil]
                  rw [HNL.out]
                  exact HO1.out
                have HG2 : Hid ((dedL R (i + 1)).length = gn + 1) := by show _ = _; rw [HDs.out, hlv, List.length_append, HGN.out]; rfl
                subst eb
                have HFn := hid (HFr.out.trans HF1.out)
                clear hlv cr
                go_wp2_with fail
                go_roundg (N - (i + 1))
                case measure => omega
                case rel => exact ⟨i + 1, by omega, rfl, by go_num, by rw [HG2.out]; go_num, HO2, HFn⟩
              | true =>
                have eb : b = false := by rw [HBe.out, hlv]; rfl
                have iN : ((i : Int) == (N : Int) - 1) = false := by
                  have : i ≠ m + 1 := fun e => by
                    subst e
                    have := deR_liveL L HM.out ci
                    rw [HR.out, hlv] at this
                    cases this
                  have := HN.out
                  simp
                  omega
                have HG2 : Hid ((dedL R (i + 1)).length = gn) := by show _ = _; rw [HDs.out, hlv, List.length_append, HGN.out]; rfl
                have HS2 : Hid (selL (livB R) ((deLs L m ci).map LnX.B) (i + 1) = selL (livB R) ((deLs L m ci).map LnX.B) i ++ [x.B]) := by show _ = _; rw [HSel.out, hlv]; rfl
                subst eb
                have HFn := hid (HFr.out.trans HF1.out)
                generalize x.B = XB at *
                clear hlv
                go_wp2_with (at_builtin; refine wpList_append_lies _ rfl (.tmp 90) (.tmp 95) 25 rfl w.heap.size 9 ij _ 1 16 Tryz.underlying25 hj' hy0 hy1 hy2 rfl (by decide) (.slice oa nl oc) nl (sRow (selL (livB R) ((deLs L m ci).map LnX.B) i)) rfl ?h1 ⟨w1.heap.size, 0, none⟩ 1 1 [.string XB] rfl rfl ?h2 ?h3 (by decide) ?h4 ?h5 ?h6 _ rfl ?h7)
                case h1 => exact HO1.out.alloc _
                try case h2 => exact World.news_of_block (heap_alloc_new w1 (.cells #[.string XB] 9))
                case h3 => simp [Value.oneCell']
                case h4 => unfold maxLen; omega
                case h5 => omega
                case h6 => have := HFn.out.size; simp; omega
                case h7 =>
                  intro g2 cap2 w8 hown hgrow hor _
                  have HF8 := hid ((HFn.out.alloc _).grown hgrow (fun k hk => Or.inr (HO1.out.lt k hk).1))
                  have HO8 : Hid (w8.ownsRow w.heap.size 9 1 (.slice (some ⟨g2, 0, none⟩) (nl + 1) cap2) (selL (livB R) ((deLs L m ci).map LnX.B) (i + 1)).length (sRow (selL (livB R) ((deLs L m ci).map LnX.B) (i + 1)))) := by
                    show World.ownsRow _ _ _ _ _ _ _
                    rw [HS2.out, List.length_append, HNL.out, show sRow (selL (livB R) ((deLs L m ci).map LnX.B) i ++ [XB]) = sRow (selL (livB R) ((deLs L m ci).map LnX.B) i) ++ [.string XB] from by simp [sRow]]
                    exact hown
                  clear hown hgrow hor cr
                  go_wp2_with fail
                  go_roundg (N - (i + 1))
                  case measure => omega
                  case rel => exact ⟨i + 1, by omega, rfl, by go_num, by rw [HG2.out], HO8, HF8⟩
    · have hki : ¬ (i : Int) < (N : Int) := by omega
      have ei : i = N := by omega
      have HEi := hid ei
      clear ei hlt
      go_wp2_with fail
      have eN : R.length = N := by rw [← HR.out, deR_len, HN.out]
      have eD : (dedL R i).length = dn := by rw [HEi.out, ← eN, ← HDn.out, HR.out]; rfl
      have eS : selL (livB R) ((deLs L m ci).map LnX.B) i = (lefLs L m ci).map LnX.B := by
        rw [HEi.out, HN.out, ← HR.out]
        unfold lefLs
        rw [selL_map]
      obtain ⟨ls, hls⟩ : ∃ ls, (lefLs L m ci).map LnX.B = ls := ⟨_, rfl⟩
      have hown := HO.out
      rw [eS, hls] at hown
      obtain ⟨ln, hln⟩ : ∃ n, ls.length = n := ⟨_, rfl⟩
      rw [hln] at hown
      rw [eD, eS, hls, hln]
      refine H0.out _ _ ?_
      have hsub : (lefLs L m ci).Sublist (deLs L m ci) := (selL_sub _ _ _).trans (List.take_sublist _ _)
      have hb := readM_book (deR_read L HM.out ci)
      have ha := readM_ar (deR_read L HM.out ci)
      have hb' := readM_book (left_read L HM.out ci)
      have ha' := readM_ar (left_read L HM.out ci)
      exact dead_tail31 w0 wr T (deR L m ci) (lefR (deR L m ci)) da dn dc oa ln oc ls pa pn pc pl (HF.out.trans HFr.out) (HT.out.fr HFr.out) (by rw [← hln] at hown; exact strsAt_row hown) hln (by rw [← hln, ← hls, List.length_map]; have := hsub.length_le; rw [deLs_len] at this; have := HM.out; omega)
        (fun b hbm => by
          rw [← hls] at hbm
          obtain ⟨y, hy, rfl⟩ := List.mem_map.1 hbm
          unfold LnX.B
          rw [bs_size]
          exact (deLs_ok L HM.out ci y (hsub.subset hy)).sz)
        (by rw [← hls]; exact left_read L HM.out ci) (fun p hp => left_dec hb ha p _ hp) (left_dead hb ha hb' ha') HPL.out.1 (HPL.out.2.1.fr HFr.out) HPL.out.2.2 _ _ _ _ _ _ _ _ _ _ _ _ _ _ _ _ _ _ _ _ _ _ _ _ _ _ _ _ _ _ _ _ _ _ _ _ _ _ _ _ _ _ _ _ _ _ _ _ _ _ _ _ _ _ _ _ _ _ _ _ _ _ _ _ _ _ _ _ _ _ _ _ _ _ _ _ _ _ _ _ _ _ _ _ _ _ _ _ _ _ _ _ _ _ _ _ _ _ _ _ _ _ _ _ _ _ _ _ _ _ _ _ _ _ _ _ _ _ _ _ _ _ _ _ _ _ _ _ _ _ _ _ _ _ _ _ _
end Go.Proofs.YtccikgogjfbpeaaGreat
