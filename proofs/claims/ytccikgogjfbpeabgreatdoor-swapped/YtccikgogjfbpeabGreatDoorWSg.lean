/- The keep Swapped: from the image that is put on. The keep Swapped: rules with a fault change nothing. -/
import Derived.Test.YtccikgogjfbpeabGreatDoorWHa
import Derived.Test.YtccikgogjfbpeabGreatDoorWSe
namespace Go.Proofs.YtccikgogjfbpeabGreatDoor
open Go.RowKit Go.Maps Go.WideMaps
def headOf (n : Nat) : Code -> Bool
 | .region m _ _ => m == n
 | .seq a _ => headOf n a
 | _ => false
def restOf (n : Nat) : Code -> Option Code
 | .seq a b => if headOf n a then some (.seq a b) else restOf n b
 | _ => none
def restFrom (f : Func) (n : Nat) : Code := (f.body.bind (restOf n)).getD .skip
def nb : ByteArray := ⟨#[98]⟩
def na : ByteArray := ⟨#[97]⟩
theorem strs_one (W : World) (s : ByteArray) : StrsAt (W.alloc (.cells #[.string s] 9)) (some ⟨W.heap.size, 0, none⟩) [s] := fun k x hk => by
 cases k with
 | zero =>
  injection hk with hk
  subst hk
  exact ⟨_, 0, rfl, block_cell (heap_alloc_new W _) 0 _ rfl⟩
 | succ k => simp at hk
theorem TzAt.decide1 {H : Nat} {w : World} {T : Nat} {t : TrD} {rts : List RouteM} {R : List RuleM} (h : TzAt H w T t) (hd : Dcs t rts R) (s : ByteArray) (p : PayM) (hs : p.pan.size <= maxLen) :
  Calls Tryz.prog 7 #[.pointer (some ⟨T, 0, none⟩), payV p, .slice (some ⟨w.heap.size, 0, none⟩) 1 1] (w.alloc (.cells #[.string s] 9)) fun e w' => e = .returned (outV (decM rts R p (dnF rts [s]))) /\ F0 w w' := by
 have hfa : F0 w (w.alloc (.cells #[.string s] 9)) := (Fr.refl _ _).alloc _
 have e := (h.fr hfa (by simp)).decide hd (some ⟨w.heap.size, 0, none⟩) 1 [s] (strs_one w s) (by unfold maxLen; simp) p hs
 exact e.mono (by rintro e w' ⟨rfl, hf⟩; exact ⟨rfl, hfa.trans hf⟩)
set_option maxRecDepth 1000000 in
set_option maxHeartbeats 8000000 in
theorem swapped_tail28 (w0 w : World) (H X M TT n T2 P Ow : Nat) (t : TrD) (R1 R2 : List RuleM) (p : PayM) (Wi S : ByteArray) (bd : List UInt8) (cu : Int) (hcu : InI cu) (hF : F0 w0 w) (hHs : Hal w0) (hH : H <= w.heap.size) (hX : X < H) (hM : M < H) (hX0 : w0.heap.size <= X) (hM0 : w0.heap.size <= M)
  (hS : SwM w X M TT n (dnP nb)) (hT : TyAt H w TT t) (hd : Dcs t rts3 R1) (hU : TzAt H w T2 (grownT rts3 R2)) (hb2 : BookOk rts3 R2) (hp : payOk p = true) (hpz : p.pan.size <= 19) (hc3 : p.cur <= 3) (hPb : w.heap[P]? = some (payO p)) (hPH : H <= P) (hW : Wi = wireP p) (hOw : w.heap[Ow]? = some (oK (decM rts3 R1 p (dnF rts3 [nb])))) (hOH : H <= Ow)
  (hOp : openM S.data.toList = some bd) (hLd : loadM S.data.toList = some (normT (grownT rts3 R2)))
  (t0 t1 t2 t3 t5 t6 t7 t8 t9 t10 t11 t13 t14 t18 t19 t20 t21 t22 t23 t24 t25 t28 t29 t30 t31 t32 t33 t34 t35 t36 t37 t38 t39 t40 t41 t42 t43 t44 t45 t46 t47 t48 t49 t50 t51 t52 t53 t54 t55 t56 t57 t58 t59 t60 t61 t62 t63 t64 t65 t66 t67 t68 t69 t70 t71 t72 t73 t74 t75 t76 t77 t78 t79 t80 t81 t82 t83 t84 t85 t86 t87 t88 t89 t90 t91 t92 t93 t94 t95 t96 t97 t98 t99 t100 t101 t102 t103 t104 t105 t106 t107 t108 t109 t110 t111 t112 t113 t114 t115 t116 t117 t118 t119 t120 t121 t122 t123 t124 t125 t126 t127 t128 t129 t130 t131 t132 t133 t134 t135 t136 t137 t138 t139 t140 t141 t142 t143 t144 t145 t146 t147 t148 t149 t150 t151 t152 t153 t154 t155 t156 t157 t158 t159 t160 t161 t162 t163 t164 t165 t166 t167 t168 t169 t170 t171 t172 t173 t174 t175 t176 t177 t178 t179 t180 t181 t182 t183 t184 t185 t186 t187 t188 t189 t190 t191 t192 t193 t194 t195 t196 t197 t198 t199 t200 t201 t202 t203 t204 t205 t206 t207 t208 t209 t210 t211 t212 t213 t214 t215 t216 t217 t218 t219 t220 t221 t222 t223 t224 t225 t226 t227 t228 t229 t230 t231 t232 t233 t234 t235 t236 t237 t238 t239 t240 t241 t242 t243 t244 t245 t246 t247 t248 t249 t250 t251 t252 : Value) :
  Code.wp Tryz.prog (restFrom Tryz.f4 28) (bodyPost Tryz.prog Tryz.f4 fun e w' => e = .returned (.bool true) /\ F0 w0 w') ⟨#[t0, t1, t2, t3, .int .i64 cu, t5, t6, t7, t8, t9, t10, t11, .pointer (some ⟨X, 0, none⟩), t13, t14, .pointer (some ⟨T2, 0, none⟩), .pointer (some ⟨P, 0, none⟩), .string Wi, t18, t19, t20, t21, t22, t23, t24, t25, .pointer (some ⟨Ow, 0, none⟩), .string S, t28, t29, t30, t31, t32, t33, t34, t35, t36, t37, t38, t39, t40, t41, t42, t43, t44, t45, t46, t47, t48, t49, t50, t51, t52, t53, t54, t55, t56, t57, t58, t59, t60, t61, t62, t63, t64, t65, t66, t67, t68, t69, t70, t71, t72, t73, t74, t75, t76, t77, t78, t79, t80, t81, t82, t83, t84, t85, t86, t87, t88, t89, t90, t91, t92, t93, t94, t95, t96, t97, t98, t99, t100, t101, t102, t103, t104, t105, t106, t107, t108, t109, t110, t111, t112, t113, t114, t115, t116, t117, t118, t119, t120, t121, t122, t123, t124, t125, t126, t127, t128, t129, t130, t131, t132, t133, t134, t135, t136, t137, t138, t139, t140, t141, t142, t143, t144, t145, t146, t147, t148, t149, t150, t151, t152, t153, t154, t155, t156, t157, t158, t159, t160, t161, t162, t163, t164, t165, t166, t167, t168, t169, t170, t171, t172, t173, t174, t175, t176, t177, t178, t179, t180, t181, t182, t183, t184, t185, t186, t187, t188, t189, t190, t191, t192, t193, t194, t195, t196, t197, t198, t199, t200, t201, t202, t203, t204, t205, t206, t207, t208, t209, t210, t211, t212, t213, t214, t215, t216, t217, t218, t219, t220, t221, t222, t223, t224, t225, t226, t227, t228, t229, t230, t231, t232, t233, t234, t235, t236, t237, t238, t239, t240, t241, t242, t243, t244, t245, t246, t247, t248, t249, t250, t251, t252], []⟩ w := by
 conv => arg 2; whnf
 obtain ⟨o1, o2, _, _⟩ := open_some hOp
 have hSl : S.data.toList.length = S.size := by simp
 rw [hSl] at o1 o2
 have HPk : Hid (∀ (c nv : Int) (n : Nat) (w : World), InI c -> nv = n -> 0 < n -> n <= 10000000000 -> Calls Tryz.prog 23 #[.int .i64 c, .int .i64 nv] w fun e w' => e = .returned (.int .i64 (pickK c n)) /\ w' = w) := fun c nv n w h e h3 h4 => by subst e; exact kpick_any c n w h.1 h.2 h3 h4
 have HCut : Hid (∀ k, k < S.size -> loadM (S.data.toList.take k) = none) := fun k hk => by unfold loadM; rw [cut_none hOp (by rw [hSl]; exact hk)]
 have HLm := hid hLd
 have HOk := hid (load_ok hLd)
 obtain ⟨⟨wk, e1, e2⟩, hD1⟩ : ∃ o, decM rts3 R1 p (dnF rts3 [nb]) = o := ⟨_, rfl⟩
 obtain ⟨⟨lk, l1, l2⟩, hD2⟩ : ∃ o, decM rts3 R2 p (dnF rts3 [nb]) = o := ⟨_, rfl⟩
 obtain ⟨⟨qk, q1, q2⟩, hD3⟩ : ∃ o, decM rts3 R2 p (dnF rts3 []) = o := ⟨_, rfl⟩
 rw [hD1] at hOw
 unfold oK at hOw
 dsimp only at hOw
 have HHa : Hid (∀ W, SwM W X M TT n (dnP nb) -> TyAt H W TT t -> Calls Tryz.prog 17 #[.pointer (some ⟨X, 0, none⟩), .string Wi] W fun e w' => e = .returned (.agg #[.int .i64 (wk : Nat), .string e1, .string e2]) /\ F0 W w') := fun W h1 h2 => by
  have e := Handle_p W X M TT n H (dnP nb) t rts3 R1 p h1 h2 hd hp
  rw [dnW_P, hD1, <- hW] at e
  exact e
 have HHb : Hid (∀ W TN, SwM W X M TN n (dnP nb) -> TyAt H W TN (normT (grownT rts3 R2)) -> Calls Tryz.prog 17 #[.pointer (some ⟨X, 0, none⟩), .string Wi] W fun e w' => e = .returned (.agg #[.int .i64 (lk : Nat), .string l1, .string l2]) /\ F0 W w') := fun W TN h1 h2 => by
  have e := Handle_p W X M TN n H (dnP nb) _ rts3 R2 p h1 h2 (norm_dcs hb2 HOk.o) hp
  rw [dnW_P, hD2, <- hW] at e
  exact e
 have HHc : Hid (∀ W TN, SwM W X M TN n ((dnP nb).del (.string nb.data.toList)) -> TyAt H W TN (normT (grownT rts3 R2)) -> Calls Tryz.prog 17 #[.pointer (some ⟨X, 0, none⟩), .string Wi] W fun e w' => e = .returned (.agg #[.int .i64 (qk : Nat), .string q1, .string q2]) /\ F0 W w') := fun W TN h1 h2 => by
  have e := Handle_p W X M TN n H _ _ rts3 R2 p h1 h2 (norm_dcs hb2 HOk.o) hp
  rw [dnW_O rts3 (dnD_has nb), hD3, <- hW] at e
  exact e
 have HH5 : Hid (∀ W TN, SwM W X M TN n ((dnP nb).del (.string nb.data.toList)) -> TyAt H W TN (normT (grownT rts3 R2)) -> Calls Tryz.prog 17 #[.pointer (some ⟨X, 0, none⟩), .string (((⟨#[48]⟩ : ByteArray) ++ Wi) ++ ⟨#[48]⟩)] W fun e w' => (∃ o, e = .returned (outV o) /\ (p.pan.size = 19 -> o.1 = 1)) /\ F0 W w') := fun W TN h1 h2 => by
  have e := Handle_5 W X M TN n H _ _ rts3 R2 p h1 h2 (norm_dcs hb2 HOk.o) hp hc3
  rw [<- hW] at e
  exact e
 have hpm : p.pan.size <= maxLen := by unfold maxLen; omega
 have HDb : Hid (∀ W, TzAt H W T2 (grownT rts3 R2) -> Calls Tryz.prog 7 #[.pointer (some ⟨T2, 0, none⟩), .agg #[.string p.pan, .int .i64 p.mcc, .int .i64 p.am, .int .i64 p.cur], .slice (some ⟨W.heap.size, 0, none⟩) 1 1] (W.alloc (.cells #[.string ⟨#[98]⟩] 9)) fun e w' => e = .returned (.agg #[.int .i64 (lk : Nat), .string l1, .string l2]) /\ F0 W w') := fun W h => by
  have e := h.decide1 (grown_dcs hb2) nb p hpm
  rw [hD2] at e
  exact e
 have HDn : Hid (∀ W, TzAt H W T2 (grownT rts3 R2) -> Calls Tryz.prog 7 #[.pointer (some ⟨T2, 0, none⟩), .agg #[.string p.pan, .int .i64 p.mcc, .int .i64 p.am, .int .i64 p.cur], .slice none 0 0] W fun e w' => e = .returned (.agg #[.int .i64 (qk : Nat), .string q1, .string q2]) /\ F0 W w') := fun W h => by
  have e := h.decide (grown_dcs hb2) none 0 [] (strsAt_nil W) (by unfold maxLen; simp) p hpm
  rw [hD3] at e
  exact e
 have hWs : Wi.size <= 1000 := by
  rw [hW]
  unfold wireP
  obtain ⟨d1, d2, d3⟩ := pay_DW hp
  have := (pan_no (pay_rng hp).1).2.2
  have := d1.2.1
  have := d2.2.1
  have := d3.2.1
  rw [bs_size]
  unfold wireL
  simp only [List.length_append, List.length_cons]
  omega
 have HI := hid hcu
 have HF := hid hF
 have HHs := hid hHs
 have HSw := hid hS
 have HTy := hid hT
 have HU := hid hU
 have HPb : Hid (w.heap[P]? = some (.cells #[.string p.pan, .int .i64 p.mcc, .int .i64 p.am, .int .i64 p.cur] 24)) := hPb
 have HOw := hid hOw
 have HBd : Hid (H <= w.heap.size /\ X < H /\ M < H /\ w0.heap.size <= X /\ w0.heap.size <= M /\ H <= P /\ H <= Ow) := ⟨hH, hX, hM, hX0, hM0, hPH, hOH⟩
 clear hcu hF hHs hH hX hM hX0 hM0 hS hT hd hU hb2 hp hc3 hPb hPH hW hOw hOH hOp hLd hSl hD1 hD2 hD3 hpm
 go_wp2_with fail
 refine (HPk.o cu _ S.size _ HI.o rfl (by omega) (by omega)).mono ?_
 rintro e w' ⟨rfl, he⟩
 replace he := he.symm
 subst he
 obtain ⟨k, hk⟩ : ∃ k, pickK cu S.size = k := ⟨_, rfl⟩
 have hkn : k < S.size := by rw [<- hk]; exact pickK_lt _ _ (by omega)
 have hki : (k : Int) <= (S.size : Int) := by omega
 rw [hk]
 clear hk
 have HPn := hid (Put_none w X (S.extract 0 k) (by rw [ByteArray.size_extract]; omega) (by rw [ext_list, List.drop_zero]; exact HCut.o k hkn) (HHs.o.fr HF.o))
 go_wp2_with fail
 refine HPn.o.mono ?_
 rintro e w1 ⟨rfl, hf1⟩
 have HF1 := hid hf1
 clear hf1 HPn hki
 go_wp2_with fail
 refine (HHa.o w1 (HSw.o.fr HF1.o (by simp) (by simp)) (HTy.o.fr HF1.o (by simp))).mono ?_
 rintro e v1 ⟨rfl, hf⟩
 have HFA : Hid (F0 w1 (v1.alloc (.cells #[.int .i64 (wk : Nat), .string e1, .string e2] 30))) := hf.alloc _
 have HBA := hid (heap_alloc_new v1 (.cells #[.int .i64 (wk : Nat), .string e1, .string e2] 30))
 have HLA : Hid (w1.heap.size <= v1.heap.size) := hf.size
 clear hf
 go_upto_region 30 with fail
 generalize v1.alloc _ = wA at *
 generalize v1.heap.size = OA at *
 have HFa := hid (HF1.o.trans HFA.o)
 have HPs := hid (Put_some wA X M TT n (dnP nb) S _ (HSw.o.fr HFa.o (by simp) (by simp)) (by omega) HLm.o (HHs.o.fr (HF.o.trans HFa.o)))
 go_wp2_with fail
 refine HPs.o.mono ?_
 rintro e w3 ⟨rfl, ⟨TN, hS3, hT3⟩, hf3⟩
 have hH := HBd.o
 have HS3 := hid hS3
 have HT3 := hid (hT3.lo (K := H) (Nat.le_trans hH.1 HFa.o.size))
 have HG3 : Hid (Fr (fun k => k < H) wA w3) := hf3.mono (fun k hk => by show k < H; rw [hk]; exact hH.2.1)
 have HZ3 : Hid (F0 w0 w3) := (HF.o.trans HFa.o).monoNew hf3 (fun k hk => Or.inr (by rw [hk]; exact hH.2.2.2.1))
 have HU3 := hid ((HU.o.fr HFa.o (by simp)).fr HG3.o (fun k hk => hk))
 clear hS3 hT3 hf3 HPs hH
 go_wp2_with fail
 refine (HHb.o w3 TN HS3.o HT3.o).mono ?_
 rintro e v4 ⟨rfl, hf⟩
 have HFB : Hid (F0 w3 (v4.alloc (.cells #[.int .i64 (lk : Nat), .string l1, .string l2] 30))) := hf.alloc _
 have HBB := hid (heap_alloc_new v4 (.cells #[.int .i64 (lk : Nat), .string l1, .string l2] 30))
 have HLB : Hid (w3.heap.size <= v4.heap.size) := hf.size
 clear hf
 go_upto_region 32 with fail
 generalize v4.alloc _ = wB at *
 generalize v4.heap.size = OB at *
 have HPB : Hid (wB.heap[P]? = some (.cells #[.string p.pan, .int .i64 p.mcc, .int .i64 p.am, .int .i64 p.cur] 24)) := HFB.o.whole (HG3.o.whole (HFa.o.whole HPb.o (by simp)) (by have := HBd.o; show ¬ P < H; omega)) (by simp)
 have y0 := block_cell HPB.o 0 _ rfl
 have y1 := block_cell HPB.o 1 _ rfl
 have y2 := block_cell HPB.o 2 _ rfl
 have y3 := block_cell HPB.o 3 _ rfl
 have hPw : P < wB.heap.size := (Array.getElem?_eq_some_iff.1 HPB.o).1
 go_wp2_with fail
 refine (HDb.o wB (HU3.o.fr HFB.o (by simp))).mono ?_
 rintro e v5 ⟨rfl, hf⟩
 have HFC : Hid (F0 wB (v5.alloc (.cells #[.int .i64 (lk : Nat), .string l1, .string l2] 30))) := hf.alloc _
 have HBC := hid (heap_alloc_new v5 (.cells #[.int .i64 (lk : Nat), .string l1, .string l2] 30))
 have HLC : Hid (wB.heap.size <= v5.heap.size) := hf.size
 clear hf
 go_upto_region 33 with fail
 generalize v5.alloc _ = wC at *
 generalize v5.heap.size = OC at *
 clear y0 y1 y2 y3 hPw
 have HFbc := hid (HFB.o.trans HFC.o)
 have HSt := hid (Set_up wC X M TN n (dnP nb) nb (HS3.o.fr HFbc.o (by simp) (by simp)) (by show 1 <= maxLen; unfold maxLen; omega))
 unfold nb at HSt
 go_wp2_with fail
 refine HSt.o.mono ?_
 rintro e w6 ⟨rfl, hS6, hf6⟩
 have hH := HBd.o
 have HS6 : Hid (SwM w6 X M TN n ((dnP nb).del (.string nb.data.toList))) := hS6
 have HG6 : Hid (Fr (fun k => k < H) wC w6) := hf6.mono (fun k hk => by show k < H; rw [hk]; exact hH.2.2.1)
 have HZ6 : Hid (F0 w0 w6) := (HZ3.o.trans HFbc.o).monoNew hf6 (fun k hk => Or.inr (by rw [hk]; exact hH.2.2.2.2.1))
 have HT6 := hid ((HT3.o.fr HFbc.o (by simp)).fr HG6.o (fun k hk => hk))
 have HU6 := hid ((HU3.o.fr HFbc.o (by simp)).fr HG6.o (fun k hk => hk))
 clear hS6 hf6 HSt hH
 have hl1 : (⟨#[48]⟩ : ByteArray).size + Wi.size <= 9223372036854775807 := by show 1 + Wi.size <= _; omega
 have hl2 : ((⟨#[48]⟩ : ByteArray) ++ Wi).size + (⟨#[48]⟩ : ByteArray).size <= 9223372036854775807 := by rw [ByteArray.size_append]; show 1 + Wi.size + 1 <= _; omega
 go_wp2_with fail
 refine (HH5.o w6 TN HS6.o HT6.o).mono ?_
 rintro e v7 ⟨⟨⟨fk, f1, f2⟩, rfl, hfk⟩, hf⟩
 have HFk : Hid (p.pan.size = 19 -> fk = 1) := hfk
 unfold outV
 have HFD : Hid (F0 w6 (v7.alloc (.cells #[.int .i64 (fk : Nat), .string f1, .string f2] 30))) := hf.alloc _
 have HBD := hid (heap_alloc_new v7 (.cells #[.int .i64 (fk : Nat), .string f1, .string f2] 30))
 have HLD : Hid (w6.heap.size <= v7.heap.size) := hf.size
 clear hf hfk hl1 hl2
 go_upto_region 35 with fail
 generalize v7.alloc _ = wD at *
 generalize v7.heap.size = OD at *
 go_wp2_with fail
 refine (HHc.o wD TN (HS6.o.fr HFD.o (by simp) (by simp)) (HT6.o.fr HFD.o (by simp))).mono ?_
 rintro e v8 ⟨rfl, hf⟩
 have HFE : Hid (F0 wD (v8.alloc (.cells #[.int .i64 (qk : Nat), .string q1, .string q2] 30))) := hf.alloc _
 have HBE := hid (heap_alloc_new v8 (.cells #[.int .i64 (qk : Nat), .string q1, .string q2] 30))
 have HLE : Hid (wD.heap.size <= v8.heap.size) := hf.size
 clear hf
 go_upto_region 36 with fail
 generalize v8.alloc _ = wE at *
 generalize v8.heap.size = OE at *
 have HFde := hid (HFD.o.trans HFE.o)
 have HPE : Hid (wE.heap[P]? = some (.cells #[.string p.pan, .int .i64 p.mcc, .int .i64 p.am, .int .i64 p.cur] 24)) := HFde.o.whole (HG6.o.whole (HFC.o.whole HPB.o (by simp)) (by have := HBd.o; show ¬ P < H; omega)) (by simp)
 have y0 := block_cell HPE.o 0 _ rfl
 have y1 := block_cell HPE.o 1 _ rfl
 have y2 := block_cell HPE.o 2 _ rfl
 have y3 := block_cell HPE.o 3 _ rfl
 go_wp2_with fail
 refine (HDn.o wE (HU6.o.fr HFde.o (by simp))).mono ?_
 rintro e v9 ⟨rfl, hf⟩
 have HFF : Hid (F0 wE (v9.alloc (.cells #[.int .i64 (qk : Nat), .string q1, .string q2] 30))) := hf.alloc _
 have HBF := hid (heap_alloc_new v9 (.cells #[.int .i64 (qk : Nat), .string q1, .string q2] 30))
 have HLF : Hid (wE.heap.size <= v9.heap.size) := hf.size
 clear hf
 go_upto_region 37 with fail
 generalize v9.alloc _ = wF at *
 generalize v9.heap.size = OF at *
 clear y0 y1 y2 y3
 have hH := HBd.o
 have k6 : Fr (fun k => k < H) w6 wF := (HFde.o.trans HFF.o).mono (by simp)
 have kC := HG6.o.trans k6
 have kB := (HFC.o.mono (by simp)).trans kC
 have k3 := (HFB.o.mono (by simp)).trans kB
 have kA := HG3.o.trans k3
 have kw := (HFa.o.mono (by simp)).trans kA
 have nA : ¬ OA < H := by have := HLA.o; have := HF1.o.size; omega
 have nB : ¬ OB < H := by have := HLB.o; have := HG3.o.size; have := HFa.o.size; omega
 have nC : ¬ OC < H := by have := HLC.o; have := HFB.o.size; have := HG3.o.size; have := HFa.o.size; omega
 have bw := kw.whole HOw.o (by show ¬ Ow < H; omega)
 have bA := kA.whole HBA.o nA
 have bB := kB.whole HBB.o nB
 have bC := kC.whole HBC.o nC
 have bD := (HFE.o.trans HFF.o).whole HBD.o (by simp)
 have bE := HFF.o.whole HBE.o (by simp)
 have bF := HBF.o
 have bP := HFF.o.whole HPE.o (by simp)
 have cw0 := block_cell bw 0 _ rfl
 have cw1 := block_cell bw 1 _ rfl
 have cw2 := block_cell bw 2 _ rfl
 have cA0 := block_cell bA 0 _ rfl
 have cA1 := block_cell bA 1 _ rfl
 have cA2 := block_cell bA 2 _ rfl
 have cB0 := block_cell bB 0 _ rfl
 have cB1 := block_cell bB 1 _ rfl
 have cB2 := block_cell bB 2 _ rfl
 have cC0 := block_cell bC 0 _ rfl
 have cC1 := block_cell bC 1 _ rfl
 have cC2 := block_cell bC 2 _ rfl
 have cE0 := block_cell bE 0 _ rfl
 have cE1 := block_cell bE 1 _ rfl
 have cE2 := block_cell bE 2 _ rfl
 have cF0 := block_cell bF 0 _ rfl
 have cF1 := block_cell bF 1 _ rfl
 have cF2 := block_cell bF 2 _ rfl
 have cD0 := block_cell bD 0 _ rfl
 have cP0 := block_cell bP 0 _ rfl
 have HZF : Hid (F0 w0 wF) := HZ6.o.trans (HFde.o.trans HFF.o)
 clear k6 kC kB k3 kA kw nA nB nC bw bA bB bC bD bE bF bP hH
 by_cases hk1 : fk = 1
 ·subst hk1
  go_wp2_with fail
  go_ret
  exact ⟨rfl, HZF.o⟩
 ·have hlt : (p.pan.size : Int) < 19 := by
   have : p.pan.size ≠ 19 := fun e => hk1 (HFk.o e)
   omega
  have h5 : ((fk : Int) == 1) = false := by simp; omega
  have h6 : ¬ (fk : Int) = 1 := by omega
  go_wp2_with fail
  go_ret
  exact ⟨rfl, HZF.o⟩
end Go.Proofs.YtccikgogjfbpeabGreatDoor

namespace Go.Proofs.YtccikgogjfbpeabGreatDoor
open Go.RowKit Go.Maps Go.WideMaps
set_option maxRecDepth 1000000 in
set_option maxHeartbeats 8000000 in
theorem swapped_tail22 (w0 w : World) (H X M TT n T2 P Ow : Nat) (t : TrD) (R1 R2 : List RuleM) (p : PayM) (Wi S : ByteArray) (bd : List UInt8) (Bd : ByteArray) (cu : Int) (hcu : InI cu) (hF : F0 w0 w) (hHs : Hal w0) (hH : H <= w.heap.size) (hX : X < H) (hM : M < H) (hX0 : w0.heap.size <= X) (hM0 : w0.heap.size <= M)
  (hS : SwM w X M TT n (dnP nb)) (hT : TyAt H w TT t) (hd : Dcs t rts3 R1) (hU : TzAt H w T2 (grownT rts3 R2)) (hb2 : BookOk rts3 R2) (hp : payOk p = true) (hpz : p.pan.size <= 19) (hc3 : p.cur <= 3) (hPb : w.heap[P]? = some (payO p)) (hPH : H <= P) (hW : Wi = wireP p) (hOw : w.heap[Ow]? = some (oK (decM rts3 R1 p (dnF rts3 [nb])))) (hOH : H <= Ow)
  (hOp : openM S.data.toList = some bd) (hLd : loadM S.data.toList = some (normT (grownT rts3 R2)))
  (t0 t1 t2 t5 t6 t7 t8 t9 t10 t11 t13 t14 t18 t19 t20 t21 t22 t23 t24 t25 t28 t29 t30 t31 t32 t33 t34 t35 t36 t37 t38 t39 t40 t41 t42 t43 t44 t45 t46 t47 t48 t49 t50 t51 t52 t53 t54 t55 t56 t57 t58 t59 t60 t61 t62 t63 t64 t65 t66 t67 t68 t69 t70 t71 t72 t73 t74 t75 t76 t77 t78 t79 t80 t81 t82 t83 t84 t85 t86 t87 t88 t89 t90 t91 t92 t93 t94 t95 t96 t97 t98 t99 t100 t101 t102 t103 t104 t105 t106 t107 t108 t109 t110 t111 t112 t113 t114 t115 t116 t117 t118 t119 t120 t121 t122 t123 t124 t125 t126 t127 t128 t129 t130 t131 t132 t133 t134 t135 t136 t137 t138 t139 t140 t141 t142 t143 t144 t145 t146 t147 t148 t149 t150 t151 t152 t153 t154 t155 t156 t157 t158 t159 t160 t161 t162 t163 t164 t165 t166 t167 t168 t169 t170 t171 t172 t173 t174 t175 t176 t177 t178 t179 t180 t181 t182 t183 t184 t185 t186 t187 t188 t189 t190 t191 t192 t193 t194 t195 t196 t197 t198 t199 t200 t201 t202 t203 t204 t205 t206 t207 t208 t209 t210 t211 t212 t213 t214 t215 t216 t217 t218 t219 t220 t221 t222 t223 t224 t225 t226 t227 t228 t229 t230 t231 t232 t233 t234 t235 t236 t237 t238 t239 t240 t241 t242 t243 t244 t245 t246 t247 t248 t249 t250 t251 t252 : Value) :
  Code.wp Tryz.prog (restFrom Tryz.f4 22) (bodyPost Tryz.prog Tryz.f4 fun e w' => e = .returned (.bool true) /\ F0 w0 w') ⟨#[t0, t1, t2, .string Bd, .int .i64 cu, t5, t6, t7, t8, t9, t10, t11, .pointer (some ⟨X, 0, none⟩), t13, t14, .pointer (some ⟨T2, 0, none⟩), .pointer (some ⟨P, 0, none⟩), .string Wi, t18, t19, t20, t21, t22, t23, t24, t25, .pointer (some ⟨Ow, 0, none⟩), .string S, t28, t29, t30, t31, t32, t33, t34, t35, t36, t37, t38, t39, t40, t41, t42, t43, t44, t45, t46, t47, t48, t49, t50, t51, t52, t53, t54, t55, t56, t57, t58, t59, t60, t61, t62, t63, t64, t65, t66, t67, t68, t69, t70, t71, t72, t73, t74, t75, t76, t77, t78, t79, t80, t81, t82, t83, t84, t85, t86, t87, t88, t89, t90, t91, t92, t93, t94, t95, t96, t97, t98, t99, t100, t101, t102, t103, t104, t105, t106, t107, t108, t109, t110, t111, t112, t113, t114, t115, t116, t117, t118, t119, t120, t121, t122, t123, t124, t125, t126, t127, t128, t129, t130, t131, t132, t133, t134, t135, t136, t137, t138, t139, t140, t141, t142, t143, t144, t145, t146, t147, t148, t149, t150, t151, t152, t153, t154, t155, t156, t157, t158, t159, t160, t161, t162, t163, t164, t165, t166, t167, t168, t169, t170, t171, t172, t173, t174, t175, t176, t177, t178, t179, t180, t181, t182, t183, t184, t185, t186, t187, t188, t189, t190, t191, t192, t193, t194, t195, t196, t197, t198, t199, t200, t201, t202, t203, t204, t205, t206, t207, t208, t209, t210, t211, t212, t213, t214, t215, t216, t217, t218, t219, t220, t221, t222, t223, t224, t225, t226, t227, t228, t229, t230, t231, t232, t233, t234, t235, t236, t237, t238, t239, t240, t241, t242, t243, t244, t245, t246, t247, t248, t249, t250, t251, t252], []⟩ w := by
 conv => arg 2; whnf
 obtain ⟨⟨wk, e1, e2⟩, hD1⟩ : ∃ o, decM rts3 R1 p (dnF rts3 [nb]) = o := ⟨_, rfl⟩
 have HHa : Hid (∀ W, SwM W X M TT n (dnP nb) -> TyAt H W TT t -> Calls Tryz.prog 17 #[.pointer (some ⟨X, 0, none⟩), .string Wi] W fun e w' => e = .returned (.agg #[.int .i64 (wk : Nat), .string e1, .string e2]) /\ F0 W w') := fun W h1 h2 => by
  have e := Handle_p W X M TT n H (dnP nb) t rts3 R1 p h1 h2 hd hp
  rw [dnW_P, hD1, <- hW] at e
  exact e
 have HOw : Hid (w.heap[Ow]? = some (.cells #[.int .i64 (wk : Nat), .string e1, .string e2] 30)) := by rw [hD1] at hOw; exact hOw
 have HTl : Hid (∀ wx, F0 w wx -> ∀ (t0 t1 t2 t3 t5 t6 t7 t8 t9 t10 t11 t13 t14 t18 t19 t20 t21 t22 t23 t24 t25 t28 t29 t30 t31 t32 t33 t34 t35 t36 t37 t38 t39 t40 t41 t42 t43 t44 t45 t46 t47 t48 t49 t50 t51 t52 t53 t54 t55 t56 t57 t58 t59 t60 t61 t62 t63 t64 t65 t66 t67 t68 t69 t70 t71 t72 t73 t74 t75 t76 t77 t78 t79 t80 t81 t82 t83 t84 t85 t86 t87 t88 t89 t90 t91 t92 t93 t94 t95 t96 t97 t98 t99 t100 t101 t102 t103 t104 t105 t106 t107 t108 t109 t110 t111 t112 t113 t114 t115 t116 t117 t118 t119 t120 t121 t122 t123 t124 t125 t126 t127 t128 t129 t130 t131 t132 t133 t134 t135 t136 t137 t138 t139 t140 t141 t142 t143 t144 t145 t146 t147 t148 t149 t150 t151 t152 t153 t154 t155 t156 t157 t158 t159 t160 t161 t162 t163 t164 t165 t166 t167 t168 t169 t170 t171 t172 t173 t174 t175 t176 t177 t178 t179 t180 t181 t182 t183 t184 t185 t186 t187 t188 t189 t190 t191 t192 t193 t194 t195 t196 t197 t198 t199 t200 t201 t202 t203 t204 t205 t206 t207 t208 t209 t210 t211 t212 t213 t214 t215 t216 t217 t218 t219 t220 t221 t222 t223 t224 t225 t226 t227 t228 t229 t230 t231 t232 t233 t234 t235 t236 t237 t238 t239 t240 t241 t242 t243 t244 t245 t246 t247 t248 t249 t250 t251 t252 : Value), Code.wp Tryz.prog (restFrom Tryz.f4 28) (bodyPost Tryz.prog Tryz.f4 fun e w' => e = .returned (.bool true) /\ F0 w0 w') ⟨#[t0, t1, t2, t3, .int .i64 cu, t5, t6, t7, t8, t9, t10, t11, .pointer (some ⟨X, 0, none⟩), t13, t14, .pointer (some ⟨T2, 0, none⟩), .pointer (some ⟨P, 0, none⟩), .string Wi, t18, t19, t20, t21, t22, t23, t24, t25, .pointer (some ⟨Ow, 0, none⟩), .string S, t28, t29, t30, t31, t32, t33, t34, t35, t36, t37, t38, t39, t40, t41, t42, t43, t44, t45, t46, t47, t48, t49, t50, t51, t52, t53, t54, t55, t56, t57, t58, t59, t60, t61, t62, t63, t64, t65, t66, t67, t68, t69, t70, t71, t72, t73, t74, t75, t76, t77, t78, t79, t80, t81, t82, t83, t84, t85, t86, t87, t88, t89, t90, t91, t92, t93, t94, t95, t96, t97, t98, t99, t100, t101, t102, t103, t104, t105, t106, t107, t108, t109, t110, t111, t112, t113, t114, t115, t116, t117, t118, t119, t120, t121, t122, t123, t124, t125, t126, t127, t128, t129, t130, t131, t132, t133, t134, t135, t136, t137, t138, t139, t140, t141, t142, t143, t144, t145, t146, t147, t148, t149, t150, t151, t152, t153, t154, t155, t156, t157, t158, t159, t160, t161, t162, t163, t164, t165, t166, t167, t168, t169, t170, t171, t172, t173, t174, t175, t176, t177, t178, t179, t180, t181, t182, t183, t184, t185, t186, t187, t188, t189, t190, t191, t192, t193, t194, t195, t196, t197, t198, t199, t200, t201, t202, t203, t204, t205, t206, t207, t208, t209, t210, t211, t212, t213, t214, t215, t216, t217, t218, t219, t220, t221, t222, t223, t224, t225, t226, t227, t228, t229, t230, t231, t232, t233, t234, t235, t236, t237, t238, t239, t240, t241, t242, t243, t244, t245, t246, t247, t248, t249, t250, t251, t252], []⟩ wx) := fun wx hf => swapped_tail28 w0 wx H X M TT n T2 P Ow t R1 R2 p Wi S bd cu hcu (hF.trans hf) hHs (Nat.le_trans hH hf.size) hX hM hX0 hM0 (hS.fr hf (by simp) (by simp)) (hT.fr hf (by simp)) hd (hU.fr hf (by simp)) hb2 hp hpz hc3 (hf.whole hPb (by simp)) hPH hW (hf.whole hOw (by simp)) hOH hOp hLd
 have HSw := hid hS
 have HTy := hid hT
 have HC := hid (Compile_any Bd w)
 have HIe := hid (fun (f : Nat × Nat) W (h : readM Bd = .error f) => Install_err W X Bd f h)
 clear hcu hF hHs hH hX hM hX0 hM0 hS hT hd hU hb2 hp hpz hc3 hPb hPH hW hOw hOH hOp hLd hD1
 go_wp2_with fail
 refine HC.o.mono ?_
 rintro e w1 hP
 have HX : ∃ (q : Option Addr) (fk fl : Nat), e = .returned (.tuple #[.pointer q, .int .i64 (fk : Nat), .int .i64 (fl : Nat)]) /\ Hid (F0 w w1) /\ Hid (fk ≠ 0 -> readM Bd = .error (fk, fl)) := by
  cases hR : readM Bd with
  | ok pr =>
   obtain ⟨⟨T, B, TN, vr, vl, xs, he, _⟩, hbl⟩ := (CPost.ok hR).1 hP
   exact ⟨_, 0, 0, he, Fr.of_below hbl, fun h => absurd rfl h⟩
  | error f =>
   obtain ⟨he, hbl⟩ := (CPost.err hR).1 hP
   exact ⟨none, f.1, f.2, he, Fr.of_below hbl, fun _ => rfl⟩
 obtain ⟨q, fk, fl, rfl, HF1, HE1⟩ := HX
 clear hP HC
 dsimp only
 go_upto_if 170 with fail
 go_cut [] (fun wx => Hid (F0 w wx))
 case first =>
  by_cases h0 : fk = 0
  ·subst h0
   go_wp2_with fail
   go_meet
   exact HF1
  ·have h1 : ((fk : Int) != 0) = true := by simp; omega
   have h2 : ¬ (fk : Int) = 0 := by omega
   go_wp2_with fail
   refine (HIe.o (fk, fl) w1 (HE1.o h0)).mono ?_
   dsimp only
   rintro e w2 ⟨rfl, hf2⟩
   have HF2 := hid (HF1.o.trans hf2)
   clear hf2
   dsimp only
   go_wp2_with fail
   refine (HHa.o w2 (HSw.o.fr HF2.o (by simp) (by simp)) (HTy.o.fr HF2.o (by simp))).mono ?_
   rintro e v3 ⟨rfl, hf⟩
   have HFA : Hid (F0 w2 (v3.alloc (.cells #[.int .i64 (wk : Nat), .string e1, .string e2] 30))) := hf.alloc _
   have HBA := hid (heap_alloc_new v3 (.cells #[.int .i64 (wk : Nat), .string e1, .string e2] 30))
   have HLA : Hid (w2.heap.size <= v3.heap.size) := hf.size
   clear hf
   try dsimp only
   go_upto_region 26 with fail
   generalize v3.alloc _ = wA at *
   generalize v3.heap.size = OA at *
   have bw := (HF2.o.trans HFA.o).whole HOw.o (by simp)
   have cw0 := block_cell bw 0 _ rfl
   have cw1 := block_cell bw 1 _ rfl
   have cw2 := block_cell bw 2 _ rfl
   have cA0 := block_cell HBA.o 0 _ rfl
   have cA1 := block_cell HBA.o 1 _ rfl
   have cA2 := block_cell HBA.o 2 _ rfl
   clear bw
   go_wp2_with fail
   go_meet
   exact HF2.o.trans HFA.o
 case rest =>
  have hq := hcut
  apply_assumption
  exact HTl.o wc hq.o _ _ _ _ _ _ _ _ _ _ _ _ _ _ _ _ _ _ _ _ _ _ _ _ _ _ _ _ _ _ _ _ _ _ _ _ _ _ _ _ _ _ _ _ _ _ _ _ _ _ _ _ _ _ _ _ _ _ _ _ _ _ _ _ _ _ _ _ _ _ _ _ _ _ _ _ _ _ _ _ _ _ _ _ _ _ _ _ _ _ _ _ _ _ _ _ _ _ _ _ _ _ _ _ _ _ _ _ _ _ _ _ _ _ _ _ _ _ _ _ _ _ _ _ _ _ _ _ _ _ _ _ _ _ _ _ _ _ _ _ _ _ _ _ _ _ _ _ _ _ _ _ _ _ _ _ _ _ _ _ _ _ _ _ _ _ _ _ _ _ _ _ _ _ _ _ _ _ _ _ _ _ _ _ _ _ _ _ _ _ _ _ _ _ _ _ _ _ _ _ _ _ _ _ _ _ _ _ _ _ _ _ _ _ _ _ _ _ _ _ _ _ _ _ _ _ _ _ _ _ _ _ _ _ _ _ _ _ _ _ _ _ _ _ _ _
end Go.Proofs.YtccikgogjfbpeabGreatDoor
