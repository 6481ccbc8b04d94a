/- The keep Swapped: two switches, each with its own. -/
import Derived.Test.YtccikgogjfbpeabGreatDoorWHa
import Derived.Test.YtccikgogjfbpeabGreatDoorWSg
namespace Go.Proofs.YtccikgogjfbpeabGreatDoor
open Go.RowKit Go.Maps Go.WideMaps
theorem nb_name : nameB nb = true := nameB_of (w := [98]) (nmL_of rfl (by decide) (by decide) (by decide) (by decide))
theorem na_name : nameB na = true := nameB_of (w := [97]) (nmL_of rfl (by decide) (by decide) (by decide) (by decide))
theorem strsAt_of {w : World} {base : Nat} {v : Value} {n : Nat} {l : List ByteArray} (h : w.ownsRow base 9 1 v n (sRow l)) (hl : l.length = n) : ∃ a c, v = .slice a n c /\ StrsAt w a l := by
 obtain ⟨a, c, e⟩ := ownsRow_len h
 subst e hl
 exact ⟨a, c, rfl, strsAt_row h⟩
theorem rl_small (l : List Int) {m : Nat} (hm : m <= 8) : ∀ b, b ∈ rlL l m -> b.size <= 100 := by
 intro b hb
 obtain ⟨i, hi, rfl⟩ := List.mem_map.1 hb
 have := rlT_len (i := i) (by have := List.mem_range.1 hi; omega) (rawK l i)
 rw [bs_size]
 omega
theorem ruled_any (w : World) (a : Option Addr) (n c : Nat) (l : List Int) (m : Nat) (hl : l.length = n) (hr : RawAt w a l) (hi : ∀ x, x ∈ l -> InI x) (hm : m = min n 8) :
    Calls Tryz.prog 15 #[.slice a n c] w fun e w' => (∃ ra rc, e = .returned (.slice ra m rc) /\ Calls Tryz.prog 14 #[.slice ra m rc] w' fun e2 w2 => e2 = .returned (.string (bs (whT (rlL l m)))) /\ w2 = w') /\ F0 w w' :=
  (kruled_any w a n c l m hl hr hi hm).mono (by
    rintro e w1 ⟨⟨v, rfl, hov, _⟩, hf1⟩
    obtain ⟨ra, rc, rfl, hst⟩ := strsAt_of hov (rlL_len l m)
    exact ⟨⟨ra, rc, rfl, kwhole_any w1 ra m rc (rlL l m) (rlL_len l m) (by omega) hst (rl_small l (by omega))⟩, hf1⟩)
theorem norm_load {R : List RuleM} {S : ByteArray} (h : (grownT rts3 R).Wr) (hl : (bodyW (grownT rts3 R)).length <= 199992) (hS : S.data.toList = closeM (bodyW (grownT rts3 R))) : openM S.data.toList = some (bodyW (grownT rts3 R)) /\ loadM S.data.toList = some (normT (grownT rts3 R)) := by
 rw [hS]
 exact ⟨open_close hl, load_image h hl⟩
set_option maxRecDepth 1000000 in
set_option maxHeartbeats 16000000 in
theorem swapped_tail10 (w0 w : World) (H X M TT X2 M2 TT2 zb T1 T2 P : Nat) (za : Option Addr) (zc : Nat) (la : Option Addr) (ln lc : Nat) (l : List Int) (ma : Option Addr) (mn mc : Nat) (ml : List Int) (m1 m2 : Nat) (p : PayM) (Wi Bd : ByteArray) (cu : Int) (hcu : InI cu) (hF : F0 w0 w) (hHs : Hal w0) (hH : H <= w.heap.size)
  (hX : X < H /\ w0.heap.size <= X) (hM : M < H /\ w0.heap.size <= M) (hX2 : X2 < H /\ w0.heap.size <= X2) (hM2 : M2 < H /\ w0.heap.size <= M2) (hne : X2 ≠ X /\ X2 ≠ M /\ M2 ≠ X /\ M2 ≠ M)
  (hS : SwM w X M TT 0 dnO) (hT : TgAt zb w TT [] za zc [] (grownT [] []).prs (grownT [] []).root) (hS2 : SwM w X2 M2 TT2 0 dnO) (hU1 : TzAt H w T1 (grownT rts3 (rsM l 0 m1))) (hU2 : TzAt H w T2 (grownT rts3 (rsM ml 0 m2))) (hp : payOk p = true) (hpz : p.pan.size <= 19) (hc3 : p.cur <= 3) (hPb : w.heap[P]? = some (payO p)) (hPH : H <= P) (hW : Wi = wireP p)
  (hl : l.length = ln /\ RawAt w0 la l /\ ∀ x, x ∈ l -> InI x) (hml : ml.length = mn /\ RawAt w0 ma ml /\ ∀ x, x ∈ ml -> InI x) (hm1 : m1 = min ln 8) (hm2 : m2 = min mn 8)
  (t2 t5 t6 t7 t8 t9 t10 t11 t18 t19 t20 t21 t22 t23 t24 t25 t26 t27 t28 t29 t30 t31 t32 t33 t34 t35 t36 t37 t38 t39 t40 t41 t42 t43 t44 t45 t46 t47 t48 t49 t50 t51 t52 t53 t54 t55 t56 t57 t58 t59 t60 t61 t62 t63 t64 t65 t66 t67 t68 t69 t70 t71 t72 t73 t74 t75 t76 t77 t78 t79 t80 t81 t82 t83 t84 t85 t86 t87 t88 t89 t90 t91 t92 t93 t94 t95 t96 t97 t98 t99 t100 t101 t102 t103 t104 t105 t106 t107 t108 t109 t110 t111 t112 t113 t114 t115 t116 t117 t118 t119 t120 t121 t122 t123 t124 t125 t126 t127 t128 t129 t130 t131 t132 t133 t134 t135 t136 t137 t138 t139 t140 t141 t142 t143 t144 t145 t146 t147 t148 t149 t150 t151 t152 t153 t154 t155 t156 t157 t158 t159 t160 t161 t162 t163 t164 t165 t166 t167 t168 t169 t170 t171 t172 t173 t174 t175 t176 t177 t178 t179 t180 t181 t182 t183 t184 t185 t186 t187 t188 t189 t190 t191 t192 t193 t194 t195 t196 t197 t198 t199 t200 t201 t202 t203 t204 t205 t206 t207 t208 t209 t210 t211 t212 t213 t214 t215 t216 t217 t218 t219 t220 t221 t222 t223 t224 t225 t226 t227 t228 t229 t230 t231 t232 t233 t234 t235 t236 t237 t238 t239 t240 t241 t242 t243 t244 t245 t246 t247 t248 t249 t250 t251 t252 : Value) :
  Code.wp Tryz.prog (restFrom Tryz.f4 10) (bodyPost Tryz.prog Tryz.f4 fun e w' => e = .returned (.bool true) /\ F0 w0 w') ⟨#[.slice la ln lc, .slice ma mn mc, t2, .string Bd, .int .i64 cu, t5, t6, t7, t8, t9, t10, t11, .pointer (some ⟨X, 0, none⟩), .pointer (some ⟨X2, 0, none⟩), .pointer (some ⟨T1, 0, none⟩), .pointer (some ⟨T2, 0, none⟩), .pointer (some ⟨P, 0, none⟩), .string Wi, t18, t19, t20, t21, t22, t23, t24, t25, t26, t27, t28, t29, t30, t31, t32, t33, t34, t35, t36, t37, t38, t39, t40, t41, t42, t43, t44, t45, t46, t47, t48, t49, t50, t51, t52, t53, t54, t55, t56, t57, t58, t59, t60, t61, t62, t63, t64, t65, t66, t67, t68, t69, t70, t71, t72, t73, t74, t75, t76, t77, t78, t79, t80, t81, t82, t83, t84, t85, t86, t87, t88, t89, t90, t91, t92, t93, t94, t95, t96, t97, t98, t99, t100, t101, t102, t103, t104, t105, t106, t107, t108, t109, t110, t111, t112, t113, t114, t115, t116, t117, t118, t119, t120, t121, t122, t123, t124, t125, t126, t127, t128, t129, t130, t131, t132, t133, t134, t135, t136, t137, t138, t139, t140, t141, t142, t143, t144, t145, t146, t147, t148, t149, t150, t151, t152, t153, t154, t155, t156, t157, t158, t159, t160, t161, t162, t163, t164, t165, t166, t167, t168, t169, t170, t171, t172, t173, t174, t175, t176, t177, t178, t179, t180, t181, t182, t183, t184, t185, t186, t187, t188, t189, t190, t191, t192, t193, t194, t195, t196, t197, t198, t199, t200, t201, t202, t203, t204, t205, t206, t207, t208, t209, t210, t211, t212, t213, t214, t215, t216, t217, t218, t219, t220, t221, t222, t223, t224, t225, t226, t227, t228, t229, t230, t231, t232, t233, t234, t235, t236, t237, t238, t239, t240, t241, t242, t243, t244, t245, t246, t247, t248, t249, t250, t251, t252], []⟩ w := by
 conv => arg 2; whnf
 have h81 : m1 <= 8 := by omega
 have h82 : m2 <= 8 := by omega
 have HR1 := hid (base_read l m1 h81)
 have HR2 := hid (base_read ml m2 h82)
 have HW2 := hid (raw_wr ml m2 h82)
 have hb1 : BookOk rts3 (rsM l 0 m1) := readM_book HR1.o
 have hb2 : BookOk rts3 (rsM ml 0 m2) := readM_book HR2.o
 have HRu1 : Hid (∀ W, F0 w0 W -> Calls Tryz.prog 15 #[.slice la ln lc] W fun e w' => (∃ ra rc, e = .returned (.slice ra m1 rc) /\ Calls Tryz.prog 14 #[.slice ra m1 rc] w' fun e2 w2 => e2 = .returned (.string (bs (whT (rlL l m1)))) /\ w2 = w') /\ F0 W w') := fun W hf => ruled_any W la ln lc l m1 hl.1 (hl.2.1.fr hf) hl.2.2 hm1
 have HRu2 : Hid (∀ W, F0 w0 W -> Calls Tryz.prog 15 #[.slice ma mn mc] W fun e w' => (∃ ra rc, e = .returned (.slice ra m2 rc) /\ Calls Tryz.prog 14 #[.slice ra m2 rc] w' fun e2 w2 => e2 = .returned (.string (bs (whT (rlL ml m2)))) /\ w2 = w') /\ F0 W w') := fun W hf => ruled_any W ma mn mc ml m2 hml.1 (hml.2.1.fr hf) hml.2.2 hm2
 generalize bs (whT (rlL l m1)) = S1 at *
 generalize bs (whT (rlL ml m2)) = S2 at *
 unfold rawT at HW2
 generalize rsM l 0 m1 = R1 at *
 generalize rsM ml 0 m2 = R2 at *
 obtain ⟨⟨wk, e1, e2⟩, hD1⟩ : ∃ o, decM rts3 R1 p (dnF rts3 [nb]) = o := ⟨_, rfl⟩
 obtain ⟨⟨ok, o1, o2⟩, hD2⟩ : ∃ o, decM rts3 R2 p (dnF rts3 [na]) = o := ⟨_, rfl⟩
 have hpm : p.pan.size <= maxLen := by unfold maxLen; omega
 have HH0 : Hid (Calls Tryz.prog 17 #[.pointer (some ⟨X, 0, none⟩), .string Wi] w fun e w' => (∃ o, e = .returned (outV o) /\ o.1 = 2) /\ F0 w w') := by rw [hW]; exact Handle_0 w X M TT 0 zb dnO za zc p hS hT hp
 have HHa : Hid (∀ W TN, SwM W X M TN (0 + 1) (dnP nb) -> TyAt H W TN (grownT rts3 R1) -> Calls Tryz.prog 17 #[.pointer (some ⟨X, 0, none⟩), .string Wi] W fun e w' => e = .returned (.agg #[.int .i64 (wk : Nat), .string e1, .string e2]) /\ F0 W w') := fun W TN h1 h2 => by
  have e := Handle_p W X M TN _ H (dnP nb) _ rts3 R1 p h1 h2 (grown_dcs hb1) hp
  rw [dnW_P, hD1, <- hW] at e
  exact e
 have HHb : Hid (∀ W TN, SwM W X2 M2 TN (0 + 1) (dnP na) -> TyAt H W TN (grownT rts3 R2) -> Calls Tryz.prog 17 #[.pointer (some ⟨X2, 0, none⟩), .string Wi] W fun e w' => e = .returned (.agg #[.int .i64 (ok : Nat), .string o1, .string o2]) /\ F0 W w') := fun W TN h1 h2 => by
  have e := Handle_p W X2 M2 TN _ H (dnP na) _ rts3 R2 p h1 h2 (grown_dcs hb2) hp
  rw [dnW_P, hD2, <- hW] at e
  exact e
 have HDa : Hid (∀ W, TzAt H W T2 (grownT rts3 R2) -> Calls Tryz.prog 7 #[.pointer (some ⟨T2, 0, none⟩), .agg #[.string p.pan, .int .i64 p.mcc, .int .i64 p.am, .int .i64 p.cur], .slice (some ⟨W.heap.size, 0, none⟩) 1 1] (W.alloc (.cells #[.string ⟨#[97]⟩] 9)) fun e w' => e = .returned (.agg #[.int .i64 (ok : Nat), .string o1, .string o2]) /\ F0 W w') := fun W h => by
  have e := h.decide1 (grown_dcs hb2) na p hpm
  rw [hD2] at e
  exact e
 have HDb : Hid (∀ W, TzAt H W T1 (grownT rts3 R1) -> Calls Tryz.prog 7 #[.pointer (some ⟨T1, 0, none⟩), .agg #[.string p.pan, .int .i64 p.mcc, .int .i64 p.am, .int .i64 p.cur], .slice (some ⟨W.heap.size, 0, none⟩) 1 1] (W.alloc (.cells #[.string ⟨#[98]⟩] 9)) fun e w' => e = .returned (.agg #[.int .i64 (wk : Nat), .string e1, .string e2]) /\ F0 W w') := fun W h => by
  have e := h.decide1 (grown_dcs hb1) nb p hpm
  rw [hD1] at e
  exact e
 have HBd : Hid (H <= w.heap.size /\ (X < H /\ w0.heap.size <= X) /\ (M < H /\ w0.heap.size <= M) /\ (X2 < H /\ w0.heap.size <= X2) /\ (M2 < H /\ w0.heap.size <= M2) /\ H <= P) := ⟨hH, hX, hM, hX2, hM2, hPH⟩
 have HNe := hid hne
 have HF := hid hF
 have HHs := hid hHs
 have HSa := hid hS
 have HSb := hid hS2
 have HU1 := hid hU1
 have HU2 := hid hU2
 have HB2 := hid hb2
 have HPay : Hid (payOk p = true /\ p.pan.size <= 19 /\ p.cur <= 3 /\ Wi = wireP p) := ⟨hp, hpz, hc3, hW⟩
 have HPb : Hid (w.heap[P]? = some (.cells #[.string p.pan, .int .i64 p.mcc, .int .i64 p.am, .int .i64 p.cur] 24)) := hPb
 have HI := hid hcu
 have HDe := hid hD1
 have HDc1 := hid (grown_dcs hb1)
 clear hcu hF hHs hH hX hM hX2 hM2 hne hS hT hS2 hU1 hU2 hp hpz hc3 hPb hPH hW hl hml hm1 hm2 h81 h82 hb1 hb2 hD1 hD2 hpm
 go_wp2_with fail
 refine HH0.o.mono ?_
 rintro e v1 ⟨⟨⟨nk, n1, n2⟩, rfl, hnk⟩, hf⟩
 have hnk : nk = 2 := hnk
 subst hnk
 unfold outV
 have HFA : Hid (F0 w (v1.alloc (.cells #[.int .i64 ((2 : Nat) : Int), .string n1, .string n2] 30))) := hf.alloc _
 have HBA := hid (heap_alloc_new v1 (.cells #[.int .i64 ((2 : Nat) : Int), .string n1, .string n2] 30))
 have HLA : Hid (w.heap.size <= v1.heap.size) := hf.size
 clear hf HH0
 try dsimp only
 go_upto_region 11 with fail
 generalize v1.alloc _ = wA at *
 generalize v1.heap.size = OA at *
 have HSt := hid (Set_down wA X M TT 0 dnO nb (HSa.o.fr HFA.o (by simp) (by simp)) (by omega) nb_name)
 unfold nb at HSt
 go_wp2_with fail
 refine HSt.o.mono ?_
 rintro e w2 ⟨rfl, hS1, hf2⟩
 have HS2a : Hid (SwM w2 X M TT (0 + 1) (dnP nb)) := hS1
 have HG2 := hid hf2
 clear hS1 hf2 HSt
 try dsimp only
 have HSt := hid (Set_down w2 X2 M2 TT2 0 dnO na ((HSb.o.fr HFA.o (by simp) (by simp)).fr HG2.o (by have := HNe.o; show ¬ X2 = M; omega) (by have := HNe.o; show ¬ M2 = M; omega)) (by omega) na_name)
 unfold na at HSt
 go_wp2_with fail
 refine HSt.o.mono ?_
 rintro e w3 ⟨rfl, hS1, hf3⟩
 have HS3b : Hid (SwM w3 X2 M2 TT2 (0 + 1) (dnP na)) := hS1
 have HG3 := hid hf3
 have HS3a := hid (HS2a.o.fr HG3.o (by have := HNe.o; show ¬ X = M2; omega) (by have := HNe.o; show ¬ M = M2; omega))
 have HZ3 : Hid (F0 w0 w3) := (((HF.o.trans HFA.o).monoNew HG2.o (fun k hk => Or.inr (by have := HBd.o; omega))).monoNew HG3.o (fun k hk => Or.inr (by have := HBd.o; omega)))
 clear hS1 hf3 HSt
 try dsimp only
 go_wp2_with fail
 refine (HRu2.o w3 HZ3.o).mono ?_
 rintro e w4 ⟨⟨ra, rc, rfl, hwh⟩, hf⟩
 have HWh := hid hwh
 have HF4 := hid hf
 clear hwh hf
 go_wp2_with fail
 refine HWh.o.mono ?_
 rintro e w' ⟨rfl, he⟩
 replace he := he.symm
 subst he
 clear HWh
 have HIn := hid (Install_ok w4 X2 M2 TT2 (0 + 1) (dnP na) S2 _ (HS3b.o.fr HF4.o (by simp) (by simp)) HR2.o)
 try dsimp only
 go_wp2_with fail
 refine HIn.o.mono ?_
 rintro e w5 ⟨rfl, ⟨TN2, hS5, hT5⟩, hf5⟩
 have hH := HBd.o
 have HG5 := hid hf5
 have HS5b := hid hS5
 have HS5a := hid ((HS3a.o.fr HF4.o (by simp) (by simp)).fr HG5.o (by have := HNe.o; show ¬ X = X2; omega) (by have := HNe.o; show ¬ M = X2; omega))
 have HT5 := hid (hT5.lo (K := H) (by have := HFA.o.size; have := HG2.o.size; have := HG3.o.size; have := HF4.o.size; omega))
 have HZ5 : Hid (F0 w0 w5) := (HZ3.o.trans HF4.o).monoNew HG5.o (fun k hk => Or.inr (by omega))
 clear hS5 hT5 hf5 HIn hH
 try dsimp only
 go_wp2_with fail
 refine (HRu1.o w5 HZ5.o).mono ?_
 rintro e w6 ⟨⟨ra, rc, rfl, hwh⟩, hf⟩
 have HWh := hid hwh
 have HF6 := hid hf
 clear hwh hf
 go_wp2_with fail
 refine HWh.o.mono ?_
 rintro e w' ⟨rfl, he⟩
 replace he := he.symm
 subst he
 clear HWh
 have HIn := hid (Install_ok w6 X M TT (0 + 1) (dnP nb) S1 _ (HS5a.o.fr HF6.o (by simp) (by simp)) HR1.o)
 try dsimp only
 go_wp2_with fail
 refine HIn.o.mono ?_
 rintro e w7 ⟨rfl, ⟨TN1, hS7, hT7⟩, hf7⟩
 have hH := HBd.o
 have HG7 := hid hf7
 have HS7a := hid hS7
 have HS7b := hid ((HS5b.o.fr HF6.o (by simp) (by simp)).fr HG7.o (by have := HNe.o; show ¬ X2 = X; omega) (by have := HNe.o; show ¬ M2 = X; omega))
 have HT7a := hid (hT7.lo (K := H) (by have := HFA.o.size; have := HG2.o.size; have := HG3.o.size; have := HF4.o.size; have := HG5.o.size; have := HF6.o.size; omega))
 have HT7b := hid ((HT5.o.fr HF6.o (by simp)).fr HG7.o (fun k hk => by omega))
 have HZ7 : Hid (F0 w0 w7) := (HZ5.o.trans HF6.o).monoNew HG7.o (fun k hk => Or.inr (by omega))
 have HKA : Hid (Fr (fun k => k < H) wA w7) := ((((HG2.o.mono (fun k hk => by show k < H; omega)).trans (HG3.o.mono (fun k hk => by show k < H; omega))).trans (HF4.o.mono (by simp))).trans (HG5.o.mono (fun k hk => by show k < H; omega))).trans ((HF6.o.mono (by simp)).trans (HG7.o.mono (fun k hk => by show k < H; omega)))
 have HK7 : Hid (Fr (fun k => k < H) w w7) := (HFA.o.mono (by simp)).trans HKA.o
 have HU1c := hid (HU1.o.fr HK7.o (fun k hk => hk))
 have HU2c := hid (HU2.o.fr HK7.o (fun k hk => hk))
 have HP7 := hid (HK7.o.whole HPb.o (by show ¬ P < H; omega))
 have HA7 := hid (HKA.o.whole HBA.o (by have := HLA.o; show ¬ OA < H; omega))
 clear hS7 hT7 hf7 HIn hH HG2 HG3 HF4 HG5 HF6 HG7 HKA HU1 HU2 HS2a HS3a HS3b HS5a HS5b HT5 HZ3 HZ5 HRu1 HRu2 HR1 HR2
 try dsimp only
 go_wp2_with fail
 refine (HHa.o w7 TN1 HS7a.o HT7a.o).mono ?_
 rintro e v8 ⟨rfl, hf⟩
 have HFB : Hid (F0 w7 (v8.alloc (.cells #[.int .i64 (wk : Nat), .string e1, .string e2] 30))) := hf.alloc _
 have HBB := hid (heap_alloc_new v8 (.cells #[.int .i64 (wk : Nat), .string e1, .string e2] 30))
 have HLB : Hid (w7.heap.size <= v8.heap.size) := hf.size
 clear hf
 try dsimp only
 go_upto_region 16 with fail
 generalize v8.alloc _ = wB at *
 generalize v8.heap.size = OB at *
 go_wp2_with fail
 refine (HHb.o wB TN2 (HS7b.o.fr HFB.o (by simp) (by simp)) (HT7b.o.fr HFB.o (by simp))).mono ?_
 rintro e v9 ⟨rfl, hf⟩
 have HFC : Hid (F0 wB (v9.alloc (.cells #[.int .i64 (ok : Nat), .string o1, .string o2] 30))) := hf.alloc _
 have HBC := hid (heap_alloc_new v9 (.cells #[.int .i64 (ok : Nat), .string o1, .string o2] 30))
 have HLC : Hid (wB.heap.size <= v9.heap.size) := hf.size
 clear hf
 try dsimp only
 go_upto_region 17 with fail
 generalize v9.alloc _ = wC at *
 generalize v9.heap.size = OC at *
 have HFbc := hid (HFB.o.trans HFC.o)
 have HPC := hid (HFbc.o.whole HP7.o (by simp))
 have y0 := block_cell HPC.o 0 _ rfl
 have y1 := block_cell HPC.o 1 _ rfl
 have y2 := block_cell HPC.o 2 _ rfl
 have y3 := block_cell HPC.o 3 _ rfl
 have hPw : P < wC.heap.size := (Array.getElem?_eq_some_iff.1 HPC.o).1
 go_wp2_with fail
 refine (HDa.o wC (HU2c.o.fr HFbc.o (by simp))).mono ?_
 rintro e v10 ⟨rfl, hf⟩
 have HFD : Hid (F0 wC (v10.alloc (.cells #[.int .i64 (ok : Nat), .string o1, .string o2] 30))) := hf.alloc _
 have HBD := hid (heap_alloc_new v10 (.cells #[.int .i64 (ok : Nat), .string o1, .string o2] 30))
 have HLD : Hid (wC.heap.size <= v10.heap.size) := hf.size
 clear hf
 try dsimp only
 go_upto_region 18 with fail
 generalize v10.alloc _ = wD at *
 generalize v10.heap.size = OD at *
 clear y0 y1 y2 y3 hPw
 have HFbd := hid (HFbc.o.trans HFD.o)
 have HPD := hid (HFbd.o.whole HP7.o (by simp))
 have y0 := block_cell HPD.o 0 _ rfl
 have y1 := block_cell HPD.o 1 _ rfl
 have y2 := block_cell HPD.o 2 _ rfl
 have y3 := block_cell HPD.o 3 _ rfl
 have hPw : P < wD.heap.size := (Array.getElem?_eq_some_iff.1 HPD.o).1
 go_wp2_with fail
 refine (HDb.o wD (HU1c.o.fr HFbd.o (by simp))).mono ?_
 rintro e v11 ⟨rfl, hf⟩
 have HFE : Hid (F0 wD (v11.alloc (.cells #[.int .i64 (wk : Nat), .string e1, .string e2] 30))) := hf.alloc _
 have HBE := hid (heap_alloc_new v11 (.cells #[.int .i64 (wk : Nat), .string e1, .string e2] 30))
 have HLE : Hid (wD.heap.size <= v11.heap.size) := hf.size
 clear hf
 try dsimp only
 go_upto_region 19 with fail
 generalize v11.alloc _ = wE at *
 generalize v11.heap.size = OE at *
 clear y0 y1 y2 y3 hPw
 have HFbe := hid (HFbd.o.trans HFE.o)
 obtain ⟨S, hS⟩ : ∃ S : ByteArray, (⟨(closeM (bodyW (grownT rts3 R2))).toArray⟩ : ByteArray) = S := ⟨_, rfl⟩
 have HSl : Hid (S.data.toList = closeM (bodyW (grownT rts3 R2))) := by show _ = _; rw [<- hS]
 have hss : 8 <= S.size := by
  have e := close_len (bodyW (grownT rts3 R2))
  have e2 : S.size = (closeM (bodyW (grownT rts3 R2))).length := by rw [<- hS]; rfl
  omega
 have HIm := hid (Image_any wE T2 _ (HU2c.o.fr HFbe.o (by simp)).ti HW2.o.1 (Nat.le_trans HW2.o.2 (by omega)) (HHs.o.fr (HZ7.o.trans HFbe.o)))
 rw [hS] at HIm
 clear hS
 go_wp2_with fail
 refine HIm.o.mono ?_
 rintro e wG ⟨rfl, hfG⟩
 have HFG := hid hfG
 clear hfG HIm
 try dsimp only
 have HFz := hid (HFbe.o.trans HFG.o)
 have bA := HFz.o.whole HA7.o (by simp)
 have bB := (HFC.o.trans (HFD.o.trans (HFE.o.trans HFG.o))).whole HBB.o (by simp)
 have bC := (HFD.o.trans (HFE.o.trans HFG.o)).whole HBC.o (by simp)
 have bD := (HFE.o.trans HFG.o).whole HBD.o (by simp)
 have bE := HFG.o.whole HBE.o (by simp)
 have HbE := hid bE
 have cA0 := block_cell bA 0 _ rfl
 have cB0 := block_cell bB 0 _ rfl
 have cB1 := block_cell bB 1 _ rfl
 have cB2 := block_cell bB 2 _ rfl
 have cC0 := block_cell bC 0 _ rfl
 have cC1 := block_cell bC 1 _ rfl
 have cC2 := block_cell bC 2 _ rfl
 have cD0 := block_cell bD 0 _ rfl
 have cD1 := block_cell bD 1 _ rfl
 have cD2 := block_cell bD 2 _ rfl
 have cE0 := block_cell bE 0 _ rfl
 have cE1 := block_cell bE 1 _ rfl
 have cE2 := block_cell bE 2 _ rfl
 have h0s : ¬ (S.size : Int) = 0 := by omega
 have h0t : ((S.size : Int) == 0) = false := beq_eq_false_iff_ne.2 h0s
 clear bA bB bC bD bE
 go_upto_if 162 with fail
 go_cut [] (fun wx => wx = wG)
 case first =>
  go_wp2_with fail
  go_meet
  rfl
 case rest =>
  replace hcut := hcut.symm
  subst hcut
  have hH := HBd.o
  have hP := HPay.o
  have hnl := norm_load HW2.o.1 (Nat.le_trans HW2.o.2 (by omega)) HSl.o
  apply_assumption
  exact swapped_tail22 w0 wG H X M TN1 (0 + 1) T2 P OE (grownT rts3 R1) R1 R2 p Wi S _ Bd cu HI.o (HZ7.o.trans HFz.o) HHs.o (by have := HK7.o.size; have := HFz.o.size; omega) hH.2.1.1 hH.2.2.1.1 hH.2.1.2 hH.2.2.1.2 (HS7a.o.fr HFz.o (by simp) (by simp)) (HT7a.o.fr HFz.o (by simp)) HDc1.o (HU2c.o.fr HFz.o (by simp)) HB2.o hP.1 hP.2.1 hP.2.2.1 (HFz.o.whole HP7.o (by simp)) hH.2.2.2.2.2 hP.2.2.2 (by rw [HDe.o]; exact HbE.o) (by have := HLE.o; have := HK7.o.size; have := HFbd.o.size; omega) hnl.1 hnl.2 _ _ _ _ _ _ _ _ _ _ _ _ _ _ _ _ _ _ _ _ _ _ _ _ _ _ _ _ _ _ _ _ _ _ _ _ _ _ _ _ _ _ _ _ _ _ _ _ _ _ _ _ _ _ _ _ _ _ _ _ _ _ _ _ _ _ _ _ _ _ _ _ _ _ _ _ _ _ _ _ _ _ _ _ _ _ _ _ _ _ _ _ _ _ _ _ _ _ _ _ _ _ _ _ _ _ _ _ _ _ _ _ _ _ _ _ _ _ _ _ _ _ _ _ _ _ _ _ _ _ _ _ _ _ _ _ _ _ _ _ _ _ _ _ _ _ _ _ _ _ _ _ _ _ _ _ _ _ _ _ _ _ _ _ _ _ _ _ _ _ _ _ _ _ _ _ _ _ _ _ _ _ _ _ _ _ _ _ _ _ _ _ _ _ _ _ _ _ _ _ _ _ _ _ _ _ _ _ _ _ _ _ _ _ _ _ _ _ _ _ _ _ _ _ _ _ _ _ _ _ _ _ _ _ _ _ _ _ _ _ _ _ _ _ _
end Go.Proofs.YtccikgogjfbpeabGreatDoor
