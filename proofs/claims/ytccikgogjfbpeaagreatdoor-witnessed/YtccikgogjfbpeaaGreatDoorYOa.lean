/- The keep Witnessed: the pairs of rules, gone through. -/
import Derived.Test.YtccikgogjfbpeaaGreatDoorYHa
import Derived.Test.YtccikgogjfbpeaaGreatDoorYMo
namespace Go.Proofs.YtccikgogjfbpeaaGreatDoor
open Go.RowKit
def headOf (n : Nat) : Code → Bool
 | .region m _ _ => m == n
 | .seq a _ => headOf n a
 | _ => false
def restOf (n : Nat) : Code → Option Code
 | .seq a b => if headOf n a then some (.seq a b) else restOf n b
 | _ => none
def restFrom (f : Func) (n : Nat) : Code := (f.body.bind (restOf n)).getD .skip
theorem ba_beq (a b : ByteArray) : (a.toList == b.toList) = decide (a = b) := by
 by_cases h : a = b
 ·subst h; simp
 ·have : ¬ a.toList = b.toList := fun e => h (by
   rw [ByteArray.toList_eq, ByteArray.toList_eq] at e
   exact ByteArray.ext (Array.toList_inj.1 e))
  simp [h, this]
theorem r_text (i : Nat) {S : ByteArray} (h : bs (digL i 1) = S) : (⟨#[114]⟩ : ByteArray) ++ S = bs (rN i) := by
 rw [← h]
 exact bs_append [114] (digL i 1)
set_option maxRecDepth 1000000 in
set_option maxHeartbeats 8000000 in
theorem wit_tail17 (w0 w : World) (L : List Int) (m : Nat) (hL : L.length = m) (hm : m ≤ 8) (a : Option Addr) (kc : Nat) (hr : RawAt w a L) (hi : ∀ x, x ∈ L → InI x) (R : List RuleM) (hR : rsM L 0 m = R) (oa : Option Addr) (on oc : Nat) (ho : OvAt w oa (ovsN R)) (hon : (ovsN R).length = on)
  (P : Nat) (p : PayM) (hp : payOk p = true) (hps : p.pan.size ≤ 19) (hB : w.heap[P]? = some (payO p)) (hF : Fr (fun _ => False) w0 w) (nR : Nat) (hrl : ∀ r, r ∈ R → RlOk nR r ∧ ArOk r)
  (t1 t2 t3 t4 t5 t6 t8 t9 t11 t12 t13 t14 t15 t16 t17 t18 t19 t20 t21 t22 t23 t24 t25 t26 t27 t28 t29 t30 t31 t32 t33 t34 t35 t36 t37 t38 t39 t40 t41 t42 t43 t44 t45 t46 t47 t48 t49 t50 t51 t52 t53 t54 t55 t56 t57 t58 t59 t60 t61 t62 t63 t64 t65 t66 t67 t68 t69 t70 t71 t72 t73 t74 t75 t76 t77 t78 t79 t80 t81 t82 t83 t84 t85 t86 t87 t88 t89 t90 t91 t92 t93 t94 t95 t96 t97 t98 t99 t100 t101 t102 t103 t104 t105 t106 t107 t108 t109 t110 t111 t112 t113 t114 t115 t116 t117 t118 t119 t120 t121 t122 t123 t124 t125 t126 t127 t128 t129 t130 t131 t132 t133 t134 t135 t136 t137 t138 t139 t140 t141 t142 t143 t144 t145 t146 t147 t148 t149 t150 t151 t152 t153 t154 t155 t156 t157 t158 t159 : Value) :
  Code.wp Tryz.prog (restFrom Tryz.f9 17) (bodyPost Tryz.prog Tryz.f9 fun e w' => e = .returned (.bool true) ∧ Fr (fun _ => False) w0 w') ⟨#[.slice a m kc, t1, t2, t3, t4, t5, t6, .slice oa on oc, t8, t9, .pointer (some ⟨P, 0, none⟩), t11, t12, t13, t14, t15, t16, t17, t18, t19, t20, t21, t22, t23, t24, t25, t26, t27, t28, t29, t30, t31, t32, t33, t34, t35, t36, t37, t38, t39, t40, t41, t42, t43, t44, t45, t46, t47, t48, t49, t50, t51, t52, t53, t54, t55, t56, t57, t58, t59, t60, t61, t62, t63, t64, t65, t66, t67, t68, t69, t70, t71, t72, t73, t74, t75, t76, t77, t78, t79, t80, t81, t82, t83, t84, t85, t86, t87, t88, t89, t90, t91, t92, t93, t94, t95, t96, t97, t98, t99, t100, t101, t102, t103, t104, t105, t106, t107, t108, t109, t110, t111, t112, t113, t114, t115, t116, t117, t118, t119, t120, t121, t122, t123, t124, t125, t126, t127, t128, t129, t130, t131, t132, t133, t134, t135, t136, t137, t138, t139, t140, t141, t142, t143, t144, t145, t146, t147, t148, t149, t150, t151, t152, t153, t154, t155, t156, t157, t158, t159], []⟩ w := by
 conv => arg 2; whnf
 have HL := hid hL
 have HR := hid hr
 have HI := hid hi
 have HRe := hid hR
 have HO := hid ho
 have HON := hid hon
 have HP := hid hp
 have HPS : Hid (p.pan.size ≤ maxLen) := by show _ ≤ _; unfold maxLen; omega
 have HB := hid hB
 have HF := hid hF
 have HRl := hid hrl
 have HRn : Hid (R.length = m) := by show _ = _; rw [← hR, rsM_len]
 have HNm : Hid (∀ (a b : Nat) (r q : RuleM), R[a]? = some r → R[b]? = some q → r.name = q.name → a = b) := by rw [← hR]; exact rs_names L m
 have hon64 : on ≤ 64 := by
  have := ovI_len R R.length
  have h2 := HRn.out
  have e3 := Nat.mul_le_mul (show R.length ≤ 8 by omega) (show R.length ≤ 8 by omega)
  unfold ovsN at hon
  omega
 have HC : Hid (∀ (pp : PayM), pp.pan.size ≤ maxLen → ∀ (W : World) (T : Nat) (c : Int) (o : Nat × ByteArray × ByteArray), TbAt W T rts3 [(alX c).rl [0] 3] → decM rts3 [(alX c).rl [0] 3] pp (dnF rts3 []) = o → Calls Tryz.prog 19 #[.pointer (some ⟨T, 0, none⟩), .agg #[.string pp.pan, .int .i64 pp.mcc, .int .i64 pp.am, .int .i64 pp.cur], .slice none 0 0] W fun e w' => e = .returned (.agg #[.int .i64 (o.1 : Nat), .string o.2.1, .string o.2.2]) ∧ Fr (fun _ => False) W w') := fun pp hpp W T c o h1 h2 => by
  have e := h1.decide0 pp hpp
  rw [h2] at e
  exact e
 clear hL hr hi hR ho hon hp hps hB hF hrl
 go_wp2_with fail
 go_loopg [11, 12] m (fun mm av iv wr => ∃ i q : Nat, i ≤ m ∧ mm = m - i ∧ iv = .int .i64 (i : Nat) ∧ av = .int .i64 (q : Nat) ∧ q ≤ 64 ∧ Hid (q = (ovI R i).length) ∧ Hid (Fr (fun _ => False) w wr))
 case atStart => exact ⟨0, 0, by omega, rfl, rfl, rfl, by omega, rfl, Fr.refl _ _⟩
 case round =>
  obtain ⟨i, q0, him, rfl, rfl, rfl, hq0, HQ0, HFr⟩ := hrel
  by_cases hlt : i < m
  ·have hki : (i : Int) < (m : Int) := by omega
   go_wp2_with fail
   go_loopg [11, 13] (m - (i + 1)) (fun mm av kv wx => ∃ j k q : Nat, k ≤ m ∧ mm = m - k ∧ kv = .int .i64 (k : Nat) ∧ av = .int .i64 (q : Nat) ∧ q ≤ 64 ∧ Hid (k = i + 1 + j) ∧ Hid (q = (ovI R i ++ ovJ R i j).length) ∧ Hid (Fr (fun _ => False) w wx))
   case atStart => exact ⟨0, i + 1, q0, by omega, rfl, by go_num, rfl, hq0, rfl, by show _ = _; rw [HQ0.out]; simp [ovJ], HFr⟩
   case round =>
    obtain ⟨j, k, q, hkm, rfl, rfl, rfl, hq, HK, HQ, HFx⟩ := hrel
    generalize wr = wx at *
    by_cases hkl : k < m
    ·have hkk : (k : Int) < (m : Int) := by omega
     obtain ⟨c1, hc1⟩ : ∃ c1, L[i]? = some c1 := ⟨_, List.getElem?_eq_getElem (show i < L.length by have := HL.out; omega)⟩
     obtain ⟨c2, hc2⟩ : ∃ c2, L[k]? = some c2 := ⟨_, List.getElem?_eq_getElem (show k < L.length by have := HL.out; omega)⟩
     have HI1 := hid (HI.out c1 (List.mem_of_getElem? hc1))
     have HI2 := hid (HI.out c2 (List.mem_of_getElem? hc2))
     have HR1 : Hid (R[i]? = some (rlM i c1)) := by
      show _ = _
      rw [← HRe.out, rs_get L m 0 i hlt, Nat.zero_add, show rawK L i = c1 from by simp [rawK, List.getD, hc1]]
     have HR2 : Hid (R[k]? = some (rlM k c2)) := by
      show _ = _
      rw [← HRe.out, rs_get L m 0 k hkl, Nat.zero_add, show rawK L k = c2 from by simp [rawK, List.getD, hc2]]
     obtain ⟨g, o, ea, x1⟩ := HR.out i c1 hc1
     obtain ⟨g', o', ea', x2⟩ := HR.out k c2 hc2
     subst ea
     injection ea' with e
     injection e with e1 e2 _
     subst e1 e2
     have y1 : wx.cell? ⟨g, o + i, none⟩ = some (.int .i64 c1) := (HFx.out.cell (p := ⟨g, o + i, none⟩) (World.block_lt_of_cell? w _ x1) (by simp)).trans x1
     have HY2 : Hid (∀ W, Fr (fun _ => False) w W → W.cell? ⟨g, o + k, none⟩ = some (.int .i64 c2)) := fun W hf => (hf.cell (p := ⟨g, o + k, none⟩) (World.block_lt_of_cell? w _ x2) (by simp)).trans x2
     clear hc1 hc2 x1 x2
     go_wp2_with fail
     refine (kalone_any c1 wx HI1.out).mono ?_
     rintro e w1 ⟨⟨T1, rfl, hT1⟩, hf1⟩
     have HT1 := hid hT1
     have HF1 := hid (HFx.out.trans hf1)
     have y2 := HY2.out w1 HF1.out
     clear hT1 hf1 y1
     go_wp2_with fail
     refine (kalone_any c2 w1 HI2.out).mono ?_
     rintro e w2 ⟨⟨T2, rfl, hT2⟩, hf2⟩
     have HT1' := hid (HT1.out.fr hf2)
     have HT2 := hid hT2
     have HF2 := hid (HF1.out.trans hf2)
     clear hT2 hf2 y2 HY2 HT1 HF1 HFx HI1 HI2
     go_wp2_with fail
     have HAt : Hid ((∀ y, comY (arR (rlM i c1)) (arR (rlM k c2)) = some y → (ovsN R)[q]? = some ((rlM i c1).name, (rlM k c2).name, tolP y.1)) ∧ (comY (arR (rlM i c1)) (arR (rlM k c2)) = none → ∀ x, (ovsN R)[q]? = some x → ¬ (x.1 = (rlM i c1).name ∧ x.2.1 = (rlM k c2).name))) := by
      have e := ov_at HNm.out HR1.out (j := j) (q := rlM k c2) (by rw [← HK.out]; exact HR2.out)
      rw [← HQ.out] at e
      exact e
     obtain ⟨b, hb⟩ : ∃ b, (comY (arR (rlM i c1)) (arR (rlM k c2))).isSome = b := ⟨_, rfl⟩
     have HBb := hid hb
     clear hb
     go_cut [117] (fun v wz => v = .bool b ∧ Hid (Fr (fun _ => False) w2 wz))
     case first =>
      have HX1 : Hid (∀ W, Calls Tryz.prog 22 #[.int .i64 (i : Nat)] W fun e w' => e = .returned (.string (bs (digL i 1))) ∧ Fr (fun _ => False) W w') := fun W => ktext_any i _ W rfl (by omega)
      have HX2 : Hid (∀ W, Calls Tryz.prog 22 #[.int .i64 (k : Nat)] W fun e w' => e = .returned (.string (bs (digL k 1))) ∧ Fr (fun _ => False) W w') := fun W => ktext_any k _ W rfl (by omega)
      obtain ⟨S1, hS1⟩ : ∃ S1, bs (digL i 1) = S1 := ⟨_, rfl⟩
      obtain ⟨S2, hS2⟩ : ∃ S2, bs (digL k 1) = S2 := ⟨_, rfl⟩
      have HR1t := hid (r_text i hS1)
      have HR2t := hid (r_text k hS2)
      have hl1 : S1.size ≤ 10 := by rw [← hS1, bs_size, dig1 (by omega)]; simp
      have hl2 : S2.size ≤ 10 := by rw [← hS2, bs_size, dig1 (by omega)]; simp
      rw [hS1] at HX1
      rw [hS2] at HX2
      clear hS1 hS2
      have HFz : Hid (Fr (fun _ => False) w2 w2.drew) := (Fr.refl _ _).drew
      by_cases hqo : q < on
      ·have hqi : (q : Int) < (on : Int) := by omega
       have hqd : decide ((q : Int) < (on : Int)) = true := by simpa using hqi
       obtain ⟨x, hx⟩ : ∃ x, (ovsN R)[q]? = some x := ⟨_, List.getElem?_eq_getElem (show q < (ovsN R).length by have := HON.out; omega)⟩
       obtain ⟨og, eo, hoc⟩ := HO.out q x hx
       subst eo
       obtain ⟨n1, n2, px⟩ := x
       have HSP : Hid (∀ W, Fr (fun _ => False) w2 W → W.cell? ⟨og, q * 6, none⟩ = some (.string n1) ∧ W.cell? ⟨og, q * 6 + 1, none⟩ = some (.string n2)) := fun W hf => ⟨((HF2.out.trans hf).cell (p := ⟨og, q * 6, none⟩) (World.block_lt_of_cell? w _ (hoc 0 _ rfl)) (by simp)).trans (hoc 0 _ rfl), ((HF2.out.trans hf).cell (p := ⟨og, q * 6 + 1, none⟩) (World.block_lt_of_cell? w _ (hoc 1 _ rfl)) (by simp)).trans (hoc 1 _ rfl)⟩
       have HAx : Hid (b = (decide (n1 = bs (rN i)) && decide (n2 = bs (rN k)))) := by
        show b = _
        rw [← HBb.out]
        cases hy : comY (arR (rlM i c1)) (arR (rlM k c2)) with
        | some y =>
         have e := HAt.out.1 y hy
         rw [hx] at e
         injection e with e
         injection e with e1 e2
         injection e2 with e2 e3
         subst e1 e2
         have a1 : (rlM i c1).name = bs (rN i) := rfl
         have a2 : (rlM k c2).name = bs (rN k) := rfl
         simp [a1, a2]
        | none =>
         have e := HAt.out.2 hy _ hx
         have a1 : (rlM i c1).name = bs (rN i) := rfl
         have a2 : (rlM k c2).name = bs (rN k) := rfl
         rw [a1, a2] at e
         have e : ¬ (n1 = bs (rN i) ∧ n2 = bs (rN k)) := e
         by_cases g1 : n1 = bs (rN i)
         ·have g2 : ¬ n2 = bs (rN k) := fun h => e ⟨g1, h⟩
          simp [g2]
         ·simp [g1]
       clear hx hoc
       by_cases g1 : n1 = bs (rN i)
       ·have e1 : (n1.toList == ((⟨#[114]⟩ : ByteArray) ++ S1).toList) = true := by rw [ba_beq, HR1t.out]; simpa using g1
        have e2 : (n2.toList == ((⟨#[114]⟩ : ByteArray) ++ S2).toList) = b := by rw [ba_beq, HR2t.out, HAx.out]; simp [g1]
        clear g1
        refine wp_region_held_drew (S := fun W => W.cell? ⟨og, q * 6, none⟩ = some (.string n1) ∧ W.cell? ⟨og, q * 6 + 1, none⟩ = some (.string n2)) (by kernel_rfl) (HSP.out _ HFz.out) (fun hH => ?_)
        refine held_take 0 (v := ?v0A) rfl (by kernel_rfl) (by kernel_rfl) (by kernel_rfl) (fun _ _ _ h => h) rfl ?y0A hH ?r0A
        case y0A =>
         rintro w ⟨s0, s1⟩
         go_simp
         first | with_reducible rfl | rw [if_neg (by omega)]
        try go_frame
        refine held_take 1 (v := ?v1A) rfl (by kernel_rfl) (by kernel_rfl) (by kernel_rfl) (fun _ _ _ h => h) rfl ?y1A hH ?r1A
        case y1A =>
         rintro w ⟨s0, s1⟩
         go_simp
         first | with_reducible rfl | rw [if_neg (by omega)]
        try go_frame
        refine held_take 2 (v := ?v2A) rfl (by kernel_rfl) (by kernel_rfl) (by kernel_rfl) (fun _ _ _ h => h) rfl ?y2A hH ?r2A
        case y2A =>
         rintro w ⟨s0, s1⟩
         go_simp
         first | with_reducible rfl | rw [if_neg (by omega)]
        try go_frame
        refine held_take 3 (v := ?v3A) rfl (by kernel_rfl) (by kernel_rfl) (by kernel_rfl) (fun _ _ _ h => h) rfl ?y3A hH ?r3A
        case y3A =>
         rintro w ⟨s0, s1⟩
         go_simp
         first | with_reducible rfl | rw [if_neg (by omega)]
        try go_frame
        refine held_take 4 (v := ?v4A) rfl (by kernel_rfl) (by kernel_rfl) (by kernel_rfl) (fun _ _ _ h => h) rfl ?y4A hH ?r4A
        case y4A =>
         rintro w ⟨s0, s1⟩
         go_simp
         first | with_reducible rfl | rw [if_neg (by omega)]
        try go_frame
        refine held_take 5 (v := ?v5A) rfl (by kernel_rfl) (by kernel_rfl) (by kernel_rfl) (fun _ _ _ h => h) rfl ?y5A hH ?r5A
        case y5A =>
         rintro w ⟨s0, s1⟩
         go_simp
         first | with_reducible rfl | rw [if_neg (by omega)]
        try go_frame
        refine held_take 6 (v := ?v6A) rfl (by kernel_rfl) (by kernel_rfl) (by kernel_rfl) (fun _ _ _ h => h) rfl ?y6A hH ?r6A
        case y6A =>
         rintro w ⟨s0, s1⟩
         go_simp
         first | with_reducible rfl | rw [if_neg (by omega)]
        try go_frame
        refine held_take 7 (v := ?v7A) rfl (by kernel_rfl) (by kernel_rfl) (by kernel_rfl) (fun _ _ _ h => h) rfl ?y7A hH ?r7A
        case y7A =>
         rintro w ⟨s0, s1⟩
         go_simp
         first | with_reducible rfl | rw [if_neg (by omega)]
        try go_frame
        refine held_take 8 (v := ?v8A) rfl (by kernel_rfl) (by kernel_rfl) (by kernel_rfl) (fun _ _ _ h => h) rfl ?y8A hH ?r8A
        case y8A =>
         rintro w ⟨s0, s1⟩
         go_simp
         first | with_reducible rfl | rw [if_neg (by omega)]
        try go_frame
        refine held_take 9 (v := ?v9A) rfl (by kernel_rfl) (by kernel_rfl) (by kernel_rfl) (fun _ _ _ h => h) rfl ?y9A hH ?r9A
        case y9A =>
         rintro w ⟨s0, s1⟩
         go_simp
         first | with_reducible rfl | rw [if_neg (by omega)]
        try go_frame
        refine held_take 10 (v := ?v10A) rfl (by kernel_rfl) (by kernel_rfl) (by kernel_rfl) (fun _ _ _ h => h) rfl ?y10A hH ?r10A
        case y10A =>
         rintro w ⟨s0, s1⟩
         go_simp
         first | with_reducible rfl | rw [if_neg (by omega)]
        try go_frame
        refine wpAnyH_ready (rs := [11]) (by kernel_rfl) (by simp) ?_
        refine held_cons rfl (fun K2 hK => ?_) AllReadyH.nil
        try rw [if_pos (by rfl)]
        go_simp
        refine (HX1.out _).mono ?_
        rintro e wa ⟨rfl, hf⟩
        have Hwa := hid (HFz.out.trans hf)
        clear hf
        refine hK.out _ _ (HSP.out _ Hwa.out) (fun hH => ?_)
        clear hK K2
        try go_frame
        refine held_take 12 (v := ?v12A) rfl (by kernel_rfl) (by kernel_rfl) (by kernel_rfl) (fun _ _ _ h => h) rfl ?y12A hH ?r12A
        case y12A =>
         rintro w ⟨s0, s1⟩
         go_simp
         first | with_reducible rfl | rw [if_neg (by omega)]
        try go_frame
        refine held_take 13 (v := ?v13A) rfl (by kernel_rfl) (by kernel_rfl) (by kernel_rfl) (fun _ _ _ h => h) rfl ?y13A hH ?r13A
        case y13A =>
         rintro w ⟨s0, s1⟩
         go_simp
         first | with_reducible rfl | rw [if_neg (by omega)]
        try go_frame
        refine held_take 14 (v := ?v14A) rfl (by kernel_rfl) (by kernel_rfl) (by kernel_rfl) (fun _ _ _ h => h) rfl ?y14A hH ?r14A
        case y14A =>
         rintro w ⟨s0, s1⟩
         go_simp
         first | with_reducible rfl | rw [if_neg (by omega)]
        try go_frame
        refine held_take 15 (v := ?v15A) rfl (by kernel_rfl) (by kernel_rfl) (by kernel_rfl) (fun _ _ _ h => h) rfl ?y15A hH ?r15A
        case y15A =>
         rintro w ⟨s0, s1⟩
         go_simp
         first | with_reducible rfl | rw [if_neg (by omega)]
        try go_frame
        refine held_take 16 (v := ?v16A) rfl (by kernel_rfl) (by kernel_rfl) (by kernel_rfl) (fun _ _ _ h => h) rfl ?y16A hH ?r16A
        case y16A =>
         rintro w ⟨s0, s1⟩
         go_simp
         first | with_reducible rfl | rw [if_neg (by omega)]
        try go_frame
        refine held_take 17 (v := ?v17A) rfl (by kernel_rfl) (by kernel_rfl) (by kernel_rfl) (fun _ _ _ h => h) rfl ?y17A hH ?r17A
        case y17A =>
         rintro w ⟨s0, s1⟩
         go_simp
         first | with_reducible rfl | rw [if_neg (by omega)]
        try go_frame
        refine held_take 18 (v := ?v18A) rfl (by kernel_rfl) (by kernel_rfl) (by kernel_rfl) (fun _ _ _ h => h) rfl ?y18A hH ?r18A
        case y18A =>
         rintro w ⟨s0, s1⟩
         go_simp
         first | with_reducible rfl | rw [if_neg (by omega)]
        try go_frame
        refine held_take 19 (v := ?v19A) rfl (by kernel_rfl) (by kernel_rfl) (by kernel_rfl) (fun _ _ _ h => h) rfl ?y19A hH ?r19A
        case y19A =>
         rintro w ⟨s0, s1⟩
         go_simp
         first | with_reducible rfl | rw [if_neg (by omega)]
        try go_frame
        refine held_take 20 (v := ?v20A) rfl (by kernel_rfl) (by kernel_rfl) (by kernel_rfl) (fun _ _ _ h => h) rfl ?y20A hH ?r20A
        case y20A =>
         rintro w ⟨s0, s1⟩
         go_simp
         first | with_reducible rfl | rw [if_neg (by omega)]
        try go_frame
        refine held_take 21 (v := ?v21A) rfl (by kernel_rfl) (by kernel_rfl) (by kernel_rfl) (fun _ _ _ h => h) rfl ?y21A hH ?r21A
        case y21A =>
         rintro w ⟨s0, s1⟩
         go_simp
         first | with_reducible rfl | rw [if_neg (by omega)]
        try go_frame
        refine wpAnyH_ready (rs := [22]) (by kernel_rfl) (by simp) ?_
        refine held_cons rfl (fun K2 hK => ?_) AllReadyH.nil
        try rw [if_pos (by rfl)]
        go_simp
        refine (HX2.out _).mono ?_
        rintro e wb ⟨rfl, hf⟩
        have Hwb := hid (Hwa.out.trans hf)
        clear hf
        refine hK.out _ _ (HSP.out _ Hwb.out) (fun hH => ?_)
        clear hK K2
        try go_frame
        refine held_take 23 (v := ?v23A) rfl (by kernel_rfl) (by kernel_rfl) (by kernel_rfl) (fun _ _ _ h => h) rfl ?y23A hH ?r23A
        case y23A =>
         rintro w ⟨s0, s1⟩
         go_simp
         first | with_reducible rfl | rw [if_neg (by omega)]
        try go_frame
        refine held_take 24 (v := ?v24A) rfl (by kernel_rfl) (by kernel_rfl) (by kernel_rfl) (fun _ _ _ h => h) rfl ?y24A hH ?r24A
        case y24A =>
         rintro w ⟨s0, s1⟩
         go_simp
         first | with_reducible rfl | rw [if_neg (by omega)]
        try go_frame
        refine held_take 25 (v := ?v25A) rfl (by kernel_rfl) (by kernel_rfl) (by kernel_rfl) (fun _ _ _ h => h) rfl ?y25A hH ?r25A
        case y25A =>
         rintro w ⟨s0, s1⟩
         go_simp
         first | with_reducible rfl | rw [if_neg (by omega)]
        try go_frame
        refine wpAnyH_done (by kernel_rfl) ?_ _
        go_wp2_with fail
        go_meet
        exact ⟨rfl, Hwb⟩
       ·have e1 : (n1.toList == ((⟨#[114]⟩ : ByteArray) ++ S1).toList) = false := by rw [ba_beq, HR1t.out]; simpa using g1
        have e2 : b = false := by rw [HAx.out]; simp [g1]
        subst e2
        clear g1
        refine wp_region_held_drew (S := fun W => W.cell? ⟨og, q * 6, none⟩ = some (.string n1) ∧ W.cell? ⟨og, q * 6 + 1, none⟩ = some (.string n2)) (by kernel_rfl) (HSP.out _ HFz.out) (fun hH => ?_)
        refine held_take 0 (v := ?v0B) rfl (by kernel_rfl) (by kernel_rfl) (by kernel_rfl) (fun _ _ _ h => h) rfl ?y0B hH ?r0B
        case y0B =>
         rintro w ⟨s0, s1⟩
         go_simp
         first | with_reducible rfl | rw [if_neg (by omega)]
        try go_frame
        refine held_take 1 (v := ?v1B) rfl (by kernel_rfl) (by kernel_rfl) (by kernel_rfl) (fun _ _ _ h => h) rfl ?y1B hH ?r1B
        case y1B =>
         rintro w ⟨s0, s1⟩
         go_simp
         first | with_reducible rfl | rw [if_neg (by omega)]
        try go_frame
        refine held_take 2 (v := ?v2B) rfl (by kernel_rfl) (by kernel_rfl) (by kernel_rfl) (fun _ _ _ h => h) rfl ?y2B hH ?r2B
        case y2B =>
         rintro w ⟨s0, s1⟩
         go_simp
         first | with_reducible rfl | rw [if_neg (by omega)]
        try go_frame
        refine held_take 3 (v := ?v3B) rfl (by kernel_rfl) (by kernel_rfl) (by kernel_rfl) (fun _ _ _ h => h) rfl ?y3B hH ?r3B
        case y3B =>
         rintro w ⟨s0, s1⟩
         go_simp
         first | with_reducible rfl | rw [if_neg (by omega)]
        try go_frame
        refine held_take 4 (v := ?v4B) rfl (by kernel_rfl) (by kernel_rfl) (by kernel_rfl) (fun _ _ _ h => h) rfl ?y4B hH ?r4B
        case y4B =>
         rintro w ⟨s0, s1⟩
         go_simp
         first | with_reducible rfl | rw [if_neg (by omega)]
        try go_frame
        refine held_take 5 (v := ?v5B) rfl (by kernel_rfl) (by kernel_rfl) (by kernel_rfl) (fun _ _ _ h => h) rfl ?y5B hH ?r5B
        case y5B =>
         rintro w ⟨s0, s1⟩
         go_simp
         first | with_reducible rfl | rw [if_neg (by omega)]
        try go_frame
        refine held_take 6 (v := ?v6B) rfl (by kernel_rfl) (by kernel_rfl) (by kernel_rfl) (fun _ _ _ h => h) rfl ?y6B hH ?r6B
        case y6B =>
         rintro w ⟨s0, s1⟩
         go_simp
         first | with_reducible rfl | rw [if_neg (by omega)]
        try go_frame
        refine held_take 7 (v := ?v7B) rfl (by kernel_rfl) (by kernel_rfl) (by kernel_rfl) (fun _ _ _ h => h) rfl ?y7B hH ?r7B
        case y7B =>
         rintro w ⟨s0, s1⟩
         go_simp
         first | with_reducible rfl | rw [if_neg (by omega)]
        try go_frame
        refine held_take 8 (v := ?v8B) rfl (by kernel_rfl) (by kernel_rfl) (by kernel_rfl) (fun _ _ _ h => h) rfl ?y8B hH ?r8B
        case y8B =>
         rintro w ⟨s0, s1⟩
         go_simp
         first | with_reducible rfl | rw [if_neg (by omega)]
        try go_frame
        refine held_take 9 (v := ?v9B) rfl (by kernel_rfl) (by kernel_rfl) (by kernel_rfl) (fun _ _ _ h => h) rfl ?y9B hH ?r9B
        case y9B =>
         rintro w ⟨s0, s1⟩
         go_simp
         first | with_reducible rfl | rw [if_neg (by omega)]
        try go_frame
        refine held_take 10 (v := ?v10B) rfl (by kernel_rfl) (by kernel_rfl) (by kernel_rfl) (fun _ _ _ h => h) rfl ?y10B hH ?r10B
        case y10B =>
         rintro w ⟨s0, s1⟩
         go_simp
         first | with_reducible rfl | rw [if_neg (by omega)]
        try go_frame
        refine wpAnyH_ready (rs := [11]) (by kernel_rfl) (by simp) ?_
        refine held_cons rfl (fun K2 hK => ?_) AllReadyH.nil
        try rw [if_pos (by rfl)]
        go_simp
        refine (HX1.out _).mono ?_
        rintro e wa ⟨rfl, hf⟩
        have Hwa := hid (HFz.out.trans hf)
        clear hf
        refine hK.out _ _ (HSP.out _ Hwa.out) (fun hH => ?_)
        clear hK K2
        try go_frame
        refine held_take 12 (v := ?v12B) rfl (by kernel_rfl) (by kernel_rfl) (by kernel_rfl) (fun _ _ _ h => h) rfl ?y12B hH ?r12B
        case y12B =>
         rintro w ⟨s0, s1⟩
         go_simp
         first | with_reducible rfl | rw [if_neg (by omega)]
        try go_frame
        refine held_take 13 (v := ?v13B) rfl (by kernel_rfl) (by kernel_rfl) (by kernel_rfl) (fun _ _ _ h => h) rfl ?y13B hH ?r13B
        case y13B =>
         rintro w ⟨s0, s1⟩
         go_simp
         first | with_reducible rfl | rw [if_neg (by omega)]
        try go_frame
        refine held_take 14 (v := ?v14B) rfl (by kernel_rfl) (by kernel_rfl) (by kernel_rfl) (fun _ _ _ h => h) rfl ?y14B hH ?r14B
        case y14B =>
         rintro w ⟨s0, s1⟩
         go_simp
         first | with_reducible rfl | rw [if_neg (by omega)]
        try go_frame
        refine held_take 15 (v := ?v15B) rfl (by kernel_rfl) (by kernel_rfl) (by kernel_rfl) (fun _ _ _ h => h) rfl ?y15B hH ?r15B
        case y15B =>
         rintro w ⟨s0, s1⟩
         go_simp
         first | with_reducible rfl | rw [if_neg (by omega)]
        try go_frame
        refine held_pass 16 rfl (by kernel_rfl) (by kernel_rfl) (by kernel_rfl) (fun _ _ _ h => h) rfl hH ?_
        try go_frame
        refine held_pass 17 rfl (by kernel_rfl) (by kernel_rfl) (by kernel_rfl) (fun _ _ _ h => h) rfl hH ?_
        try go_frame
        refine held_pass 18 rfl (by kernel_rfl) (by kernel_rfl) (by kernel_rfl) (fun _ _ _ h => h) rfl hH ?_
        try go_frame
        refine held_pass 19 rfl (by kernel_rfl) (by kernel_rfl) (by kernel_rfl) (fun _ _ _ h => h) rfl hH ?_
        try go_frame
        refine held_pass 20 rfl (by kernel_rfl) (by kernel_rfl) (by kernel_rfl) (fun _ _ _ h => h) rfl hH ?_
        try go_frame
        refine held_pass 21 rfl (by kernel_rfl) (by kernel_rfl) (by kernel_rfl) (fun _ _ _ h => h) rfl hH ?_
        try go_frame
        refine held_pass 22 rfl (by kernel_rfl) (by kernel_rfl) (by kernel_rfl) (fun _ _ _ h => h) rfl hH ?_
        try go_frame
        refine held_pass 23 rfl (by kernel_rfl) (by kernel_rfl) (by kernel_rfl) (fun _ _ _ h => h) rfl hH ?_
        try go_frame
        refine held_pass 24 rfl (by kernel_rfl) (by kernel_rfl) (by kernel_rfl) (fun _ _ _ h => h) rfl hH ?_
        try go_frame
        refine held_take 25 (v := ?v25B) rfl (by kernel_rfl) (by kernel_rfl) (by kernel_rfl) (fun _ _ _ h => h) rfl ?y25B hH ?r25B
        case y25B =>
         rintro w ⟨s0, s1⟩
         go_simp
         first | with_reducible rfl | rw [if_neg (by omega)]
        try go_frame
        refine wpAnyH_done (by kernel_rfl) ?_ _
        go_wp2_with fail
        go_meet
        exact ⟨rfl, Hwa⟩
      ·have hqi : ¬ (q : Int) < (on : Int) := by omega
       have hqd : decide ((q : Int) < (on : Int)) = false := by simpa using hqi
       have e2 : b = false := by
        rw [← HBb.out]
        cases hy : comY (arR (rlM i c1)) (arR (rlM k c2)) with
        | some y =>
         have e := HAt.out.1 y hy
         have := (List.getElem?_eq_some_iff.1 e).1
         have := HON.out
         omega
        | none => rfl
       subst e2
       refine wp_region_held_drew (S := fun W => True ∧ True) (by kernel_rfl) ⟨trivial, trivial⟩ (fun hH => ?_)
       refine held_take 0 (v := ?v0C) rfl (by kernel_rfl) (by kernel_rfl) (by kernel_rfl) (fun _ _ _ h => h) rfl ?y0C hH ?r0C
       case y0C =>
        rintro w ⟨s0, s1⟩
        go_simp
        first | with_reducible rfl | rw [if_neg (by omega)]
       try go_frame
       refine held_take 1 (v := ?v1C) rfl (by kernel_rfl) (by kernel_rfl) (by kernel_rfl) (fun _ _ _ h => h) rfl ?y1C hH ?r1C
       case y1C =>
        rintro w ⟨s0, s1⟩
        go_simp
        first | with_reducible rfl | rw [if_neg (by omega)]
       try go_frame
       refine held_take 2 (v := ?v2C) rfl (by kernel_rfl) (by kernel_rfl) (by kernel_rfl) (fun _ _ _ h => h) rfl ?y2C hH ?r2C
       case y2C =>
        rintro w ⟨s0, s1⟩
        go_simp
        first | with_reducible rfl | rw [if_neg (by omega)]
       try go_frame
       refine held_take 3 (v := ?v3C) rfl (by kernel_rfl) (by kernel_rfl) (by kernel_rfl) (fun _ _ _ h => h) rfl ?y3C hH ?r3C
       case y3C =>
        rintro w ⟨s0, s1⟩
        go_simp
        first | with_reducible rfl | rw [if_neg (by omega)]
       try go_frame
       refine held_take 4 (v := ?v4C) rfl (by kernel_rfl) (by kernel_rfl) (by kernel_rfl) (fun _ _ _ h => h) rfl ?y4C hH ?r4C
       case y4C =>
        rintro w ⟨s0, s1⟩
        go_simp
        first | with_reducible rfl | rw [if_neg (by omega)]
       try go_frame
       refine held_pass 5 rfl (by kernel_rfl) (by kernel_rfl) (by kernel_rfl) (fun _ _ _ h => h) rfl hH ?_
       try go_frame
       refine held_pass 6 rfl (by kernel_rfl) (by kernel_rfl) (by kernel_rfl) (fun _ _ _ h => h) rfl hH ?_
       try go_frame
       refine held_pass 7 rfl (by kernel_rfl) (by kernel_rfl) (by kernel_rfl) (fun _ _ _ h => h) rfl hH ?_
       try go_frame
       refine held_pass 8 rfl (by kernel_rfl) (by kernel_rfl) (by kernel_rfl) (fun _ _ _ h => h) rfl hH ?_
       try go_frame
       refine held_pass 9 rfl (by kernel_rfl) (by kernel_rfl) (by kernel_rfl) (fun _ _ _ h => h) rfl hH ?_
       try go_frame
       refine held_pass 10 rfl (by kernel_rfl) (by kernel_rfl) (by kernel_rfl) (fun _ _ _ h => h) rfl hH ?_
       try go_frame
       refine held_pass 11 rfl (by kernel_rfl) (by kernel_rfl) (by kernel_rfl) (fun _ _ _ h => h) rfl hH ?_
       try go_frame
       refine held_pass 12 rfl (by kernel_rfl) (by kernel_rfl) (by kernel_rfl) (fun _ _ _ h => h) rfl hH ?_
       try go_frame
       refine held_pass 13 rfl (by kernel_rfl) (by kernel_rfl) (by kernel_rfl) (fun _ _ _ h => h) rfl hH ?_
       try go_frame
       refine held_take 14 (v := ?v14C) rfl (by kernel_rfl) (by kernel_rfl) (by kernel_rfl) (fun _ _ _ h => h) rfl ?y14C hH ?r14C
       case y14C =>
        rintro w ⟨s0, s1⟩
        go_simp
        first | with_reducible rfl | rw [if_neg (by omega)]
       try go_frame
       refine held_take 15 (v := ?v15C) rfl (by kernel_rfl) (by kernel_rfl) (by kernel_rfl) (fun _ _ _ h => h) rfl ?y15C hH ?r15C
       case y15C =>
        rintro w ⟨s0, s1⟩
        go_simp
        first | with_reducible rfl | rw [if_neg (by omega)]
       try go_frame
       refine held_pass 16 rfl (by kernel_rfl) (by kernel_rfl) (by kernel_rfl) (fun _ _ _ h => h) rfl hH ?_
       try go_frame
       refine held_pass 17 rfl (by kernel_rfl) (by kernel_rfl) (by kernel_rfl) (fun _ _ _ h => h) rfl hH ?_
       try go_frame
       refine held_pass 18 rfl (by kernel_rfl) (by kernel_rfl) (by kernel_rfl) (fun _ _ _ h => h) rfl hH ?_
       try go_frame
       refine held_pass 19 rfl (by kernel_rfl) (by kernel_rfl) (by kernel_rfl) (fun _ _ _ h => h) rfl hH ?_
       try go_frame
       refine held_pass 20 rfl (by kernel_rfl) (by kernel_rfl) (by kernel_rfl) (fun _ _ _ h => h) rfl hH ?_
       try go_frame
       refine held_pass 21 rfl (by kernel_rfl) (by kernel_rfl) (by kernel_rfl) (fun _ _ _ h => h) rfl hH ?_
       try go_frame
       refine held_pass 22 rfl (by kernel_rfl) (by kernel_rfl) (by kernel_rfl) (fun _ _ _ h => h) rfl hH ?_
       try go_frame
       refine held_pass 23 rfl (by kernel_rfl) (by kernel_rfl) (by kernel_rfl) (fun _ _ _ h => h) rfl hH ?_
       try go_frame
       refine held_pass 24 rfl (by kernel_rfl) (by kernel_rfl) (by kernel_rfl) (fun _ _ _ h => h) rfl hH ?_
       try go_frame
       refine held_take 25 (v := ?v25C) rfl (by kernel_rfl) (by kernel_rfl) (by kernel_rfl) (fun _ _ _ h => h) rfl ?y25C hH ?r25C
       case y25C =>
        rintro w ⟨s0, s1⟩
        go_simp
        first | with_reducible rfl | rw [if_neg (by omega)]
       try go_frame
       refine wpAnyH_done (by kernel_rfl) ?_ _
       go_wp2_with fail
       go_meet
       exact ⟨rfl, HFz⟩
     case rest =>
      obtain ⟨hv, HFc⟩ := hcut
      subst hv
      generalize wc = w3 at *
      cases hy : comY (arR (rlM i c1)) (arR (rlM k c2)) with
      | some y =>
       have eb : b = true := by rw [← HBb.out, hy]; rfl
       subst eb
       have hx := HAt.out.1 y hy
       have hqo : q < on := by have := (List.getElem?_eq_some_iff.1 hx).1; have := HON.out; omega
       have hqi : (q : Int) < (on : Int) := by omega
       have hmr := HRl.out _ (List.mem_of_getElem? HR1.out)
       obtain ⟨hok, hm1, hm2⟩ := com_told hmr.1 hmr.2 hy
       have HJn : Hid (q + 1 = (ovI R i ++ ovJ R i (j + 1)).length) := by
        show _ = _
        rw [show ovJ R i (j + 1) = ovJ R i j ++ ov1 R i (i + 1 + j) from rfl, ← HK.out, ← List.append_assoc, List.length_append, ← HQ.out]
        simp only [ov1, HR1.out, HR2.out, hy]
        rfl
       obtain ⟨pw, hpw⟩ : ∃ pw, tolP y.1 = pw := ⟨_, rfl⟩
       rw [hpw] at hx hok hm1 hm2
       have HPw : Hid (pw.pan.size ≤ maxLen) := by
        show _ ≤ _
        have h1 : panOk pw.pan = true := by unfold payOk at hok; simp only [Bool.and_eq_true] at hok; exact hok.1.1
        have := (pan_digit h1).2.1
        unfold maxLen
        omega
       obtain ⟨o1, ho1⟩ : ∃ o, decM rts3 [(alX c1).rl [0] 3] pw (dnF rts3 []) = o := ⟨_, rfl⟩
       obtain ⟨o2, ho2⟩ : ∃ o, decM rts3 [(alX c2).rl [0] 3] pw (dnF rts3 []) = o := ⟨_, rfl⟩
       have HZ1 : Hid (o1.1 = 0) := by show _ = _; rw [← ho1, al_dec i c1 pw hok, if_pos hm1]
       have HZ2 : Hid (o2.1 = 0) := by show _ = _; rw [← ho2, al_dec k c2 pw hok, if_pos hm2]
       have HO1 := hid ho1
       have HO2 := hid ho2
       obtain ⟨og, eo, hoc⟩ := HO.out q _ hx
       subst eo
       have HSW : Hid (∀ W, Fr (fun _ => False) w2 W → W.cell? ⟨og, q * 6 + 2, none⟩ = some (.string pw.pan) ∧ W.cell? ⟨og, q * 6 + 2 + 1, none⟩ = some (.int .i64 pw.mcc) ∧ W.cell? ⟨og, q * 6 + 2 + 2, none⟩ = some (.int .i64 pw.am) ∧ W.cell? ⟨og, q * 6 + 2 + 3, none⟩ = some (.int .i64 pw.cur)) := fun W hf => by
        have h1 : ∀ j v, (ovRow ((rlM i c1).name, (rlM k c2).name, pw))[j]? = some v → W.cell? ⟨og, q * 6 + j, none⟩ = some v := fun j v hv => ((HF2.out.trans hf).cell (p := ⟨og, q * 6 + j, none⟩) (World.block_lt_of_cell? w _ (hoc j v hv)) (by simp)).trans (hoc j v hv)
        exact ⟨h1 2 _ rfl, h1 3 _ rfl, h1 4 _ rfl, h1 5 _ rfl⟩
       clear hx hmr hok hm1 hm2 ho1 ho2 hoc hpw hy HAt HBb
       obtain ⟨z2, z3, z4, z5⟩ := HSW.out w3 HFc.out
       go_wp2_with fail
       refine (HC.out pw HPw.out _ _ _ _ (HT1'.out.fr HFc.out) HO1.out).mono ?_
       rintro e w4 ⟨rfl, hfw4⟩
       have HFd : Hid (Fr (fun _ => False) w2 (w4.alloc (.cells #[.int .i64 (o1.1 : Nat), .string o1.2.1, .string o1.2.2] 38))) := (HFc.out.trans hfw4).alloc _
       have Qw4 : Hid ((w4.alloc (.cells #[.int .i64 (o1.1 : Nat), .string o1.2.1, .string o1.2.2] 38)).heap[w4.heap.size]? = some (oK o1)) := heap_alloc_new w4 (oK o1)
       have HSw4 : Hid (Fr (fun _ => False) _ (w4.alloc (.cells #[.int .i64 (o1.1 : Nat), .string o1.2.1, .string o1.2.2] 38))) := hid (hfw4.alloc _)
       clear hfw4
       clear z2 z3 z4 z5
       obtain ⟨z2, z3, z4, z5⟩ := HSW.out _ HFd.out
       go_wp2_with fail
       refine (HC.out pw HPw.out _ _ _ _ (HT2.out.fr HFd.out) HO2.out).mono ?_
       rintro e w5 ⟨rfl, hfw5⟩
       have HFe : Hid (Fr (fun _ => False) w2 (w5.alloc (.cells #[.int .i64 (o2.1 : Nat), .string o2.2.1, .string o2.2.2] 38))) := (HFd.out.trans hfw5).alloc _
       have Qw5 : Hid ((w5.alloc (.cells #[.int .i64 (o2.1 : Nat), .string o2.2.1, .string o2.2.2] 38)).heap[w5.heap.size]? = some (oK o2)) := heap_alloc_new w5 (oK o2)
       have HSw5 : Hid (Fr (fun _ => False) _ (w5.alloc (.cells #[.int .i64 (o2.1 : Nat), .string o2.2.1, .string o2.2.2] 38))) := hid (hfw5.alloc _)
       clear hfw5
       clear z2 z3 z4 z5
       go_upto_region 31 with fail
       have HFn := hid (HF2.out.trans HFe.out)
       have bO := Qw5.out
       have bB := HSw5.out.whole Qw4.out (by simp)
       generalize w5.alloc (.cells #[.int .i64 (o2.1 : Nat), .string o2.2.1, .string o2.2.2] 38) = w6 at *
       have O0 : w6.cell? ⟨w5.heap.size, 0, none⟩ = some (.int .i64 0) := by
        have e : w6.cell? ⟨w5.heap.size, 0, none⟩ = some (.int .i64 (o2.1 : Nat)) := block_cell bO 0 _ rfl
        rw [HZ2.out] at e
        exact e
       have B0 : w6.cell? ⟨w4.heap.size, 0, none⟩ = some (.int .i64 0) := by
        have e : w6.cell? ⟨w4.heap.size, 0, none⟩ = some (.int .i64 (o1.1 : Nat)) := block_cell bB 0 _ rfl
        rw [HZ1.out] at e
        exact e
       clear bB bO
       go_wp2_with fail
       go_roundg (m - (k + 1))
       case measure => omega
       case rel => exact ⟨j + 1, k + 1, q + 1, by omega, rfl, by go_num, by go_num, by omega, by show k + 1 = i + 1 + (j + 1); have := HK.out; omega, HJn, HFn⟩
      | none =>
       have eb : b = false := by rw [← HBb.out, hy]; rfl
       subst eb
       have hmr := HRl.out _ (List.mem_of_getElem? HR1.out)
       have hnot := com_not hmr.1 hmr.2 hy p HP.out
       have HJn : Hid (q = (ovI R i ++ ovJ R i (j + 1)).length) := by
        show _ = _
        rw [show ovJ R i (j + 1) = ovJ R i j ++ ov1 R i (i + 1 + j) from rfl, ← HK.out, ← List.append_assoc, List.length_append, ← HQ.out]
        simp only [ov1, HR1.out, HR2.out, hy]
        rfl
       obtain ⟨o1, ho1⟩ : ∃ o, decM rts3 [(alX c1).rl [0] 3] p (dnF rts3 []) = o := ⟨_, rfl⟩
       obtain ⟨o2, ho2⟩ : ∃ o, decM rts3 [(alX c2).rl [0] 3] p (dnF rts3 []) = o := ⟨_, rfl⟩
       have HZ : Hid (o1.1 = 2 ∨ o1.1 = 0 ∧ o2.1 = 2) := by
        show _ ∨ _
        rw [← ho1, ← ho2, al_dec i c1 p HP.out, al_dec k c2 p HP.out]
        by_cases g1 : meet1 (rlM i c1) p (card6 p.pan) = true
        ·have g2 : ¬ meet1 (rlM k c2) p (card6 p.pan) = true := fun h => hnot ⟨g1, h⟩
         rw [if_pos g1, if_neg g2]
         exact .inr ⟨rfl, rfl⟩
        ·rw [if_neg g1]
         exact .inl rfl
       have HO1 := hid ho1
       have HO2 := hid ho2
       have HSW : Hid (∀ W, Fr (fun _ => False) w2 W → W.cell? ⟨P, 0, none⟩ = some (.string p.pan) ∧ W.cell? ⟨P, 1, none⟩ = some (.int .i64 p.mcc) ∧ W.cell? ⟨P, 2, none⟩ = some (.int .i64 p.am) ∧ W.cell? ⟨P, 3, none⟩ = some (.int .i64 p.cur)) := fun W hf => by
        have h1 := (HF2.out.trans hf).whole HB.out (by simp)
        exact ⟨block_cell h1 0 _ rfl, block_cell h1 1 _ rfl, block_cell h1 2 _ rfl, block_cell h1 3 _ rfl⟩
       clear hmr hnot ho1 ho2 hy HAt HBb
       obtain ⟨z2, z3, z4, z5⟩ := HSW.out w3 HFc.out
       go_wp2_with fail
       refine (HC.out p HPS.out _ _ _ _ (HT1'.out.fr HFc.out) HO1.out).mono ?_
       rintro e w4 ⟨rfl, hfw4⟩
       have HFd : Hid (Fr (fun _ => False) w2 (w4.alloc (.cells #[.int .i64 (o1.1 : Nat), .string o1.2.1, .string o1.2.2] 38))) := (HFc.out.trans hfw4).alloc _
       have Qw4 : Hid ((w4.alloc (.cells #[.int .i64 (o1.1 : Nat), .string o1.2.1, .string o1.2.2] 38)).heap[w4.heap.size]? = some (oK o1)) := heap_alloc_new w4 (oK o1)
       have HSw4 : Hid (Fr (fun _ => False) _ (w4.alloc (.cells #[.int .i64 (o1.1 : Nat), .string o1.2.1, .string o1.2.2] 38))) := hid (hfw4.alloc _)
       clear hfw4
       clear z2 z3 z4 z5
       obtain ⟨z2, z3, z4, z5⟩ := HSW.out _ HFd.out
       go_wp2_with fail
       refine (HC.out p HPS.out _ _ _ _ (HT2.out.fr HFd.out) HO2.out).mono ?_
       rintro e w5 ⟨rfl, hfw5⟩
       have HFe : Hid (Fr (fun _ => False) w2 (w5.alloc (.cells #[.int .i64 (o2.1 : Nat), .string o2.2.1, .string o2.2.2] 38))) := (HFd.out.trans hfw5).alloc _
       have Qw5 : Hid ((w5.alloc (.cells #[.int .i64 (o2.1 : Nat), .string o2.2.1, .string o2.2.2] 38)).heap[w5.heap.size]? = some (oK o2)) := heap_alloc_new w5 (oK o2)
       have HSw5 : Hid (Fr (fun _ => False) _ (w5.alloc (.cells #[.int .i64 (o2.1 : Nat), .string o2.2.1, .string o2.2.2] 38))) := hid (hfw5.alloc _)
       clear hfw5
       clear z2 z3 z4 z5
       go_upto_region 36 with fail
       have HFn := hid (HF2.out.trans HFe.out)
       have bO := Qw5.out
       have bB := HSw5.out.whole Qw4.out (by simp)
       generalize w5.alloc (.cells #[.int .i64 (o2.1 : Nat), .string o2.2.1, .string o2.2.2] 38) = w6 at *
       have O0 : w6.cell? ⟨w5.heap.size, 0, none⟩ = some (.int .i64 (o2.1 : Nat)) := block_cell bO 0 _ rfl
       have B0 : w6.cell? ⟨w4.heap.size, 0, none⟩ = some (.int .i64 (o1.1 : Nat)) := block_cell bB 0 _ rfl
       clear bB bO
       rcases HZ.out with e1 | ⟨e1, e2⟩
       ·rw [e1] at B0
        clear e1
        go_wp2_with fail
        go_roundg (m - (k + 1))
        case measure => omega
        case rel => exact ⟨j + 1, k + 1, q, by omega, rfl, by go_num, rfl, hq, by show k + 1 = i + 1 + (j + 1); have := HK.out; omega, HJn, HFn⟩
       ·rw [e1] at B0
        rw [e2] at O0
        clear e1 e2
        go_wp2_with fail
        go_roundg (m - (k + 1))
        case measure => omega
        case rel => exact ⟨j + 1, k + 1, q, by omega, rfl, by go_num, rfl, hq, by show k + 1 = i + 1 + (j + 1); have := HK.out; omega, HJn, HFn⟩
    ·have hkk : ¬ (k : Int) < (m : Int) := by omega
     have HQn : Hid (q = (ovI R (i + 1)).length) := by
      show _ = _
      rw [show ovI R (i + 1) = ovI R i ++ ovJ R i (R.length - (i + 1)) from rfl, HRn.out, show m - (i + 1) = j from by have := HK.out; omega]
      exact HQ.out
     clear HQ HK
     go_wp2_with fail
     go_roundg (m - (i + 1))
     case measure => omega
     case rel => exact ⟨i + 1, q, by omega, rfl, by go_num, rfl, hq, HQn, HFx⟩
  ·have hki : ¬ (i : Int) < (m : Int) := by omega
   have eq : q0 = on := by
    rw [HQ0.out, ← HON.out, show i = R.length from by have := HRn.out; omega]
    rfl
   subst eq
   clear HQ0
   go_wp2_with fail
   go_ret
   exact ⟨rfl, HF.out.trans HFr.out⟩
end Go.Proofs.YtccikgogjfbpeaaGreatDoor
