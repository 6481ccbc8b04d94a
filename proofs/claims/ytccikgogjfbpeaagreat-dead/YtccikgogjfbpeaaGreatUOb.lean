/- The keep Dead: a number below nought as a text; what is put together, walked. The keep Dead: from the table of what is left on. -/
import Derived.Test.YtccikgogjfbpeaaGreatUHa
import Derived.Test.YtccikgogjfbpeaaGreatUOa
import Derived.Test.YtccikgogjfbpeaaGreatUKi
namespace Go.Proofs.YtccikgogjfbpeaaGreat
open Go.RowKit

set_option maxRecDepth 30000 in
set_option maxHeartbeats 2000000 in
theorem kdig_neg (w : World) :
  Calls Tryz.prog 18 #[.int .i64 (-1), .int .i64 1] w fun e w' => e = .returned (.string ⟨#[47]⟩) ∧ Fr (fun _ => False) w w' := by
 go_enter Tryz.func18, Tryz.ntmps18
 go_wp2_with fail
 go_loopg [0, 5] 1 (fun mm nv sv wr => (mm = 1 ∧ nv = .int .i64 (-1) ∧ sv = .string ⟨#[]⟩ ∧ Hid (Fr (fun _ => False) w wr)) ∨ (mm = 0 ∧ nv = .int .i64 0 ∧ sv = .string ⟨#[47]⟩ ∧ Hid (Fr (fun _ => False) w wr)))
 case atStart => exact .inl ⟨rfl, rfl, rfl, Fr.refl _ _⟩
 case round =>
  rcases hrel with ⟨rfl, rfl, rfl, HFr⟩ | ⟨rfl, rfl, rfl, HFr⟩
  ·have HFa : Hid (Fr (fun _ => False) w (wr.alloc (.cells #[.int .u8 47] 5))) := HFr.out.alloc _
   have hcv : (convert 55 9 (.slice (some ⟨wr.heap.size, 0, none⟩) 1 1)).run Tryz.prog (wr.alloc (.cells #[.int .u8 47] 5)) = .ok (.string ⟨#[47]⟩) (wr.alloc (.cells #[.int .u8 47] 5)) := by
    have e := run_convert_bytes_back (P := Tryz.prog) (wr.alloc (.cells #[.int .u8 47] 5)) 55 9 5 ⟨wr.heap.size, 0, none⟩ 1 [47] Tryz.underlying55 Tryz.underlying5 Tryz.underlying9 (by
     intro j hj
     have : j = 0 := by simpa using hj
     subst this
     rw [show (⟨wr.heap.size, 0, none⟩ : Addr).add 0 = ⟨wr.heap.size, 0, none⟩ from rfl]
     exact block_cell (heap_alloc_new wr _) 0 _ rfl)
    simpa using e
   go_wp2_with fail
   go_roundg 0
   case measure => omega
   case rel => exact .inr ⟨rfl, by go_num, rfl, HFa⟩
  ·go_wp2_with fail
   go_ret
   exact ⟨rfl, HFr.out⟩
set_option maxRecDepth 30000 in
set_option maxHeartbeats 400000 in
theorem ktext_neg (w : World) :
  Calls Tryz.prog 9 #[.int .i64 (-1)] w fun e w' => e = .returned (.string ⟨#[47]⟩) ∧ Fr (fun _ => False) w w' := by
 have HC := hid (kdig_neg w)
 go_enter Tryz.func9, Tryz.ntmps9
 go_wp2_with fail
 refine HC.out.mono ?_
 rintro e w1 ⟨rfl, hf⟩
 have HF := hid hf
 clear hf HC
 go_wp2_with fail
 go_ret
 exact ⟨rfl, HF.out⟩
end Go.Proofs.YtccikgogjfbpeaaGreat

namespace Go.Proofs.YtccikgogjfbpeaaGreat
open Go.RowKit

/-- Does a code begin with region n? -/
def headOf (n : Nat) : Code → Bool
 | .region m _ _ => m == n
 | .seq a _ => headOf n a
 | _ => false
/-- The rest of a chain, from region n on. -/
def restOf (n : Nat) : Code → Option Code
 | .seq a b => if headOf n a then some (.seq a b) else restOf n b
 | _ => none
def restFrom (f : Func) (n : Nat) : Code := (f.body.bind (restOf n)).getD .skip
set_option maxRecDepth 1000000 in
set_option maxHeartbeats 8000000 in
theorem dead_tail31 (w0 w : World) (T : Nat) (R R' : List RuleM) (da : Option Addr) (dn dc : Nat) (la : Option Addr) (ln lc : Nat) (ls : List ByteArray) (pa : Option Addr) (pn pc : Nat) (pl : List Int)
  (hF : Fr (fun _ => False) w0 w) (hT : TqAt w T rts3 R) (hs : StrsAt w la ls) (hl : ls.length = ln) (h8 : ln ≤ 8) (hsz : ∀ b, b ∈ ls → b.size ≤ 100) (hrd : readM (bs (whT ls)) = .ok (rts3, R'))
  (hdec : ∀ p, payOk p = true → decM rts3 R' p (dnF rts3 []) = decM rts3 R p (dnF rts3 [])) (hded : dedN R' = [])
  (hpl : pl.length = pn) (hpr : RawAt w pa pl) (hpi : ∀ x, x ∈ pl → InI x)
  (t0 t2 t3 t4 t5 t6 t7 t8 t13 t14 t15 t16 t17 t18 t19 t20 t21 t22 t23 t24 t25 t26 t27 t28 t29 t30 t31 t32 t33 t34 t35 t36 t37 t38 t39 t40 t41 t42 t43 t44 t45 t46 t47 t48 t49 t50 t51 t52 t53 t54 t55 t56 t57 t58 t59 t60 t61 t62 t63 t64 t65 t66 t67 t68 t69 t70 t71 t72 t73 t74 t75 t76 t77 t78 t79 t80 t81 t82 t83 t84 t85 t86 t87 t88 t89 t90 t91 t92 t93 t94 t95 t96 t97 t98 t99 t100 t101 t102 t103 t104 t105 t106 t107 t108 t109 t110 t111 t112 t113 t114 t115 t116 t117 t118 t119 t120 t121 t122 t123 t124 t125 t126 t127 t128 t129 t130 t131 t132 t133 t134 t135 t136 t137 t138 t139 t140 t141 : Value) :
  Code.wp Tryz.prog (restFrom Tryz.f5 31) (bodyPost Tryz.prog Tryz.f5 fun e w' => e = .returned (.bool true) ∧ Fr (fun _ => False) w0 w') ⟨#[t0, .slice pa pn pc, t2, t3, t4, t5, t6, t7, t8, .pointer (some ⟨T, 0, none⟩), .slice da dn dc, .slice la ln lc, .int .i64 (dn : Nat), t13, t14, t15, t16, t17, t18, t19, t20, t21, t22, t23, t24, t25, t26, t27, t28, t29, t30, t31, t32, t33, t34, t35, t36, t37, t38, t39, t40, t41, t42, t43, t44, t45, t46, t47, t48, t49, t50, t51, t52, t53, t54, t55, t56, t57, t58, t59, t60, t61, t62, t63, t64, t65, t66, t67, t68, t69, t70, t71, t72, t73, t74, t75, t76, t77, t78, t79, t80, t81, t82, t83, t84, t85, t86, t87, t88, t89, t90, t91, t92, t93, t94, t95, t96, t97, t98, t99, t100, t101, t102, t103, t104, t105, t106, t107, t108, t109, t110, t111, t112, t113, t114, t115, t116, t117, t118, t119, t120, t121, t122, t123, t124, t125, t126, t127, t128, t129, t130, t131, t132, t133, t134, t135, t136, t137, t138, t139, t140, t141], []⟩ w := by
 conv => arg 2; whnf
 have HF := hid hF
 have HT := hid hT
 have HDe := hid hdec
 have HDd := hid hded
 have HPL : Hid (pl.length = pn ∧ RawAt w pa pl ∧ ∀ x, x ∈ pl → InI x) := ⟨hpl, hpr, hpi⟩
 have HWh := hid (kwhole_any w la ln lc ls hl (by omega) hs hsz)
 have HTb := hid (ktq_any _ w _ hrd)
 generalize bs (whT ls) = S1 at *
 clear hF hT hdec hded hpl hpr hpi hs hl hsz hrd
 go_wp2_with fail
 refine HWh.out.mono ?_
 rintro e w' ⟨rfl, he⟩
 replace he := he.symm
 subst he
 go_wp2_with fail
 refine HTb.out.mono ?_
 rintro e w1 ⟨⟨TF, rfl, hTF⟩, hf1⟩
 have HTF := hid hTF
 have HF1 := hid hf1
 clear hTF hf1 HWh HTb
 go_wp2_with fail
 refine (kpayment_any w1 pa pn pc pl HPL.out.1 (HPL.out.2.1.fr HF1.out) HPL.out.2.2).mono ?_
 rintro e w6 ⟨⟨p, rfl, hpo, hps⟩, hf6⟩
 have HPO := hid hpo
 have HPS : Hid (p.pan.size ≤ maxLen) := by show _ ≤ _; unfold maxLen; omega
 have HF6 := hid (HF.out.trans (HF1.out.trans hf6))
 have HT6 := hid (HT.out.fr (HF1.out.trans hf6))
 have HTF6 := hid (HTF.out.fr hf6)
 clear hpo hps hf6 HTF HT HF HF1 HPL
 unfold payV
 have HB7 : Hid ((w6.alloc (.cells #[.string p.pan, .int .i64 p.mcc, .int .i64 p.am, .int .i64 p.cur] 34)).heap[w6.heap.size]? = some (payO p)) := heap_alloc_new w6 (payO p)
 have HF7 : Hid (Fr (fun _ => False) w6 (w6.alloc (.cells #[.string p.pan, .int .i64 p.mcc, .int .i64 p.am, .int .i64 p.cur] 34))) := (Fr.refl _ _).alloc _
 go_upto_region 35 with fail
 generalize w6.alloc (.cells #[.string p.pan, .int .i64 p.mcc, .int .i64 p.am, .int .i64 p.cur] 34) = w7 at *
 obtain ⟨P, hP⟩ : ∃ P, w6.heap.size = P := ⟨_, rfl⟩
 rw [hP] at HB7
 rw [hP]
 clear hP
 obtain ⟨o, ho⟩ : ∃ o, decM rts3 R p (dnF rts3 []) = o := ⟨_, rfl⟩
 have HO := hid ho
 have HO' : Hid (decM rts3 R' p (dnF rts3 []) = o) := (HDe.out p HPO.out).trans ho
 clear ho
 have HC : Hid (∀ (W : World) (T : Nat) (R : List RuleM) (o : Nat × ByteArray × ByteArray), TqAt W T rts3 R → decM rts3 R p (dnF rts3 []) = o → Calls Tryz.prog 11 #[.pointer (some ⟨T, 0, none⟩), .agg #[.string p.pan, .int .i64 p.mcc, .int .i64 p.am, .int .i64 p.cur], .slice none 0 0] W fun e w' => e = .returned (.agg #[.int .i64 (o.1 : Nat), .string o.2.1, .string o.2.2]) ∧ Fr (fun _ => False) W w') := fun W T R o h1 h2 => by
  have e := h1.1.decide0 p HPS.out
  rw [h2] at e
  exact e
 have HFw := hid (Fr.refl (fun _ => False) w7)
 have y0 := block_cell (HFw.out.whole HB7.out (by simp)) 0 _ rfl
 have y1 := block_cell (HFw.out.whole HB7.out (by simp)) 1 _ rfl
 have y2 := block_cell (HFw.out.whole HB7.out (by simp)) 2 _ rfl
 have y3 := block_cell (HFw.out.whole HB7.out (by simp)) 3 _ rfl
 go_wp2_with fail
 refine (HC.out _ _ _ o (HT6.out.fr (HF7.out.trans HFw.out)) HO.out).mono ?_
 rintro e w8 ⟨rfl, hfw8⟩
 clear y0 y1 y2 y3
 have HF8 : Hid (Fr (fun _ => False) w7 (w8.alloc (.cells #[.int .i64 (o.1 : Nat), .string o.2.1, .string o.2.2] 31))) := (HFw.out.trans hfw8).alloc _
 have HQB : Hid ((w8.alloc (.cells #[.int .i64 (o.1 : Nat), .string o.2.1, .string o.2.2] 31)).heap[w8.heap.size]? = some (oK o)) := heap_alloc_new w8 (oK o)
 have HSQB : Hid (Fr (fun _ => False) _ (w8.alloc (.cells #[.int .i64 (o.1 : Nat), .string o.2.1, .string o.2.2] 31))) := hid (hfw8.alloc _)
 clear hfw8
 have y0 := block_cell (HF8.out.whole HB7.out (by simp)) 0 _ rfl
 have y1 := block_cell (HF8.out.whole HB7.out (by simp)) 1 _ rfl
 have y2 := block_cell (HF8.out.whole HB7.out (by simp)) 2 _ rfl
 have y3 := block_cell (HF8.out.whole HB7.out (by simp)) 3 _ rfl
 go_wp2_with fail
 refine (HC.out _ _ _ o (HTF6.out.fr (HF7.out.trans HF8.out)) HO'.out).mono ?_
 rintro e w9 ⟨rfl, hfw9⟩
 clear y0 y1 y2 y3
 have HF9 : Hid (Fr (fun _ => False) w7 (w9.alloc (.cells #[.int .i64 (o.1 : Nat), .string o.2.1, .string o.2.2] 31))) := (HF8.out.trans hfw9).alloc _
 have HQO : Hid ((w9.alloc (.cells #[.int .i64 (o.1 : Nat), .string o.2.1, .string o.2.2] 31)).heap[w9.heap.size]? = some (oK o)) := heap_alloc_new w9 (oK o)
 have HSQO : Hid (Fr (fun _ => False) _ (w9.alloc (.cells #[.int .i64 (o.1 : Nat), .string o.2.1, .string o.2.2] 31))) := hid (hfw9.alloc _)
 clear hfw9
 have HDx := hid (tDead_any (w9.alloc (.cells #[.int .i64 (o.1 : Nat), .string o.2.1, .string o.2.2] 31)) TF rts3 R' (HTF6.out.fr (HF7.out.trans HF9.out)))
 go_wp2_with (go_at_call 17; refine HDx.out.mono ?_)
 rintro e wA ⟨⟨v, rfl, _, hz⟩, hfA⟩
 have hz := hz HDd.out
 subst hz
 have bO := hfA.whole HQO.out (by simp)
 have bB := (HSQO.out.trans hfA).whole HQB.out (by simp)
 have HFin := hid (((HF6.out.trans HF7.out).trans HF9.out).trans hfA)
 clear hfA HDx HSQB HSQO HQB HQO HF7 HF8 HF9 HFw HC HT6 HTF6 HO HO' HB7 HF6 HDe HDd
 obtain ⟨o1, o2, o3⟩ := o
 have O0 : wA.cell? ⟨w9.heap.size, 0, none⟩ = some (.int .i64 (o1 : Nat)) := block_cell bO 0 _ rfl
 have O1 : wA.cell? ⟨w9.heap.size, 1, none⟩ = some (.string o2) := block_cell bO 1 _ rfl
 have O2 : wA.cell? ⟨w9.heap.size, 2, none⟩ = some (.string o3) := block_cell bO 2 _ rfl
 have B0 : wA.cell? ⟨w8.heap.size, 0, none⟩ = some (.int .i64 (o1 : Nat)) := block_cell bB 0 _ rfl
 have B1 : wA.cell? ⟨w8.heap.size, 1, none⟩ = some (.string o2) := block_cell bB 1 _ rfl
 have B2 : wA.cell? ⟨w8.heap.size, 2, none⟩ = some (.string o3) := block_cell bB 2 _ rfl
 clear bO bB
 go_wp2_with fail
 go_ret
 exact ⟨rfl, HFin.out⟩
end Go.Proofs.YtccikgogjfbpeaaGreat
