/- The keep Carried: bits turned, bytes cut, bytes more. -/
import Derived.Test.YtccikgogjfbpeaaGreatDoorCHa
import Derived.Test.YtccikgogjfbpeaaGreatDoorCJe
namespace Go.Proofs.YtccikgogjfbpeaaGreatDoor
open Go.RowKit
def headOf (n : Nat) : Code → Bool
 | .region m _ _ => m == n
 | .seq a _ => headOf n a
 | _ => false
def restOf (n : Nat) : Code → Option Code
 | .seq a b => if headOf n a then some (.seq a b) else restOf n b
 | _ => none
def restFrom (f : Func) (n : Nat) : Code := (f.body.bind (restOf n)).getD .skip
def BtAt (w : World) (g : Nat) (l : List UInt8) : Prop := ∀ j c, l[j]? = some c → w.cell? ⟨g, j, none⟩ = some (.int .u8 (c.toNat : Nat)) ∧ w.frozen? ⟨g, j, none⟩ = false
theorem btAt_new (w : World) (s : ByteArray) : BtAt (Lib.bytesWorld w 5 s) w.heap.size s.data.toList := by
 intro j c hj
 have hl := (List.getElem?_eq_some_iff.1 hj).1
 have hs : j < s.size := by simpa using hl
 refine ⟨?_, ?_⟩
 ·rw [Lib.bytesWorld_cell w 5 s j hs, List.getD, hj]
  rfl
 ·simp [World.frozen?, Lib.bytesWorld_at_new, Lib.bytesCells]
  omega
theorem BtAt.set {w : World} {g : Nat} {l : List UInt8} (h : BtAt w g l) (j : Nat) (y : UInt8) (hj : j < l.length) : BtAt (w.setCell ⟨g, j, none⟩ (.int .u8 (y.toNat : Nat))) g (l.set j y) := by
 intro i c hi
 rw [List.getElem?_set] at hi
 split at hi
 ·rename_i e
  subst e
  try rw [if_pos hj] at hi
  injection hi with hi
  subst hi
  have h1 := h j _ (List.getElem?_eq_getElem hj)
  exact ⟨World.cell?_setCell_same _ _ _ h1.1, by simp [h1.2]⟩
 ·rename_i e
  have h1 := h i c hi
  exact ⟨(World.cell?_setCell_other _ _ _ _ (fun e2 => e (by injection e2))).trans h1.1, by simp [h1.2]⟩
set_option maxRecDepth 1000000 in
set_option maxHeartbeats 8000000 in
theorem carried_tail24 (w0 w : World) (S : ByteArray) (b l C : List UInt8) (td : TrD) (cu : Int) (g n cap a' m : Nat) (tb : Bool) (hi3 : InI cu) (hl : S.data.toList = l) (hS : openM l = some b) (hT : loadM l = some td) (hH : Hal w) (hF : Fr (fun _ => False) w0 w) (hln : l.length = n) (hC : C.length = n) (hd : leN C = leN l ^^^ 2 ^ a' * m) (hm : m < 4294967296) (htb : tb = true ↔ m ≠ 0) (hB : BtAt w g C)
  (t0 t1 t2 t3 t5 t6 t7 t8 t9 t10 t11 t12 t14 t15 t16 t17 t18 t19 t21 t23 t24 t25 t26 t27 t28 t29 t30 t31 t32 t33 t34 t35 t36 t37 t38 t39 t40 t41 t42 t43 t44 t45 t46 t47 t48 t49 t50 t51 t52 t53 t54 t55 t56 t57 t58 t59 t60 t61 t62 t63 t64 t65 t66 t67 t68 t69 t70 t71 t72 t73 t74 t75 t76 t77 t78 t79 t80 t81 t82 t83 t84 t85 t86 t87 t88 t89 t90 t91 t92 t93 t94 t95 t96 t97 t98 t99 t100 t101 t102 t103 t104 t105 t106 t107 t108 t109 t110 t111 t112 t113 t114 t115 t116 t117 t118 t119 t120 t121 t122 t123 t124 t125 t126 t127 t128 t129 t130 t131 t132 t133 t134 t135 t136 t137 t138 t139 t140 t141 t142 t143 t144 t145 t146 t147 t148 t149 t150 t151 t152 t153 t154 t155 t156 t157 t158 t159 t160 t161 t162 t163 t164 t165 t166 t167 t168 t169 t170 t171 t172 t173 : Value) :
  Code.wp Tryz.prog (restFrom Tryz.f10 24) (bodyPost Tryz.prog Tryz.f10 fun e w' => e = .returned (.bool true) ∧ Fr (fun _ => False) w0 w') ⟨#[t0, t1, t2, t3, .int .i64 cu, t5, t6, t7, t8, t9, t10, t11, t12, .string S, t14, t15, t16, t17, t18, t19, .slice (some ⟨g, 0, none⟩) n cap, t21, .bool tb, t23, t24, t25, t26, t27, t28, t29, t30, t31, t32, t33, t34, t35, t36, t37, t38, t39, t40, t41, t42, t43, t44, t45, t46, t47, t48, t49, t50, t51, t52, t53, t54, t55, t56, t57, t58, t59, t60, t61, t62, t63, t64, t65, t66, t67, t68, t69, t70, t71, t72, t73, t74, t75, t76, t77, t78, t79, t80, t81, t82, t83, t84, t85, t86, t87, t88, t89, t90, t91, t92, t93, t94, t95, t96, t97, t98, t99, t100, t101, t102, t103, t104, t105, t106, t107, t108, t109, t110, t111, t112, t113, t114, t115, t116, t117, t118, t119, t120, t121, t122, t123, t124, t125, t126, t127, t128, t129, t130, t131, t132, t133, t134, t135, t136, t137, t138, t139, t140, t141, t142, t143, t144, t145, t146, t147, t148, t149, t150, t151, t152, t153, t154, t155, t156, t157, t158, t159, t160, t161, t162, t163, t164, t165, t166, t167, t168, t169, t170, t171, t172, t173], []⟩ w := by
 conv => arg 2; whnf
 obtain ⟨o1, o2, _, _⟩ := open_some hS
 rw [hln] at o1 o2
 have hSn : S.size = n := by rw [← hln, ← hl]; simp
 have HSn := hid hSn
 have hcv : (convert 50 9 (.slice (some ⟨g, 0, none⟩) n cap)).run Tryz.prog w = .ok (.string ⟨C.toArray⟩) w := by
  rw [← hC]
  exact run_convert_bytes_back w 50 9 5 ⟨g, 0, none⟩ cap C Tryz.underlying50 Tryz.underlying5 Tryz.underlying9 (fun j hj => by rw [addr_add', Nat.zero_add]; exact (hB j _ (List.getElem?_eq_getElem hj)).1)
 have HLd : Hid (∀ (s : ByteArray) (W : World), Fr (fun _ => False) w W → s.size ≤ 300000 → Calls Tryz.prog 24 #[.string s] W (LoP W (loadM s.data.toList))) := fun s W hf hs => Load_any s W (by omega) (hH.fr hf)
 have HP : Hid (∀ (c nv : Int) (n : Nat) (w : World), InI c → nv = n → 0 < n → n ≤ 10000000000 → Calls Tryz.prog 15 #[.int .i64 c, .int .i64 nv] w fun e w' => e = .returned (.int .i64 (pickK c n)) ∧ w' = w) := fun c nv n w h e h3 h4 => by subst e; exact kpick_any c n w h.1 h.2 h3 h4
 have HTu : Hid ((tb = false ∧ ∃ t, loadM C = some t) ∨ (tb = true ∧ loadM C = none)) := by
  cases tb with
  | true => exact .inr ⟨rfl, by unfold loadM; rw [turned_none hS (by rw [hC, hln]) hm hd (htb.1 rfl)]⟩
  | false =>
   have h0 : m = 0 := by
    by_cases h : m = 0
    ·exact h
    ·exact absurd (htb.2 h) (by decide)
   rw [h0, Nat.mul_zero, Nat.xor_zero] at hd
   exact .inl ⟨rfl, td, by rw [leN_inj C l (by rw [hC, hln]) hd]; exact hT⟩
 have HCut : Hid (∀ k, k < n → loadM (l.take k) = none) := fun k hk => by unfold loadM; rw [cut_none hS (by rw [hln]; exact hk)]
 have HLong : Hid (∀ x, loadM (l ++ [x]) = none) := fun x => by unfold loadM; rw [long_none hS]
 have HL := hid hl
 have HF := hid hF
 have HCl := hid hC
 have HI := hid hi3
 clear hB hF hH hS hT hl hln hC hd hm htb hi3 hSn
 go_wp2_with fail
 refine (HLd.out ⟨C.toArray⟩ w (Fr.refl _ _) (by show C.length ≤ _; rw [HCl.out]; omega)).mono ?_
 intro e w1 hP
 have hP : LoP w (loadM C) e w1 := hP
 have HR : Hid (Fr (fun _ => False) w w1) ∧ ((tb = false ∧ ∃ T, e = .returned (.tuple #[.pointer (some ⟨T, 0, none⟩), .bool true])) ∨ (tb = true ∧ e = .returned (.tuple #[.pointer none, .bool false]))) := by
  rcases HTu.out with ⟨h1, t, ht⟩ | ⟨h1, ht⟩
  ·rw [ht] at hP
   obtain ⟨⟨T, _, _, _, _, _, he, _⟩, hf⟩ := hP
   exact ⟨hf, .inl ⟨h1, T, he⟩⟩
  ·rw [ht] at hP
   exact ⟨hP.2, .inr ⟨h1, hP.1⟩⟩
 obtain ⟨HF1, HRr⟩ := HR
 clear hP HTu hcv
 rcases HRr with ⟨rfl, T, rfl⟩ | ⟨rfl, rfl⟩
 all_goals
  go_wp2_with fail
  refine (HP.out cu _ n _ HI.out (by rw [HSn.out]) (by omega) (by omega)).mono ?_
  rintro e w' ⟨rfl, he⟩
  replace he := he.symm
  subst he
  obtain ⟨k, hk⟩ : ∃ k, pickK cu n = k := ⟨_, rfl⟩
  have hkn : k < n := by rw [← hk]; exact pickK_lt _ _ (by omega)
  have hki : (k : Int) ≤ (n : Int) := by omega
  rw [hk]
  clear hk
  have hSn := HSn.out
  have hkS : (k : Int) ≤ (S.size : Int) := by omega
  go_wp2_with fail
  have hq := HLd.out (S.extract 0 k) w1 HF1.out (by rw [ByteArray.size_extract]; omega)
  rw [ext_list, HL.out, List.drop_zero, HCut.out k hkn] at hq
  refine hq.mono ?_
  rintro e w2 ⟨rfl, hf2⟩
  have HF2 := hid (HF1.out.trans hf2)
  clear hf2 hq
  have hlx : S.size + (⟨#[120]⟩ : ByteArray).size ≤ 9223372036854775807 := by show S.size + 1 ≤ _; omega
  go_wp2_with fail
  have hq := HLd.out (S ++ ⟨#[120]⟩) w2 HF2.out (by rw [ByteArray.size_append]; show S.size + 1 ≤ _; omega)
  rw [ByteArray.data_append, Array.toList_append, HL.out, show (⟨#[120]⟩ : ByteArray).data.toList = [120] from rfl, HLong.out] at hq
  refine hq.mono ?_
  rintro e w3 ⟨rfl, hf3⟩
  have HF3 := hid (HF.out.trans (HF2.out.trans hf3))
  clear hf3 hq
  go_wp2_with fail
  go_ret
  exact ⟨rfl, HF3.out⟩
set_option maxRecDepth 1000000 in
set_option maxHeartbeats 8000000 in
theorem carried_tail15 (w0 w : World) (S : ByteArray) (b : List UInt8) (td : TrD) (fi mk cu : Int) (hi1 : InI fi) (hi2 : InI mk) (hi3 : InI cu) (hS : openM S.data.toList = some b) (hT : loadM S.data.toList = some td) (hH : Hal w) (hF : Fr (fun _ => False) w0 w)
  (t0 t1 t5 t6 t7 t8 t9 t10 t11 t12 t14 t15 t16 t17 t18 t19 t20 t21 t22 t23 t24 t25 t26 t27 t28 t29 t30 t31 t32 t33 t34 t35 t36 t37 t38 t39 t40 t41 t42 t43 t44 t45 t46 t47 t48 t49 t50 t51 t52 t53 t54 t55 t56 t57 t58 t59 t60 t61 t62 t63 t64 t65 t66 t67 t68 t69 t70 t71 t72 t73 t74 t75 t76 t77 t78 t79 t80 t81 t82 t83 t84 t85 t86 t87 t88 t89 t90 t91 t92 t93 t94 t95 t96 t97 t98 t99 t100 t101 t102 t103 t104 t105 t106 t107 t108 t109 t110 t111 t112 t113 t114 t115 t116 t117 t118 t119 t120 t121 t122 t123 t124 t125 t126 t127 t128 t129 t130 t131 t132 t133 t134 t135 t136 t137 t138 t139 t140 t141 t142 t143 t144 t145 t146 t147 t148 t149 t150 t151 t152 t153 t154 t155 t156 t157 t158 t159 t160 t161 t162 t163 t164 t165 t166 t167 t168 t169 t170 t171 t172 t173 : Value) :
  Code.wp Tryz.prog (restFrom Tryz.f10 15) (bodyPost Tryz.prog Tryz.f10 fun e w' => e = .returned (.bool true) ∧ Fr (fun _ => False) w0 w') ⟨#[t0, t1, .int .i64 fi, .int .i64 mk, .int .i64 cu, t5, t6, t7, t8, t9, t10, t11, t12, .string S, t14, t15, t16, t17, t18, t19, t20, t21, t22, t23, t24, t25, t26, t27, t28, t29, t30, t31, t32, t33, t34, t35, t36, t37, t38, t39, t40, t41, t42, t43, t44, t45, t46, t47, t48, t49, t50, t51, t52, t53, t54, t55, t56, t57, t58, t59, t60, t61, t62, t63, t64, t65, t66, t67, t68, t69, t70, t71, t72, t73, t74, t75, t76, t77, t78, t79, t80, t81, t82, t83, t84, t85, t86, t87, t88, t89, t90, t91, t92, t93, t94, t95, t96, t97, t98, t99, t100, t101, t102, t103, t104, t105, t106, t107, t108, t109, t110, t111, t112, t113, t114, t115, t116, t117, t118, t119, t120, t121, t122, t123, t124, t125, t126, t127, t128, t129, t130, t131, t132, t133, t134, t135, t136, t137, t138, t139, t140, t141, t142, t143, t144, t145, t146, t147, t148, t149, t150, t151, t152, t153, t154, t155, t156, t157, t158, t159, t160, t161, t162, t163, t164, t165, t166, t167, t168, t169, t170, t171, t172, t173], []⟩ w := by
 conv => arg 2; whnf
 obtain ⟨l, hl⟩ : ∃ l, S.data.toList = l := ⟨_, rfl⟩
 rw [hl] at hS hT
 obtain ⟨n, hn⟩ : ∃ n, S.size = n := ⟨_, rfl⟩
 have hln : l.length = n := by rw [← hl, ← hn]; simp
 obtain ⟨o1, o2, _, _⟩ := open_some hS
 rw [hln] at o1 o2
 have HS := hid hS
 have HT := hid hT
 have HL := hid hl
 have HLn := hid hln
 have HH := hid hH
 have HF := hid hF
 have HN := hid hn
 have hcv := fun w => Lib.run_convert_string_bytes (P := Tryz.prog) w 9 50 5 S Tryz.underlying9 Tryz.underlying50 Tryz.underlying5
 rw [hn] at hcv
 have HP : Hid (∀ (c nv : Int) (n : Nat) (w : World), InI c → nv = n → 0 < n → n ≤ 10000000000 → Calls Tryz.prog 15 #[.int .i64 c, .int .i64 nv] w fun e w' => e = .returned (.int .i64 (pickK c n)) ∧ w' = w) := fun c nv n w h e h3 h4 => by subst e; exact kpick_any c n w h.1 h.2 h3 h4
 have HI : Hid (InI fi ∧ InI mk ∧ InI cu) := ⟨hi1, hi2, hi3⟩
 clear hS hT hl hln hH hF hn hi1 hi2 hi3
 go_wp2_with fail
 have HB0 := hid (btAt_new w S)
 have HF1 : Hid (Fr (fun _ => False) w (Lib.bytesWorld w 5 S)) := bytesWorld_fr _ _ _
 have HG : Hid (w.heap.size < (Lib.bytesWorld w 5 S).heap.size) := by show _ < _; rw [Lib.bytesWorld_size]; omega
 rw [HL.out] at HB0
 clear hcv
 generalize Lib.bytesWorld w 5 S = W at *
 generalize grownCap _ _ _ _ = cap at *
 refine (HP.out fi _ (8 * n) _ HI.out.1 (by omega) (by omega) (by omega)).mono ?_
 rintro e w' ⟨rfl, he⟩
 replace he := he.symm
 subst he
 obtain ⟨a', ha'⟩ : ∃ a, pickK fi (8 * n) = a := ⟨_, rfl⟩
 have hat : a' < 8 * n := by rw [← ha']; exact pickK_lt _ _ (by omega)
 rw [ha']
 clear ha'
 obtain ⟨M, hM⟩ : ∃ M, mskN mk = M := ⟨_, rfl⟩
 have HM := hid hM
 clear hM
 obtain ⟨g, hg⟩ : ∃ g, w.heap.size = g := ⟨_, rfl⟩
 have HGe := hid hg
 rw [hg] at HB0 ⊢
 clear hg
 go_wp2_with fail
 rename_i K0 h0
 have H0 := hid h0
 clear h0
 go_loopg [22, 23] 32 (fun mm tv kv wr => ∃ (k : Nat) (C : List UInt8) (tb : Bool), k ≤ 32 ∧ a' + k ≤ 8 * n ∧ mm = 32 - k ∧ tv = .bool tb ∧ kv = .int .i64 (k : Nat) ∧ Hid (C.length = n ∧ leN C = leN l ^^^ 2 ^ a' * (M % 2 ^ k) ∧ (tb = true ↔ M % 2 ^ k ≠ 0)) ∧ Hid (BtAt wr g C) ∧ Hid (Fr (fun _ => False) w wr))
 case atStart => exact ⟨0, l, false, by omega, by omega, rfl, rfl, rfl, ⟨HLn.out, by simp [Nat.mod_one], by simp [Nat.mod_one]⟩, HB0, HF1⟩
 case round =>
  obtain ⟨k, C, tb, hk32, hak, rfl, rfl, rfl, HC, HB, HFr⟩ := hrel
  by_cases hgo : k < 32 ∧ a' + k < 8 * n
  ·have hk1 : (k : Int) < 32 := by omega
   have hk2 : (a' : Int) + (k : Int) < 8 * (n : Int) := by omega
   have hbt := mskN_bit mk k hgo.1
   rw [HM.out, ← and_one] at hbt
   by_cases hb1 : M / 2 ^ k % 2 = 1
   ·rw [hb1] at hbt
    obtain ⟨q, hq⟩ : ∃ q, a' + k = q := ⟨_, rfl⟩
    have hqn : q < 8 * n := by rw [← hq]; exact hgo.2
    have w1 : IntKind.i64.wrap ((a' : Int) + (k : Int)) = ((q : Nat) : Int) := by rw [← Int.natCast_add, hq]; exact IntWalk.i64_in _ (by constructor <;> omega)
    obtain ⟨j, hj⟩ : ∃ j, q / 8 = j := ⟨_, rfl⟩
    obtain ⟨r, hr⟩ : ∃ r, q % 8 = r := ⟨_, rfl⟩
    have w2 : IntKind.i64.wrap ((q : Int) / 8) = ((j : Nat) : Int) := by rw [← hj]; exact IntWalk.i64_in _ (by constructor <;> omega)
    have w3 : (q : Int).tmod 8 = ((r : Nat) : Int) := by rw [Int.tmod_eq_emod_of_nonneg (by omega), ← hr]; omega
    have hjn : j < n := by omega
    have hji : (j : Int) < (n : Int) := by omega
    have hr8 : r < 8 := by omega
    have HQ : Hid (a' + k = 8 * j + r) := by show _ = _; omega
    obtain ⟨x, hx⟩ : ∃ x, C[j]? = some x := ⟨_, List.getElem?_eq_getElem (by rw [HC.out.1]; exact hjn)⟩
    obtain ⟨c0, f0⟩ := HB.out j x hx
    obtain ⟨p, hp⟩ : ∃ p, 2 ^ r = p := ⟨_, rfl⟩
    have w4 : IntKind.u8.wrap ((2 : Int) ^ r) = ((p : Nat) : Int) := by
     rw [show (2 : Int) ^ r = ((2 ^ r : Nat) : Int) from by simp, u8_wrap, UInt8.toNat_ofNat', ← hp, Nat.mod_eq_of_lt (Nat.pow_lt_pow_right (by decide) hr8 : 2 ^ r < 2 ^ 8)]
    obtain ⟨y, hy⟩ : ∃ y, UInt8.ofNat (x.toNat ^^^ 2 ^ r) = y := ⟨_, rfl⟩
    have w5 : bits .xor .u8 (x.toNat : Int) (p : Int) = ((y.toNat : Nat) : Int) := by rw [← hp, xor_u8 x r hr8, hy]
    have HY : Hid (leN (C.set j y) = leN C ^^^ 2 ^ (8 * j + r)) := by show _ = _; rw [← hy]; exact leN_set C j r x hx hr8
    have HBy := hid (HB.out.set j y (by rw [HC.out.1]; exact hjn))
    clear hq hj hr hp hy hx
    go_wp2_with fail
    refine wp_region_held_drew (S := fun _ => True) (by kernel_rfl) trivial (fun hH => ?_)
    refine held_take 0 (v := ?v0z) rfl (by kernel_rfl) (by kernel_rfl) (by kernel_rfl) (fun _ _ _ h => h) rfl ?y0z hH ?r0z
    case y0z =>
     intro w _
     go_simp
     with_reducible rfl
    try go_frame
    refine held_take 1 (v := ?v1z) rfl (by kernel_rfl) (by kernel_rfl) (by kernel_rfl) (fun _ _ _ h => h) rfl ?y1z hH ?r1z
    case y1z =>
     intro w _
     go_simp
     with_reducible rfl
    try go_frame
    refine held_take 2 (v := ?v2z) rfl (by kernel_rfl) (by kernel_rfl) (by kernel_rfl) (fun _ _ _ h => h) rfl ?y2z hH ?r2z
    case y2z =>
     intro w _
     go_simp
     with_reducible rfl
    try go_frame
    refine held_take 3 (v := ?v3z) rfl (by kernel_rfl) (by kernel_rfl) (by kernel_rfl) (fun _ _ _ h => h) rfl ?y3z hH ?r3z
    case y3z =>
     intro w _
     go_simp
     with_reducible rfl
    try go_frame
    refine held_take 4 (v := ?v4z) rfl (by kernel_rfl) (by kernel_rfl) (by kernel_rfl) (fun _ _ _ h => h) rfl ?y4z hH ?r4z
    case y4z =>
     intro w _
     go_simp
     with_reducible rfl
    try go_frame
    refine held_take 5 (v := ?v5z) rfl (by kernel_rfl) (by kernel_rfl) (by kernel_rfl) (fun _ _ _ h => h) rfl ?y5z hH ?r5z
    case y5z =>
     intro w _
     go_simp
     with_reducible rfl
    try go_frame
    refine held_take 6 (v := ?v6z) rfl (by kernel_rfl) (by kernel_rfl) (by kernel_rfl) (fun _ _ _ h => h) rfl ?y6z hH ?r6z
    case y6z =>
     intro w _
     go_simp
     with_reducible rfl
    try go_frame
    refine held_take 7 (v := ?v7z) rfl (by kernel_rfl) (by kernel_rfl) (by kernel_rfl) (fun _ _ _ h => h) rfl ?y7z hH ?r7z
    case y7z =>
     intro w _
     go_simp
     with_reducible rfl
    try go_frame
    refine held_take 8 (v := ?v8z) rfl (by kernel_rfl) (by kernel_rfl) (by kernel_rfl) (fun _ _ _ h => h) rfl ?y8z hH ?r8z
    case y8z =>
     intro w _
     go_simp
     with_reducible rfl
    try go_frame
    refine held_take 9 (v := ?v9z) rfl (by kernel_rfl) (by kernel_rfl) (by kernel_rfl) (fun _ _ _ h => h) rfl ?y9z hH ?r9z
    case y9z =>
     intro w _
     go_simp
     with_reducible rfl
    try go_frame
    refine held_take 10 (v := ?v10z) rfl (by kernel_rfl) (by kernel_rfl) (by kernel_rfl) (fun _ _ _ h => h) rfl ?y10z hH ?r10z
    case y10z =>
     intro w _
     go_simp
     with_reducible rfl
    try go_frame
    refine held_take 12 (v := ?v12z) rfl (by kernel_rfl) (by kernel_rfl) (by kernel_rfl) (fun _ _ _ h => h) rfl ?y12z hH ?r12z
    case y12z =>
     intro w _
     go_simp
     with_reducible rfl
    try go_frame
    refine held_take 13 (v := ?v13z) rfl (by kernel_rfl) (by kernel_rfl) (by kernel_rfl) (fun _ _ _ h => h) rfl ?y13z hH ?r13z
    case y13z =>
     intro w _
     go_simp
     with_reducible rfl
    try go_frame
    refine held_take 14 (v := ?v14z) rfl (by kernel_rfl) (by kernel_rfl) (by kernel_rfl) (fun _ _ _ h => h) rfl ?y14z hH ?r14z
    case y14z =>
     intro w _
     go_simp
     with_reducible rfl
    try go_frame
    refine held_take 15 (v := ?v15z) rfl (by kernel_rfl) (by kernel_rfl) (by kernel_rfl) (fun _ _ _ h => h) rfl ?y15z hH ?r15z
    case y15z =>
     intro w _
     go_simp
     with_reducible rfl
    try go_frame
    refine held_take 16 (v := ?v16z) rfl (by kernel_rfl) (by kernel_rfl) (by kernel_rfl) (fun _ _ _ h => h) rfl ?y16z hH ?r16z
    case y16z =>
     intro w _
     go_simp
     with_reducible rfl
    try go_frame
    refine wpAnyH_ready (rs := [11]) (by kernel_rfl) (by simp) ?_
    refine held_cons rfl (fun K2 hK => ?_) AllReadyH.nil
    try rw [if_pos (by rfl)]
    go_simp
    refine hK.out _ _ trivial (fun hH => ?_)
    clear hK K2
    try go_frame
    refine held_take 17 (v := ?v17z) rfl (by kernel_rfl) (by kernel_rfl) (by kernel_rfl) (fun _ _ _ h => h) rfl ?y17z hH ?r17z
    case y17z =>
     intro w _
     go_simp
     with_reducible rfl
    try go_frame
    refine held_take 18 (v := ?v18z) rfl (by kernel_rfl) (by kernel_rfl) (by kernel_rfl) (fun _ _ _ h => h) rfl ?y18z hH ?r18z
    case y18z =>
     intro w _
     go_simp
     with_reducible rfl
    try go_frame
    refine wpAnyH_ready (rs := [19]) (by kernel_rfl) (by simp) ?_
    refine held_cons rfl (fun K2 hK => ?_) AllReadyH.nil
    try rw [if_pos (by rfl)]
    go_simp
    refine hK.out _ _ trivial (fun hH => ?_)
    clear hK K2
    try go_frame
    refine wpAnyH_done (by kernel_rfl) ?_ _
    have HB9 : Hid (BtAt (wr.setCell ⟨g, j, none⟩ (.int .u8 (y.toNat : Nat))).drew g (C.set j y)) := fun i c hi => by
     have e := HBy.out i c hi
     simpa using e
    have HF9 : Hid (Fr (fun _ => False) w (wr.setCell ⟨g, j, none⟩ (.int .u8 (y.toNat : Nat))).drew) := (HFr.out.setCell (p := ⟨g, j, none⟩) (Or.inr (by show w.heap.size ≤ g; rw [HGe.out]; exact Nat.le_refl _)) _).drew
    have HC9 : Hid ((C.set j y).length = n ∧ leN (C.set j y) = leN l ^^^ 2 ^ a' * (M % 2 ^ (k + 1)) ∧ M % 2 ^ (k + 1) ≠ 0) := by
     refine ⟨by rw [List.length_set]; exact HC.out.1, ?_, fun h => ((msk_zero M k).1 h).2 hb1⟩
     rw [msk_step, if_pos hb1, HY.out, HC.out.2.1, HQ.out]
    clear c0 f0 w1 w2 w3 w4 w5 hbt
    generalize (wr.setCell ⟨g, j, none⟩ (.int .u8 (y.toNat : Nat))).drew = W9 at *
    go_wp2_with fail
    go_roundg (32 - (k + 1))
    case measure => omega
    case rel => exact ⟨k + 1, C.set j y, true, by omega, by omega, rfl, rfl, by go_num, ⟨HC9.out.1, HC9.out.2.1, fun _ => HC9.out.2.2, fun _ => rfl⟩, HB9, HF9⟩
   ·have hb0 : M / 2 ^ k % 2 = 0 := by omega
    rw [hb0] at hbt
    have HC9 : Hid (C.length = n ∧ leN C = leN l ^^^ 2 ^ a' * (M % 2 ^ (k + 1)) ∧ (tb = true ↔ M % 2 ^ (k + 1) ≠ 0)) := by
     refine ⟨HC.out.1, ?_, ?_⟩
     ·rw [msk_step, if_neg hb1, HC.out.2.1]
     ·rw [HC.out.2.2]
      have := msk_zero M k
      constructor
      ·intro h h2; exact h (this.1 h2).1
      ·intro h h2; exact h (this.2 ⟨h2, hb1⟩)
    go_wp2_with fail
    go_roundg (32 - (k + 1))
    case measure => omega
    case rel => exact ⟨k + 1, C, tb, by omega, by omega, rfl, rfl, by go_num, HC9, HB, HFr⟩
  ·have hm : M % 2 ^ k < 4294967296 := Nat.lt_of_lt_of_le (Nat.mod_lt M (Nat.pow_pos (by decide))) (Nat.pow_le_pow_right (by decide) hk32 : 2 ^ k ≤ 2 ^ 32)
   have HM2 := hid hm
   clear hm
   by_cases hk : k < 32
   ·have hk1 : (k : Int) < 32 := by omega
    have hk2 : ¬ (a' : Int) + (k : Int) < 8 * (n : Int) := by omega
    go_wp2_with fail
    refine H0.out _ _ ?_
    exact carried_tail24 w0 wr S b l C td cu g n cap a' (M % 2 ^ k) tb HI.out.2.2 HL.out HS.out HT.out (HH.out.fr HFr.out) (HF.out.trans HFr.out) HLn.out HC.out.1 HC.out.2.1 HM2.out HC.out.2.2 HB.out _ _ _ _ _ _ _ _ _ _ _ _ _ _ _ _ _ _ _ _ _ _ _ _ _ _ _ _ _ _ _ _ _ _ _ _ _ _ _ _ _ _ _ _ _ _ _ _ _ _ _ _ _ _ _ _ _ _ _ _ _ _ _ _ _ _ _ _ _ _ _ _ _ _ _ _ _ _ _ _ _ _ _ _ _ _ _ _ _ _ _ _ _ _ _ _ _ _ _ _ _ _ _ _ _ _ _ _ _ _ _ _ _ _ _ _ _ _ _ _ _ _ _ _ _ _ _ _ _ _ _ _ _ _ _ _ _ _ _ _ _ _ _ _ _ _ _ _ _ _ _ _ _ _ _ _ _ _ _ _ _ _ _ _ _ _ _ _ _ _
   ·have hk1 : ¬ (k : Int) < 32 := by omega
    go_wp2_with fail
    refine H0.out _ _ ?_
    exact carried_tail24 w0 wr S b l C td cu g n cap a' (M % 2 ^ k) tb HI.out.2.2 HL.out HS.out HT.out (HH.out.fr HFr.out) (HF.out.trans HFr.out) HLn.out HC.out.1 HC.out.2.1 HM2.out HC.out.2.2 HB.out _ _ _ _ _ _ _ _ _ _ _ _ _ _ _ _ _ _ _ _ _ _ _ _ _ _ _ _ _ _ _ _ _ _ _ _ _ _ _ _ _ _ _ _ _ _ _ _ _ _ _ _ _ _ _ _ _ _ _ _ _ _ _ _ _ _ _ _ _ _ _ _ _ _ _ _ _ _ _ _ _ _ _ _ _ _ _ _ _ _ _ _ _ _ _ _ _ _ _ _ _ _ _ _ _ _ _ _ _ _ _ _ _ _ _ _ _ _ _ _ _ _ _ _ _ _ _ _ _ _ _ _ _ _ _ _ _ _ _ _ _ _ _ _ _ _ _ _ _ _ _ _ _ _ _ _ _ _ _ _ _ _ _ _ _ _ _ _ _ _
end Go.Proofs.YtccikgogjfbpeaaGreatDoor
