/- The keeps: ruled: rules of raw numbers. The keeps: whole: a text of rules; alone; a payment. -/
import Derived.Test.YtccikgogjfbpeabGreatDoorWHa
import Derived.Test.YtccikgogjfbpeabGreatDoorWKf
namespace Go.Proofs.YtccikgogjfbpeabGreatDoor
open Go.RowKit
set_option maxRecDepth 30000 in
set_option maxHeartbeats 8000000 in
theorem kruled_any (w : World) (a : Option Addr) (n c : Nat) (l : List Int) (m : Nat) (hl : l.length = n) (hr : RawAt w a l) (hi : ∀ x, x ∈ l -> InI x) (hm : m = min n 8) :
  Calls Tryz.prog 15 #[.slice a n c] w fun e w' => (∃ v, e = .returned v /\ w'.ownsRow w.heap.size 9 1 v m (sRow (rlL l m)) /\ (m = 0 -> v = .slice none 0 0)) /\ F0 w w' := by
 obtain ⟨ij, hj', hy0, hy1, hy2⟩ := info_parts Tryz.infoStrK
 have HP : Hid (∀ (c nv : Int) (n : Nat) (w : World), InI c -> nv = n -> 0 < n -> n <= 10000000000 -> Calls Tryz.prog 23 #[.int .i64 c, .int .i64 nv] w fun e w' => e = .returned (.int .i64 (pickK c n)) /\ w' = w) := fun c nv n w h e h3 h4 => by subst e; exact kpick_any c n w h.1 h.2 h3 h4
 have HX : Hid (∀ (n : Nat) (nv : Int) (w : World), nv = n -> n <= 10000000000 -> Calls Tryz.prog 16 #[.int .i64 nv] w fun e w' => e = .returned (.string (bs (digL n 1))) /\ F0 w w') := fun n nv w e h => ktext_any n nv w e h
 have HGd : Hid (∀ (c : Int) (w : World), InI c -> Calls Tryz.prog 35 #[.int .i64 c] w fun e w' => e = .returned (.string (bs (g3 c))) /\ F0 w w') := fun c w h => kguard_any c w h
 have HAc : Hid (∀ (c : Int) (w : World), InI c -> Calls Tryz.prog 36 #[.int .i64 c] w fun e w' => e = .returned (.string (bs (actT (pickK c 6)))) /\ F0 w w') := fun c w h => kaction_any c w h
 have HIN : Hid (∀ i, InI (rawK l i)) := fun i => rawK_in hi i
 have HR := hid hr
 have HL := hid hl
 have hmn : m <= n := by omega
 have hm8 : m <= 8 := by omega
 have HM := hid hm
 clear hi hr hl hm
 go_enter Tryz.func15, Tryz.ntmps15
 go_wp2_with fail
 go_loopg [3, 4] m (fun mm ov iv wr => ∃ i, i <= m /\ mm = m - i /\ iv = .int .i64 (i : Nat) /\ Hid (i = 0 -> ov = .slice none 0 0) /\ Hid (wr.ownsRow w.heap.size 9 1 ov i (sRow (rlL l i))) /\ Hid (F0 w wr))
 case atStart => exact ⟨0, by omega, rfl, rfl, fun _ => rfl, World.ownsRow_nil _ _ _ _, Fr.refl _ _⟩
 case round =>
  obtain ⟨i, him, rfl, rfl, HZ, HO, HFr⟩ := hrel
  obtain ⟨oa, oc, ho⟩ := ownsRow_len HO.o
  subst ho
  by_cases hlt : i < m
  ·have hki : (i : Int) < (n : Int) := by omega
   have hk8 : (i : Int) < 8 := by omega
   have hx := List.getElem?_eq_getElem (show i < l.length by have := HL.o; omega)
   obtain ⟨g, o, rfl, hc⟩ := HR.o i _ hx
   have HV : Hid (rawK l i = l[i]'(by have := HL.o; omega)) := by show _ = _; unfold rawK; rw [List.getD_eq_getElem?_getD, hx]; rfl
   have hxi : InI (l[i]'(by have := HL.o; omega)) := by rw [<- HV.o]; exact HIN.o i
   generalize l[i]'(by have := HL.o; omega) = x at *
   have HXI := hid hxi
   have t41 : IntKind.i64.wrap (x.tdiv 41) = x.tdiv 41 := IntWalk.i64_in _ (hxi.div 41 (by decide))
   have t5 : IntKind.i64.wrap (x.tdiv 5) = x.tdiv 5 := IntWalk.i64_in _ (hxi.div 5 (by decide))
   have HC := hid hc
   clear hxi hx hc
   have HSP : Hid (∀ W, F0 wr W -> W.cell? ⟨g, o + i, none⟩ = some (.int .i64 x)) := fun W hf => ((HFr.o.trans hf).cell (p := ⟨g, o + i, none⟩) (World.block_lt_of_cell? w _ HC.o) (by simp)).trans HC.o
   go_upto_region 5 with fail
   refine wp_region_held_drew (S := fun W => W.cell? ⟨g, o + i, none⟩ = some (.int .i64 x)) (by kernel_rfl) (HSP.o _ (Fr.refl _ _).drew) (fun hH => ?_)
   refine htk 0 (v := ?v0z) ?y0z hH ?r0z
   case y0z => rintro w s0; go_simp; first | with_reducible rfl | rw [if_neg (by omega)]
   try go_frame
   refine htk 1 (v := ?v1z) ?y1z hH ?r1z
   case y1z => rintro w s0; go_simp; first | with_reducible rfl | rw [if_neg (by omega)]
   try go_frame
   refine htk 5 (v := ?v5z) ?y5z hH ?r5z
   case y5z => rintro w s0; go_simp; first | with_reducible rfl | rw [if_neg (by omega)]
   try go_frame
   refine htk 6 (v := ?v6z) ?y6z hH ?r6z
   case y6z => rintro w s0; go_simp; first | with_reducible rfl | rw [if_neg (by omega)]
   try go_frame
   refine htk 7 (v := ?v7z) ?y7z hH ?r7z
   case y7z => rintro w s0; go_simp; first | with_reducible rfl | rw [if_neg (by omega)]
   try go_frame
   refine htk 8 (v := ?v8z) ?y8z hH ?r8z
   case y8z => rintro w s0; go_simp; first | with_reducible rfl | rw [if_neg (by omega)]
   try go_frame
   refine htk 9 (v := ?v9z) ?y9z hH ?r9z
   case y9z => rintro w s0; go_simp; first | with_reducible rfl | rw [if_neg (by omega)]
   try go_frame
   refine htk 14 (v := ?v14z) ?y14z hH ?r14z
   case y14z => rintro w s0; go_simp; first | with_reducible rfl | rw [if_neg (by omega)]
   try go_frame
   refine htk 15 (v := ?v15z) ?y15z hH ?r15z
   case y15z => rintro w s0; go_simp; first | with_reducible rfl | rw [if_neg (by omega)]
   try go_frame
   refine htk 16 (v := ?v16z) ?y16z hH ?r16z
   case y16z => rintro w s0; go_simp; first | with_reducible rfl | rw [if_neg (by omega)]
   try go_frame
   refine htk 17 (v := ?v17z) ?y17z hH ?r17z
   case y17z => rintro w s0; go_simp; first | with_reducible rfl | rw [if_neg (by omega)]
   try go_frame
   refine htk 21 (v := ?v21z) ?y21z hH ?r21z
   case y21z => rintro w s0; go_simp; first | with_reducible rfl | rw [if_neg (by omega)]
   try go_frame
   refine htk 22 (v := ?v22z) ?y22z hH ?r22z
   case y22z => rintro w s0; go_simp; first | with_reducible rfl | rw [if_neg (by omega)]
   try go_frame
   refine htk 23 (v := ?v23z) ?y23z hH ?r23z
   case y23z => rintro w s0; go_simp; first | with_reducible rfl | rw [if_neg (by omega)]
   try go_frame
   refine htk 24 (v := ?v24z) ?y24z hH ?r24z
   case y24z => rintro w s0; go_simp; first | with_reducible rfl | rw [if_neg (by omega)]
   try go_frame
   refine htk 25 (v := ?v25z) ?y25z hH ?r25z
   case y25z => rintro w s0; go_simp; first | with_reducible rfl | rw [if_neg (by omega)]
   try go_frame
   clear t41 t5
   refine wpAnyH_ready (rs := [2]) (by kernel_rfl) (by simp) ?_
   refine held_cons rfl (fun K2 hK => ?_) AllReadyH.nil
   try rw [if_pos (by rfl)]
   go_simp
   refine (HX.o i _ _ rfl (by omega)).mono ?_
   rintro e w1 ⟨rfl, hf1⟩
   have HF1 : Hid (F0 wr w1) := ((Fr.refl _ _).drew).trans hf1
   obtain ⟨T1, hT1⟩ : ∃ T1, bs (digL i 1) = T1 := ⟨_, rfl⟩
   have hl1 : T1.size <= 2 := by rw [<- hT1, bs_size]; exact tx_len (by omega)
   rw [hT1]
   have HT1 := hid hT1
   clear hf1 hT1
   refine hK.out _ _ (HSP.o _ HF1.o) (fun hH => ?_)
   clear hK K2
   try go_frame
   refine htk 3 (v := ?v3z) ?y3z hH ?r3z
   case y3z => rintro w s0; go_simp; first | with_reducible rfl | rw [if_neg (by omega)]
   try go_frame
   refine htk 4 (v := ?v4z) ?y4z hH ?r4z
   case y4z => rintro w s0; go_simp; first | with_reducible rfl | rw [if_neg (by omega)]
   try go_frame
   refine wpAnyH_ready (rs := [10]) (by kernel_rfl) (by simp) ?_
   refine held_cons rfl (fun K2 hK => ?_) AllReadyH.nil
   try rw [if_pos (by rfl)]
   go_simp
   refine (HP.o _ 3 3 _ (HXI.o.div 41 (by decide)) rfl (by decide) (by decide)).mono ?_
   rintro e w' ⟨rfl, he⟩
   replace he := he.symm
   subst he
   refine hK.out _ _ (HSP.o _ HF1.o) (fun hH => ?_)
   clear hK K2
   try go_frame
   refine wpAnyH_ready (rs := [11]) (by kernel_rfl) (by simp) ?_
   refine held_cons rfl (fun K2 hK => ?_) AllReadyH.nil
   try rw [if_pos (by rfl)]
   go_simp
   refine (HX.o (pickK (x.tdiv 41) 3) _ _ rfl (by have := pickK_lt (x.tdiv 41) 3 (by decide); omega)).mono ?_
   rintro e w2 ⟨rfl, hf2⟩
   have HF2 := hid (HF1.o.trans hf2)
   obtain ⟨T2, hT2⟩ : ∃ T2, bs (digL (pickK (x.tdiv 41) 3) 1) = T2 := ⟨_, rfl⟩
   have hl2 : T2.size <= 2 := by rw [<- hT2, bs_size]; exact tx_len (by have := pickK_lt (x.tdiv 41) 3 (by decide); omega)
   rw [hT2]
   have HT2 := hid hT2
   clear hf2 hT2 HF1
   refine hK.out _ _ (HSP.o _ HF2.o) (fun hH => ?_)
   clear hK K2
   try go_frame
   refine htk 12 (v := ?v12z) ?y12z hH ?r12z
   case y12z => rintro w s0; go_simp; first | with_reducible rfl | rw [if_neg (by omega)]
   try go_frame
   refine htk 13 (v := ?v13z) ?y13z hH ?r13z
   case y13z => rintro w s0; go_simp; first | with_reducible rfl | rw [if_neg (by omega)]
   try go_frame
   refine wpAnyH_ready (rs := [18]) (by kernel_rfl) (by simp) ?_
   refine held_cons rfl (fun K2 hK => ?_) AllReadyH.nil
   try rw [if_pos (by rfl)]
   go_simp
   refine (HGd.o x _ HXI.o).mono ?_
   rintro e w3 ⟨rfl, hf3⟩
   have HF3 := hid (HF2.o.trans hf3)
   obtain ⟨T3, hT3⟩ : ∃ T3, bs (g3 x) = T3 := ⟨_, rfl⟩
   have hl3 : T3.size <= 50 := by rw [<- hT3]; exact g3_len x
   rw [hT3]
   have HT3 := hid hT3
   clear hf3 hT3 HF2
   refine hK.out _ _ (HSP.o _ HF3.o) (fun hH => ?_)
   clear hK K2
   try go_frame
   refine htk 19 (v := ?v19z) ?y19z hH ?r19z
   case y19z => rintro w s0; go_simp; first | with_reducible rfl | rw [if_neg (by omega)]
   try go_frame
   refine htk 20 (v := ?v20z) ?y20z hH ?r20z
   case y20z => rintro w s0; go_simp; first | with_reducible rfl | rw [if_neg (by omega)]
   try go_frame
   refine wpAnyH_ready (rs := [26]) (by kernel_rfl) (by simp) ?_
   refine held_cons rfl (fun K2 hK => ?_) AllReadyH.nil
   try rw [if_pos (by rfl)]
   go_simp
   refine (HAc.o _ _ (HXI.o.div 5 (by decide))).mono ?_
   rintro e w4 ⟨rfl, hf4⟩
   have HF4 := hid (HF3.o.trans hf4)
   obtain ⟨T4, hT4⟩ : ∃ T4, bs (actT (rlK x)) = T4 := ⟨_, rfl⟩
   have hl4 : T4.size <= 16 := by rw [<- hT4]; exact actT_len (rlK x)
   rw [show bs (actT (pickK (x.tdiv (5 : Nat)) 6)) = T4 from hT4]
   have HT4 := hid hT4
   clear hf4 hT4 HF3
   refine hK.out _ _ (HSP.o _ HF4.o) (fun hH => ?_)
   clear hK K2
   try go_frame
   refine htk 27 (v := ?v27z) ?y27z hH ?r27z
   case y27z => rintro w s0; go_simp; first | with_reducible rfl | rw [if_neg (by omega)]
   try go_frame
   refine htk 28 (v := ?v28z) ?y28z hH ?r28z
   case y28z => rintro w s0; go_simp; first | with_reducible rfl | rw [if_neg (by omega)]
   try go_frame
   have HTX : Hid (((((((((⟨#[114, 117, 108, 101, 32, 114]⟩ : ByteArray) ++ T1) ++ ⟨#[32]⟩) ++ T2) ++ ⟨#[58, 32]⟩) ++ T3) ++ ⟨#[32, 45, 62, 32]⟩) ++ T4) ++ ⟨#[59, 10]⟩ = bs (rlT i (rawK l i))) := by
    show _ = _
    rw [HV.o, rlT_eq, <- HT1.o, <- HT2.o, <- HT3.o, <- HT4.o, show (⟨#[114, 117, 108, 101, 32, 114]⟩ : ByteArray) = bs [114, 117, 108, 101, 32, 114] from rfl, show (⟨#[32]⟩ : ByteArray) = bs [32] from rfl, show (⟨#[58, 32]⟩ : ByteArray) = bs [58, 32] from rfl, show (⟨#[32, 45, 62, 32]⟩ : ByteArray) = bs [32, 45, 62, 32] from rfl, show (⟨#[59, 10]⟩ : ByteArray) = bs [59, 10] from rfl]
    simp only [bs_append, List.append_assoc]
   generalize ((((((((⟨#[114, 117, 108, 101, 32, 114]⟩ : ByteArray) ++ T1) ++ ⟨#[32]⟩) ++ T2) ++ ⟨#[58, 32]⟩) ++ T3) ++ ⟨#[32, 45, 62, 32]⟩) ++ T4) ++ ⟨#[59, 10]⟩ = TX at *
   clear HT1 HT2 HT3 HT4 hl1 hl2 hl3 hl4
   have HF5 : Hid (F0 wr (w4.alloc (.cells #[.string TX] 9))) := HF4.o.alloc _
   refine wpAnyH_ready (rs := [29]) (by kernel_rfl) (by simp) ?_
   refine held_cons rfl (fun K2 hK => ?_) AllReadyH.nil
   try rw [if_pos (by rfl)]
   go_simp
   refine hK.out _ _ (HSP.o _ HF5.o) (fun hH => ?_)
   clear hK K2
   try go_frame
   have HO5 := hid ((ownsRow_fr HO.o HF4.o (by simp)).alloc (.cells #[.string TX] 9))
   refine wpAnyH_ready (rs := [30]) (by kernel_rfl) (by simp) ?_
   refine held_cons rfl (fun K2 hK => ?_) AllReadyH.nil
   try rw [if_pos (by rfl)]
   refine wp_append_lies _ (.tmp 15) (.tmp 44) 33 rfl w.heap.size 9 ij _ 1 16 Tryz.underlying33 hj' hy0 hy1 hy2 rfl (by decide) (.slice oa i oc) i (sRow (rlL l i)) rfl HO5.o ⟨w4.heap.size, 0, none⟩ 1 1 [.string TX] rfl rfl ?h2 ?h3 (by decide) ?h4 ?h5 ?h6 _ rfl ?h7
   case h2 => exact World.news_of_block (heap_alloc_new w4 (.cells #[.string TX] 9))
   case h3 => simp [Value.oneCell']
   case h4 => unfold maxLen; omega
   case h5 => omega
   case h6 => have := HFr.o.size; have := HF5.o.size; omega
   case h7 =>
    intro g2 cap2 w8 hown hgrow hor _
    have HF8 : Hid (F0 w w8) := (HFr.o.trans HF5.o).grown hgrow (fun k hk => Or.inr (HO.o.lt k hk).1)
    have HO8 : Hid (w8.ownsRow w.heap.size 9 1 (.slice (some ⟨g2, 0, none⟩) (i + 1) cap2) (i + 1) (sRow (rlL l (i + 1)))) := by
     rw [rlL_snoc, sRow, List.map_append, <- HTX.o]
     exact hown
    have hs8 : w8.cell? ⟨g, o + i, none⟩ = some (.int .i64 x) := (HF8.o.cell (p := ⟨g, o + i, none⟩) (World.block_lt_of_cell? w _ HC.o) (by simp)).trans HC.o
    clear hown hgrow hor
    refine hK.out _ _ hs8 (fun hH => ?_)
    clear hK K2
    try go_frame
    refine htk 31 (v := ?v31z) ?y31z hH ?r31z
    case y31z => rintro w s0; go_simp; first | with_reducible rfl | rw [if_neg (by omega)]
    try go_frame
    refine wpAnyH_done (by kernel_rfl) ?_ _
    go_wp2_with fail
    go_roundg (m - (i + 1))
    case measure => omega
    case rel => exact ⟨i + 1, by omega, rfl, by go_num, fun e => by omega, HO8, HF8⟩
  ·have e : i = m := by omega
   subst e
   by_cases hin : i < n
   ·have hki : (i : Int) < (n : Int) := by omega
    have hk8 : ¬ (i : Int) < 8 := by have := HM.o; omega
    go_wp2_with fail
    go_ret
    exact ⟨⟨_, rfl, HO.o, HZ.o⟩, HFr.o⟩
   ·have hki : ¬ (i : Int) < (n : Int) := by omega
    go_wp2_with fail
    go_ret
    exact ⟨⟨_, rfl, HO.o, HZ.o⟩, HFr.o⟩
end Go.Proofs.YtccikgogjfbpeabGreatDoor

namespace Go.Proofs.YtccikgogjfbpeabGreatDoor
open Go.RowKit
def whT (l : List ByteArray) : List UInt8 := routes3 ++ l.flatMap fun b => b.data.toList
theorem whT_snoc (l : List ByteArray) (b : ByteArray) : whT (l ++ [b]) = whT l ++ b.data.toList := by simp [whT]
theorem whT_len : ∀ (l : List ByteArray), (∀ b, b ∈ l -> b.size <= 100) -> (whT l).length <= 42 + 100 * l.length := by
 intro l
 induction l with
 | nil => intro _; simp [whT, routes3]
 | cons b r ih =>
  intro h
  have h1 := ih (fun x hx => h x (by simp [hx]))
  have h2 := h b (by simp)
  have h3 : b.data.toList.length = b.size := by simp
  simp only [whT, List.flatMap_cons, List.length_append, List.length_cons] at *
  omega
set_option maxRecDepth 30000 in
set_option maxHeartbeats 2000000 in
theorem kwhole_any (w : World) (a : Option Addr) (n c : Nat) (l : List ByteArray) (hl : l.length = n) (hn : n <= 10) (hs : StrsAt w a l) (hb : ∀ b, b ∈ l -> b.size <= 100) :
  Calls Tryz.prog 14 #[.slice a n c] w fun e w' => e = .returned (.string (bs (whT l))) /\ w' = w := by
 have HS := hid hs
 have HL := hid hl
 have HB : Hid (∀ i, i <= n -> (whT (l.take i)).length <= 1042) := fun i hi => by
  have := whT_len (l.take i) (fun b hx => hb b (List.mem_of_mem_take hx))
  rw [List.length_take] at this
  omega
 have HBB := hid hb
 clear hs hl hb
 go_enter Tryz.func14, Tryz.ntmps14
 go_wp2_with fail
 go_loop [3, 4] (fun sv iv => ∃ i : Nat, i <= n /\ iv = .int .i64 (i : Nat) /\ ∃ S : ByteArray, sv = .string S /\ Hid (S = bs (whT (l.take i)))) (fun _ iv => n - (intOf iv).toNat)
 case atStart => exact ⟨0, by omega, rfl, _, rfl, rfl⟩
 case round =>
  obtain ⟨i, hin, rfl, S, rfl, HQ⟩ := hrel
  have hsb : S.size <= 1042 := by rw [HQ.o]; exact HB.o i hin
  by_cases hlt : i < n
  ·have hki : (i : Int) < (n : Int) := by omega
   have hx := List.getElem?_eq_getElem (show i < l.length by have := HL.o; omega)
   obtain ⟨g, o, rfl, hc⟩ := HS.o i _ hx
   have hxb : (l[i]'(by have := HL.o; omega)).size <= 100 := HBB.o _ (List.getElem_mem _)
   have HT : Hid (l.take (i + 1) = l.take i ++ [l[i]'(by have := HL.o; omega)]) := by show _ = _; rw [List.take_add_one, hx]; rfl
   generalize l[i]'(by have := HL.o; omega) = x at *
   clear hx
   go_wp2_with fail
   refine ⟨⟨i + 1, by omega, by go_num, _, rfl, ?_⟩, by simp [intOf]; omega⟩
   show _ = _
   rw [HT.o, whT_snoc, <- bs_append, <- HQ.o]
  ·have hki : ¬ (i : Int) < (n : Int) := by omega
   have HE : Hid (l.take i = l) := by show _ = _; rw [List.take_of_length_le (by have := HL.o; omega)]
   go_wp2_with fail
   go_ret
   rw [HQ.o, HE.o]
   exact ⟨rfl, rfl⟩
theorem gd_words (c : Int) : DgL (digL (gf c) (gw c)) /\ DgL (digL (gt c) (gw c)) /\ (∀ w, w ∈ gMcc c -> DgL w) /\ (∀ ab, gAm c = some ab -> DgL ab.1 /\ DgL ab.2) /\ ∀ w, w ∈ gCur c -> DgL w := by
 have h := gw_in c
 refine ⟨digL_DgL (gf_lt c) h.1 (by omega), digL_DgL (gt_lt c).2 h.1 (by omega), fun w hw => ?_, fun ab hab => ?_, fun w hw => ?_⟩
 ·unfold gMcc at hw
  split at hw
  ·simp at hw
   rcases hw with rfl | rfl
   ·exact tx_DgL (by have := pickK_lt (c.tdiv 11) 5 (by decide); omega)
   ·exact tx_DgL (by have := pickK_lt (c.tdiv 13) 5 (by decide); omega)
  ·cases hw
 ·unfold gAm at hab
  split at hab
  ·injection hab with hab
   subst hab
   exact ⟨tx_DgL (by have := pickK_lt (c.tdiv 19) 50 (by decide); omega), tx_DgL (by have := pickK_lt (c.tdiv 19) 50 (by decide); have := pickK_lt (c.tdiv 23) 20 (by decide); omega)⟩
  ·cases hab
 ·unfold gCur at hw
  split at hw
  ·simp at hw
   subst hw
   exact tx_DgL (by have := pickK_lt (c.tdiv 37) 4 (by decide); omega)
  ·cases hw
theorem gd_ok {c : Int} {nm rk : List UInt8} {dec ch : Bool} {rts : List (List UInt8)} (h1 : NmL nm) (h2 : DgL rk) (h3 : ∀ w, w ∈ rts -> NmL w) (h4 : (dec = true /\ ch = false /\ rts = []) \/ (dec = false /\ rts ≠ [])) : (gdR c nm rk dec ch rts).Ok := by
 obtain ⟨w1, w2, w3, w4, w5⟩ := gd_words c
 exact ⟨h1, h2, w1, w2, w3, w4, w5, h3, h4⟩
theorem tx_num (n : Nat) : numOf (digL n 1) = n := digL_num _ n 1 rfl
theorem gd_fit {c : Int} {nm rk : List UInt8} {dec ch : Bool} {rts : List (List UInt8)} (h : numOf rk <= 1000) : (gdR c nm rk dec ch rts).Fit := by
 have hw := gw_in c
 have l1 := digL_len (gw c) (gf c) (gf_lt c)
 have l2 := digL_len (gw c) (gt c) (gt_lt c).2
 refine ⟨h, by show (digL (gf c) (gw c)).length <= 6; omega, by show (digL (gt c) (gw c)).length = (digL (gf c) (gw c)).length; omega, ?_, ?_, ?_, ?_⟩
 ·show numOf (digL (gf c) (gw c)) <= numOf (digL (gt c) (gw c))
  rw [digL_num _ _ _ rfl, digL_num _ _ _ rfl]
  exact (gt_lt c).1
 ·show (gMcc c).length <= 4 /\ ∀ w, w ∈ gMcc c -> numOf w <= 9999
  unfold gMcc
  split
  ·refine ⟨by simp, fun w hw => ?_⟩
   simp at hw
   rcases hw with rfl | rfl
   ·rw [tx_num]; have := pickK_lt (c.tdiv 11) 5 (by decide); omega
   ·rw [tx_num]; have := pickK_lt (c.tdiv 13) 5 (by decide); omega
  ·exact ⟨by simp, fun w hw => by cases hw⟩
 ·intro ab hab
  have hab : gAm c = some ab := hab
  unfold gAm at hab
  split at hab
  ·injection hab with hab
   subst hab
   show numOf (digL _ 1) <= numOf (digL _ 1)
   rw [tx_num, tx_num]
   omega
  ·cases hab
 ·show (gCur c).length <= 4 /\ ∀ w, w ∈ gCur c -> numOf w <= 999
  unfold gCur
  split
  ·refine ⟨by simp, fun w hw => ?_⟩
   simp at hw
   subst hw
   rw [tx_num]; have := pickK_lt (c.tdiv 37) 4 (by decide); omega
  ·exact ⟨by simp, fun w hw => by cases hw⟩
theorem pls3 {line : Nat} {k : Nat} (h : k < 6) : plsFrom rts3 0 ((actR k).map fun w => nT w line) = .ok (actP k) := by
 have pa : placeFrom (bs [97]) 0 rts3 = 0 := by unfold rts3; rw [place_eq (by decide)]; rfl
 have pb : placeFrom (bs [98]) 0 rts3 = 1 := by unfold rts3; rw [place_ne (by decide), place_eq (by decide)]; rfl
 have pc : placeFrom (bs [99]) 0 rts3 = 2 := by unfold rts3; rw [place_ne (by decide), place_ne (by decide), place_eq (by decide)]; rfl
 have ta : (nT [97] line).text = bs [97] := rfl
 have tb : (nT [98] line).text = bs [98] := rfl
 have tc : (nT [99] line).text = bs [99] := rfl
 have : k = 0 \/ k = 1 \/ k = 2 \/ k = 3 \/ k = 4 \/ k = 5 := by omega
 rcases this with rfl | rfl | rfl | rfl | rfl | rfl <;> simp [actR, actP, plsFrom, ta, tb, tc, pa, pb, pc]
theorem nm_a : NmL [97] := nmL_of rfl (by decide) (by decide) (by decide) (by decide)
theorem pan_ok {n m q : Nat} {S : ByteArray} (hn : n < 1000000) (hS : S = bs (digL n 6) ++ bs (digL m q)) : 6 <= S.size /\ ∀ x, x ∈ S.data.toList -> 48 <= x.toNat /\ x.toNat <= 57 := by
 subst hS
 rw [bs_append]
 refine ⟨?_, fun x hx => ?_⟩
 ·rw [bs_size, List.length_append, digL_len 6 n hn]
  omega
 ·rcases List.mem_append.1 hx with hx | hx
  ·exact digL_dg _ n 6 rfl x hx
  ·exact digL_dg _ m q rfl x hx
theorem panOk_mk {S : ByteArray} (h6 : 6 <= S.size) (h19 : S.size <= 19) (hd : ∀ x, x ∈ S.data.toList -> 48 <= x.toNat /\ x.toNat <= 57) : panOk S = true := by
 unfold panOk
 simp only [Bool.and_eq_true, decide_eq_true_eq, List.all_eq_true]
 exact ⟨h6, h19, fun x hx => hd x hx⟩
theorem payOk_mk {S : ByteArray} {m a u : Nat} (hS : panOk S = true) (hm : m <= 9999) (ha : a <= 1000000000) (hu : u <= 999) : payOk ⟨S, m, a, u⟩ = true := by
 unfold payOk
 rw [hS]
 simp
 omega
set_option maxRecDepth 30000 in
set_option maxHeartbeats 4000000 in
theorem kpayment_c (w : World) (a : Option Addr) (n c : Nat) (l : List Int) (hl : l.length = n) (hr : RawAt w a l) (hi : ∀ x, x ∈ l -> InI x) :
  Calls Tryz.prog 8 #[.slice a n c] w fun e w' => (∃ p, e = .returned (payV p) /\ payOk p = true /\ p.pan.size <= 19 /\ p.cur <= 3) /\ F0 w w' := by
 have HP : Hid (∀ (c nv : Int) (n : Nat) (w : World), InI c -> nv = n -> 0 < n -> n <= 10000000000 -> Calls Tryz.prog 23 #[.int .i64 c, .int .i64 nv] w fun e w' => e = .returned (.int .i64 (pickK c n)) /\ w' = w) := fun c nv n w h e h3 h4 => by subst e; exact kpick_any c n w h.1 h.2 h3 h4
 have HG : Hid (∀ (n wd : Nat) (nv wv : Int) (w : World), nv = n -> wv = wd -> n <= 10000000000 -> wd <= 1000 -> Calls Tryz.prog 29 #[.int .i64 nv, .int .i64 wv] w fun e w' => e = .returned (.string (bs (digL n wd))) /\ F0 w w') := fun n wd nv wv w e1 e2 h1 h2 => by subst e1 e2; exact kdigits_any n wd w h1 h2
 have HRw : Hid (∀ (W : World), F0 w W -> ∀ (i : Nat) (iv : Int), iv = i -> Calls Tryz.prog 30 #[.slice a n c, .int .i64 iv] W fun e w' => e = .returned (.int .i64 (rawK l i)) /\ w' = W) := fun W hf i iv e => kraw_any W a n c l i iv hl (hr.fr hf) e
 have HIN : Hid (∀ i, InI (rawK l i)) := fun i => rawK_in hi i
 have HF0 : Hid (F0 w (w.alloc (.cells #[.string ⟨#[]⟩, .int .i64 0, .int .i64 0, .int .i64 0] 24))) := (Fr.refl _ _).alloc _
 have HB0 : Hid ((w.alloc (.cells #[.string ⟨#[]⟩, .int .i64 0, .int .i64 0, .int .i64 0] 24)).heap[w.heap.size]? = some (.cells #[.string ⟨#[]⟩, .int .i64 0, .int .i64 0, .int .i64 0] 24)) := heap_alloc_new w _
 clear hi hr hl
 go_enter Tryz.func8, Tryz.ntmps8
 go_upto_region 1 with fail
 generalize w.alloc (.cells #[.string ⟨#[]⟩, .int .i64 0, .int .i64 0, .int .i64 0] 24) = w0 at *
 obtain ⟨Q, hQ⟩ : ∃ Q, w.heap.size = Q := ⟨_, rfl⟩
 rw [hQ] at HB0
 rw [hQ]
 have HQ := hid hQ
 clear hQ
 go_wp2_with fail
 refine (HRw.o _ HF0.o 0 _ rfl).mono ?_
 rintro e w' ⟨rfl, he⟩
 replace he := he.symm
 subst he
 go_wp2_with fail
 refine (HP.o _ 1000000 1000000 _ (HIN.o _) rfl (by decide) (by decide)).mono ?_
 rintro e w' ⟨rfl, he⟩
 replace he := he.symm
 subst he
 obtain ⟨m1, hm1⟩ : ∃ m, pickK (rawK l 0) 1000000 = m := ⟨_, rfl⟩
 have hb1 : m1 < 1000000 := by rw [<- hm1]; exact pickK_lt _ _ (by decide)
 rw [hm1]
 clear hm1
 go_wp2_with fail
 refine (HG.o m1 6 _ _ _ rfl rfl (by omega) (by omega)).mono ?_
 rintro e w1 ⟨rfl, hf1⟩
 have HF1 := hid (HF0.o.trans hf1)
 have HB1 := hid (hf1.whole HB0.o (by simp))
 obtain ⟨E1, hE1⟩ : ∃ E, bs (digL m1 6) = E := ⟨_, rfl⟩
 have hs1 : E1.size = 6 := by rw [<- hE1, bs_size, digL_len 6 m1 (by omega)]
 rw [hE1]
 have HE1 := hid hE1
 clear hE1 hf1 HF0 HB0
 go_wp2_with fail
 refine (HRw.o _ HF1.o 1 _ rfl).mono ?_
 rintro e w' ⟨rfl, he⟩
 replace he := he.symm
 subst he
 go_wp2_with fail
 refine (HP.o _ 1000 1000 _ (HIN.o _) rfl (by decide) (by decide)).mono ?_
 rintro e w' ⟨rfl, he⟩
 replace he := he.symm
 subst he
 obtain ⟨m2, hm2⟩ : ∃ m, pickK (rawK l 1) 1000 = m := ⟨_, rfl⟩
 have hb2 : m2 < 1000 := by rw [<- hm2]; exact pickK_lt _ _ (by decide)
 rw [hm2]
 clear hm2
 go_wp2_with fail
 refine (HRw.o _ HF1.o 1 _ rfl).mono ?_
 rintro e w' ⟨rfl, he⟩
 replace he := he.symm
 subst he
 go_wp2_with fail
 refine (HP.o _ 14 14 _ (HIN.o _) rfl (by decide) (by decide)).mono ?_
 rintro e w' ⟨rfl, he⟩
 replace he := he.symm
 subst he
 obtain ⟨m3, hm3⟩ : ∃ m, pickK (rawK l 1) 14 = m := ⟨_, rfl⟩
 have hb3 : m3 < 14 := by rw [<- hm3]; exact pickK_lt _ _ (by decide)
 rw [hm3]
 clear hm3
 go_wp2_with fail
 refine (HG.o m2 m3 _ _ _ rfl rfl (by omega) (by omega)).mono ?_
 rintro e w2 ⟨rfl, hf2⟩
 have HF2 := hid (HF1.o.trans hf2)
 have HB2 := hid (hf2.whole HB1.o (by simp))
 obtain ⟨E2, hE2⟩ : ∃ E, bs (digL m2 m3) = E := ⟨_, rfl⟩
 have hs2 : E2.size <= 20 := by rw [<- hE2, bs_size]; have := digL_le2 20 m2 m3 (by omega) (by omega); omega
 rw [hE2]
 have HPn := hid (pan_ok (n := m1) (m := m2) (q := m3) (S := E1 ++ E2) hb1 (by rw [HE1.o, hE2]))
 have hsS : (E1 ++ E2).size = 6 + E2.size := by rw [ByteArray.size_append, hs1]
 clear hE2 hf2 HF1 HB1 HE1
 go_upto_if 18 with fail
 generalize E1 ++ E2 = S at *
 go_cut [3] (fun v wx => ∃ S : ByteArray, v = .string S /\ S.size <= 19 /\ Hid (panOk S = true) /\ wx = w2)
 case first =>
  by_cases hbig : 19 < S.size
  ·have hbi : (19 : Int) < (S.size : Int) := by omega
   have hbj : (19 : Int) < 6 + (E2.size : Int) := by omega
   have hcs : (S.extract 0 19).size = 19 := by rw [ByteArray.size_extract]; omega
   have HPc : Hid (panOk (S.extract 0 19) = true) := panOk_mk (by omega) (by omega) (fun x hx => HPn.o.2 x (by
    rw [show (S.extract 0 19).data.toList = S.data.toList.take 19 from by rw [Lib.extract_data]; simp] at hx
    exact List.mem_of_mem_take hx))
   go_wp2_with fail
   go_meet
   exact ⟨_, rfl, by omega, HPc, rfl⟩
  ·have hbi : ¬ (19 : Int) < (S.size : Int) := by omega
   have hbj : ¬ (19 : Int) < 6 + (E2.size : Int) := by omega
   have HPc : Hid (panOk S = true) := panOk_mk HPn.o.1 (by omega) HPn.o.2
   go_wp2_with fail
   go_meet
   exact ⟨S, rfl, by omega, HPc, rfl⟩
 case rest =>
  obtain ⟨S3, rfl, hs3, HP3, hwc⟩ := hcut
  replace hwc := hwc.symm
  subst hwc
  clear HPn hsS hs1 hs2
  go_wp2_with fail
  refine (HRw.o _ HF2.o 2 _ rfl).mono ?_
  rintro e w' ⟨rfl, he⟩
  replace he := he.symm
  subst he
  go_wp2_with fail
  refine (HP.o _ 5 5 _ (HIN.o _) rfl (by decide) (by decide)).mono ?_
  rintro e w' ⟨rfl, he⟩
  replace he := he.symm
  subst he
  obtain ⟨k1, hk1⟩ : ∃ m, pickK (rawK l 2) 5 = m := ⟨_, rfl⟩
  have hc1 : k1 < 5 := by rw [<- hk1]; exact pickK_lt _ _ (by decide)
  rw [hk1]
  clear hk1
  go_wp2_with fail
  refine (HRw.o _ HF2.o 3 _ rfl).mono ?_
  rintro e w' ⟨rfl, he⟩
  replace he := he.symm
  subst he
  go_wp2_with fail
  refine (HP.o _ 60 60 _ (HIN.o _) rfl (by decide) (by decide)).mono ?_
  rintro e w' ⟨rfl, he⟩
  replace he := he.symm
  subst he
  obtain ⟨k2, hk2⟩ : ∃ m, pickK (rawK l 3) 60 = m := ⟨_, rfl⟩
  have hc2 : k2 < 60 := by rw [<- hk2]; exact pickK_lt _ _ (by decide)
  rw [hk2]
  clear hk2
  go_wp2_with fail
  refine (HRw.o _ HF2.o 4 _ rfl).mono ?_
  rintro e w' ⟨rfl, he⟩
  replace he := he.symm
  subst he
  go_wp2_with fail
  refine (HP.o _ 4 4 _ (HIN.o _) rfl (by decide) (by decide)).mono ?_
  rintro e w' ⟨rfl, he⟩
  replace he := he.symm
  subst he
  obtain ⟨k3, hk3⟩ : ∃ m, pickK (rawK l 4) 4 = m := ⟨_, rfl⟩
  have hc3 : k3 < 4 := by rw [<- hk3]; exact pickK_lt _ _ (by decide)
  rw [hk3]
  clear hk3
  have x0 := block_cell HB2.o 0 _ rfl
  have x1 := block_cell HB2.o 1 _ rfl
  have x2 := block_cell HB2.o 2 _ rfl
  have x3 := block_cell HB2.o 3 _ rfl
  have z0 := block_frozen HB2.o 0
  have z1 := block_frozen HB2.o 1
  have z2 := block_frozen HB2.o 2
  have z3 := block_frozen HB2.o 3
  go_wp2_with fail
  have e1 := heap_setCell_same w2 Q 0 _ _ (.string S3) HB2.o
  have e2 := heap_setCell_same _ Q 1 _ _ (.int .i64 k1) e1
  have e3 := heap_setCell_same _ Q 2 _ _ (.int .i64 k2) e2
  have e4 := heap_setCell_same _ Q 3 _ _ (.int .i64 k3) e3
  have s0 : ((((w2.setCell ⟨Q, 0, none⟩ (.string S3)).setCell ⟨Q, 1, none⟩ (.int .i64 k1)).setCell ⟨Q, 2, none⟩ (.int .i64 k2)).setCell ⟨Q, 3, none⟩ (.int .i64 k3)).cell? ⟨Q, 0, none⟩ = some (.string S3) := block_cell e4 0 _ rfl
  have s1 : ((((w2.setCell ⟨Q, 0, none⟩ (.string S3)).setCell ⟨Q, 1, none⟩ (.int .i64 k1)).setCell ⟨Q, 2, none⟩ (.int .i64 k2)).setCell ⟨Q, 3, none⟩ (.int .i64 k3)).cell? ⟨Q, 1, none⟩ = some (.int .i64 k1) := block_cell e4 1 _ rfl
  have s2 : ((((w2.setCell ⟨Q, 0, none⟩ (.string S3)).setCell ⟨Q, 1, none⟩ (.int .i64 k1)).setCell ⟨Q, 2, none⟩ (.int .i64 k2)).setCell ⟨Q, 3, none⟩ (.int .i64 k3)).cell? ⟨Q, 2, none⟩ = some (.int .i64 k2) := block_cell e4 2 _ rfl
  have s3 : ((((w2.setCell ⟨Q, 0, none⟩ (.string S3)).setCell ⟨Q, 1, none⟩ (.int .i64 k1)).setCell ⟨Q, 2, none⟩ (.int .i64 k2)).setCell ⟨Q, 3, none⟩ (.int .i64 k3)).cell? ⟨Q, 3, none⟩ = some (.int .i64 k3) := block_cell e4 3 _ rfl
  have hq : w.heap.size <= Q := by have := HQ.o; omega
  refine bodyPost_ret (v := payV ⟨S3, k1, k2, k3⟩) (by simp [results, Tryz.results8, go_sem, s0, s1, s2, s3, payV]) rfl ⟨⟨_, rfl, payOk_mk HP3.o (by omega) (by omega) (by omega), hs3, by show (k3 : Int) <= 3; omega⟩, ?_⟩
  exact (((HF2.o.setCell (p := ⟨Q, 0, none⟩) (Or.inr hq) _).setCell (p := ⟨Q, 1, none⟩) (Or.inr hq) _).setCell (p := ⟨Q, 2, none⟩) (Or.inr hq) _).setCell (p := ⟨Q, 3, none⟩) (Or.inr hq) _
end Go.Proofs.YtccikgogjfbpeabGreatDoor
