/- The seal: words, and what is opened. Reading an image whole. -/
import Derived.Test.YtccikgogjfbpeabGreatDoorWHa
import Derived.Test.YtccikgogjfbpeabGreatDoorWIf
namespace Go.Proofs.YtccikgogjfbpeabGreatDoor
open Go.RowKit
def wordB (n : Nat) : List UInt8 := [UInt8.ofNat n, UInt8.ofNat (n / 256), UInt8.ofNat (n / 65536), UInt8.ofNat (n / 16777216)]
theorem wordB_num {n : Nat} (h : n < 4294967296) : leN (wordB n) = n := by
 simp only [wordB, leN, UInt8.toNat_ofNat']
 omega
set_option maxRecDepth 30000 in
set_option maxHeartbeats 1000000 in
theorem sword_any (n : Nat) (w : World) (hn : n < 4294967296) :
  Calls Tryz.prog 77 #[.int .u32 (n : Nat)] w fun e w' => e = .returned (.string ⟨(wordB n).toArray⟩) /\ F0 w w' := by
 have hb : ∀ x : Nat, IntKind.u8.wrap (x : Int) = (((UInt8.ofNat x).toNat : Nat) : Int) := fun x => by
  rw [UInt8.toNat_ofNat']
  simp [IntKind.wrap, IntKind.bits, IntKind.signed]
 have w0 := hb n
 have w1 : (n : Int) / 256 % 256 = (((UInt8.ofNat (n / 256)).toNat : Nat) : Int) := by rw [UInt8.toNat_ofNat']; omega
 have w2 : (n : Int) / 65536 % 256 = (((UInt8.ofNat (n / 65536)).toNat : Nat) : Int) := by rw [UInt8.toNat_ofNat']; omega
 have w3 : (n : Int) / 16777216 = (((UInt8.ofNat (n / 16777216)).toNat : Nat) : Int) := by rw [UInt8.toNat_ofNat']; omega
 have HW : Hid (wordB n = [UInt8.ofNat n, UInt8.ofNat (n / 256), UInt8.ofNat (n / 65536), UInt8.ofNat (n / 16777216)]) := rfl
 generalize wordB n = wb at *
 generalize UInt8.ofNat n = b0 at *
 generalize UInt8.ofNat (n / 256) = b1 at *
 generalize UInt8.ofNat (n / 65536) = b2 at *
 generalize UInt8.ofNat (n / 16777216) = b3 at *
 have hcv : (convert 104 9 (.slice (some ⟨w.heap.size, 0, none⟩) 4 4)).run Tryz.prog (w.alloc (.cells #[.int .u8 (b0.toNat : Nat), .int .u8 (b1.toNat : Nat), .int .u8 (b2.toNat : Nat), .int .u8 (b3.toNat : Nat)] 5)) = .ok (.string ⟨#[b0, b1, b2, b3]⟩) (w.alloc (.cells #[.int .u8 (b0.toNat : Nat), .int .u8 (b1.toNat : Nat), .int .u8 (b2.toNat : Nat), .int .u8 (b3.toNat : Nat)] 5)) := by
  have e := run_convert_bytes_back (P := Tryz.prog) (w.alloc (.cells #[.int .u8 (b0.toNat : Nat), .int .u8 (b1.toNat : Nat), .int .u8 (b2.toNat : Nat), .int .u8 (b3.toNat : Nat)] 5)) 104 9 5 ⟨w.heap.size, 0, none⟩ 4 [b0, b1, b2, b3] Tryz.underlying104 Tryz.underlying5 Tryz.underlying9 (by
   intro j hj
   have : j = 0 \/ j = 1 \/ j = 2 \/ j = 3 := by simp at hj; omega
   rcases this with rfl | rfl | rfl | rfl <;> rw [addr_add'] <;> exact block_cell (heap_alloc_new w _) _ _ rfl)
  simpa using e
 clear hb
 go_enter Tryz.func77, Tryz.ntmps77
 go_wp2_with fail
 go_ret
 rw [HW.o]
 exact ⟨rfl, (Fr.refl _ _).alloc _⟩
def openM (l : List UInt8) : Option (List UInt8) := if 8 <= l.length /\ l.length <= 200000 then (if l.take 4 = wordB l.length /\ l.drop (l.length - 4) = wordB (sumM (l.take (l.length - 4))) then some ((l.take (l.length - 4)).drop 4) else none) else none
def openV : Option (List UInt8) -> Value
 | none => .tuple #[.string ⟨#[]⟩, .bool false]
 | some l => .tuple #[.string ⟨l.toArray⟩, .bool true]
theorem beq_bytes (a : ByteArray) (l : List UInt8) : (a.toList == (⟨l.toArray⟩ : ByteArray).toList) = decide (a.data.toList = l) := by
 rw [ByteArray.toList_eq, ByteArray.toList_eq]
 by_cases h : a.data.toList = l
 ·simp [h]
 ·simp [h]
theorem sumM_lt (l : List UInt8) : sumM l < 4294967296 := Nat.xor_lt_two_pow (n := 32) (by omega) (crc_lt l (by omega))
theorem ext_list (s : ByteArray) (i j : Nat) : (s.extract i j).data.toList = (s.data.toList.take j).drop i := by
 rw [ByteArray.data_extract, Array.toList_extract]
 simp [List.extract_eq_take_drop, List.drop_take]
set_option maxRecDepth 30000 in
set_option maxHeartbeats 2000000 in
theorem sOpen_any (s : ByteArray) (w : World) (hs : s.size <= 9223372036854775807) (hH : Hal w) :
  Calls Tryz.prog 45 #[.string s] w fun e w' => e = .returned (openV (openM s.data.toList)) /\ F0 w w' := by
 have HH := hid hH
 have hln : s.data.toList.length = s.size := by simp
 obtain ⟨O, hO⟩ : ∃ O, openM s.data.toList = O := ⟨_, rfl⟩
 rw [hO]
 have hw4 : IntKind.i64.wrap ((s.size : Int) - 4) = (s.size : Int) - 4 := IntWalk.i64_in _ (by constructor <;> omega)
 clear hH
 by_cases h8 : 8 <= s.size
 ·by_cases h2 : s.size <= 200000
  ·have hO2 : (if s.data.toList.take 4 = wordB s.size /\ s.data.toList.drop (s.size - 4) = wordB (sumM (s.data.toList.take (s.size - 4))) then some ((s.data.toList.take (s.size - 4)).drop 4) else none) = O := by
    rw [<- hO]
    unfold openM
    rw [hln, if_pos (show 8 <= s.size /\ s.size <= 200000 from ⟨h8, h2⟩)]
   have HO := hid hO2
   have l1 : ¬ (s.size : Int) - 4 < 4 := by omega
   have l2 : ¬ (200000 : Int) < (s.size : Int) := by omega
   obtain ⟨en, hen⟩ : ∃ en, s.size - 4 = en := ⟨_, rfl⟩
   have hei : (s.size : Int) - 4 = (en : Int) := by omega
   have hel : en <= s.size := by omega
   have l4 : (4 : Int) <= (s.size : Int) := by omega
   have l5 : (en : Int) <= (s.size : Int) := by omega
   have l6 : (4 : Int) <= (en : Int) := by omega
   have hu : IntKind.u32.wrap (s.size : Int) = (s.size : Int) := IntWalk.u32_in _ (by constructor <;> omega)
   rw [hen] at HO
   have HF0 : Hid (F0 w w.drew) := (Fr.refl _ _).drew
   have HX1 : Hid ((s.extract 0 4).data.toList = s.data.toList.take 4) := by show _ = _; rw [ext_list]; simp
   have HX2 : Hid ((s.extract en s.size).data.toList = s.data.toList.drop en) := by show _ = _; rw [ext_list, List.take_of_length_le (by omega)]
   have HX3 : Hid ((s.extract 0 en).data.toList = s.data.toList.take en) := by show _ = _; rw [ext_list]; simp
   have HW1 : Hid (∀ W, Calls Tryz.prog 77 #[.int .u32 (s.size : Nat)] W fun e w' => e = .returned (.string ⟨(wordB s.size).toArray⟩) /\ F0 W w') := fun W => sword_any s.size W (by omega)
   have HSm : Hid (∀ W, F0 w W -> Calls Tryz.prog 78 #[.string (s.extract 0 en)] W fun e w' => e = .returned (.int .u32 (sumM (s.data.toList.take en) : Nat)) /\ F0 W w') := fun W hf => by
    have e := ssum_any (s.extract 0 en) W (by rw [ByteArray.size_extract]; omega) (HH.o.fr hf)
    rw [HX3.o] at e
    exact e
   have HW2 : Hid (∀ W, Calls Tryz.prog 77 #[.int .u32 (sumM (s.data.toList.take en) : Nat)] W fun e w' => e = .returned (.string ⟨(wordB (sumM (s.data.toList.take en))).toArray⟩) /\ F0 W w') := fun W => sword_any _ W (sumM_lt _)
   have E1 := beq_bytes (s.extract 0 4) (wordB s.size)
   have E2 := beq_bytes (s.extract en s.size) (wordB (sumM (s.data.toList.take en)))
   rw [HX1.o] at E1
   rw [HX2.o] at E2
   clear hO hO2 hln
   generalize sumM (s.data.toList.take en) = sm at *
   generalize (⟨(wordB s.size).toArray⟩ : ByteArray) = Wd at *
   generalize (⟨(wordB sm).toArray⟩ : ByteArray) = Ws at *
   by_cases c1 : s.data.toList.take 4 = wordB s.size
   ·have e1 : ((s.extract 0 4).toList == Wd.toList) = true := by rw [E1]; simpa using c1
    by_cases c2 : s.data.toList.drop en = wordB sm
    ·have e2 : ((s.extract en s.size).toList == Ws.toList) = true := by rw [E2]; simpa using c2
     have eO : O = some ((s.data.toList.take en).drop 4) := by rw [<- HO.o, if_pos ⟨c1, c2⟩]
     subst eO
     clear E1 E2 c1 c2 HO
     go_enter Tryz.func45, Tryz.ntmps45
     go_wp2_with fail
     refine wp_region_held_drew (S := fun _ => True) (by kernel_rfl) trivial (fun hH => ?_)
     refine htk 0 (v := ?v0A) ?y0A hH ?r0A
     case y0A =>
      intro w _
      go_simp
      with_reducible rfl
     try go_frame
     refine htk 1 (v := ?v1A) ?y1A hH ?r1A
     case y1A =>
      intro w _
      go_simp
      with_reducible rfl
     try go_frame
     refine htk 2 (v := ?v2A) ?y2A hH ?r2A
     case y2A =>
      intro w _
      go_simp
      with_reducible rfl
     try go_frame
     refine htk 3 (v := ?v3A) ?y3A hH ?r3A
     case y3A =>
      intro w _
      go_simp
      with_reducible rfl
     try go_frame
     refine htk 4 (v := ?v4A) ?y4A hH ?r4A
     case y4A =>
      intro w _
      go_simp
      with_reducible rfl
     try go_frame
     refine wpAnyH_ready (rs := [5]) (by kernel_rfl) (by simp) ?_
     refine held_cons rfl (fun K2 hK => ?_) AllReadyH.nil
     try rw [if_pos (by rfl)]
     go_simp
     refine (HW1.o _).mono ?_
     rintro e wa ⟨rfl, hf⟩
     have Hwa := hid (HF0.o.trans hf)
     clear hf
     refine hK.out _ _ trivial (fun hH => ?_)
     clear hK K2
     try go_frame
     refine htk 6 (v := ?v6A) ?y6A hH ?r6A
     case y6A =>
      intro w _
      go_simp
      with_reducible rfl
     try go_frame
     refine htk 7 (v := ?v7A) ?y7A hH ?r7A
     case y7A =>
      intro w _
      go_simp
      with_reducible rfl
     try go_frame
     refine htk 8 (v := ?v8A) ?y8A hH ?r8A
     case y8A =>
      intro w _
      go_simp
      with_reducible rfl
     try go_frame
     refine htk 9 (v := ?v9A) ?y9A hH ?r9A
     case y9A =>
      intro w _
      go_simp
      with_reducible rfl
     try go_frame
     refine htk 10 (v := ?v10A) ?y10A hH ?r10A
     case y10A =>
      intro w _
      go_simp
      with_reducible rfl
     try go_frame
     refine htk 11 (v := ?v11A) ?y11A hH ?r11A
     case y11A =>
      intro w _
      go_simp
      with_reducible rfl
     try go_frame
     refine htk 12 (v := ?v12A) ?y12A hH ?r12A
     case y12A =>
      intro w _
      go_simp
      with_reducible rfl
     try go_frame
     refine htk 13 (v := ?v13A) ?y13A hH ?r13A
     case y13A =>
      intro w _
      go_simp
      with_reducible rfl
     try go_frame
     refine wpAnyH_ready (rs := [14]) (by kernel_rfl) (by simp) ?_
     refine held_cons rfl (fun K2 hK => ?_) AllReadyH.nil
     try rw [if_pos (by rfl)]
     go_simp
     refine (HSm.o _ Hwa.o).mono ?_
     rintro e wb ⟨rfl, hf⟩
     have Hwb := hid (Hwa.o.trans hf)
     clear hf
     refine hK.out _ _ trivial (fun hH => ?_)
     clear hK K2
     try go_frame
     refine wpAnyH_ready (rs := [15]) (by kernel_rfl) (by simp) ?_
     refine held_cons rfl (fun K2 hK => ?_) AllReadyH.nil
     try rw [if_pos (by rfl)]
     go_simp
     refine (HW2.o _).mono ?_
     rintro e wc ⟨rfl, hf⟩
     have Hwc := hid (Hwb.o.trans hf)
     clear hf
     refine hK.out _ _ trivial (fun hH => ?_)
     clear hK K2
     try go_frame
     refine htk 16 (v := ?v16A) ?y16A hH ?r16A
     case y16A =>
      intro w _
      go_simp
      with_reducible rfl
     try go_frame
     refine htk 17 (v := ?v17A) ?y17A hH ?r17A
     case y17A =>
      intro w _
      go_simp
      with_reducible rfl
     try go_frame
     refine wpAnyH_done (by kernel_rfl) ?_ _
     go_wp2_with fail
     refine bodyPost_ret (v := .tuple #[.string (s.extract 4 en), .bool true]) (by simp [results, Tryz.results45, go_sem]) rfl ⟨?_, Hwc.o⟩
     have ee : s.extract 4 en = ⟨((s.data.toList.take en).drop 4).toArray⟩ := by
      apply ByteArray.ext
      apply Array.toList_inj.1
      rw [ext_list]
     rw [ee]
     rfl
    ·have e2 : ((s.extract en s.size).toList == Ws.toList) = false := by rw [E2]; simpa using c2
     have eO : O = none := by rw [<- HO.o, if_neg (fun h => c2 h.2)]
     subst eO
     clear E1 E2 c1 c2 HO
     go_enter Tryz.func45, Tryz.ntmps45
     go_wp2_with fail
     refine wp_region_held_drew (S := fun _ => True) (by kernel_rfl) trivial (fun hH => ?_)
     refine htk 0 (v := ?v0B) ?y0B hH ?r0B
     case y0B =>
      intro w _
      go_simp
      with_reducible rfl
     try go_frame
     refine htk 1 (v := ?v1B) ?y1B hH ?r1B
     case y1B =>
      intro w _
      go_simp
      with_reducible rfl
     try go_frame
     refine htk 2 (v := ?v2B) ?y2B hH ?r2B
     case y2B =>
      intro w _
      go_simp
      with_reducible rfl
     try go_frame
     refine htk 3 (v := ?v3B) ?y3B hH ?r3B
     case y3B =>
      intro w _
      go_simp
      with_reducible rfl
     try go_frame
     refine htk 4 (v := ?v4B) ?y4B hH ?r4B
     case y4B =>
      intro w _
      go_simp
      with_reducible rfl
     try go_frame
     refine wpAnyH_ready (rs := [5]) (by kernel_rfl) (by simp) ?_
     refine held_cons rfl (fun K2 hK => ?_) AllReadyH.nil
     try rw [if_pos (by rfl)]
     go_simp
     refine (HW1.o _).mono ?_
     rintro e wa ⟨rfl, hf⟩
     have Hwa := hid (HF0.o.trans hf)
     clear hf
     refine hK.out _ _ trivial (fun hH => ?_)
     clear hK K2
     try go_frame
     refine htk 6 (v := ?v6B) ?y6B hH ?r6B
     case y6B =>
      intro w _
      go_simp
      with_reducible rfl
     try go_frame
     refine htk 7 (v := ?v7B) ?y7B hH ?r7B
     case y7B =>
      intro w _
      go_simp
      with_reducible rfl
     try go_frame
     refine htk 8 (v := ?v8B) ?y8B hH ?r8B
     case y8B =>
      intro w _
      go_simp
      with_reducible rfl
     try go_frame
     refine htk 9 (v := ?v9B) ?y9B hH ?r9B
     case y9B =>
      intro w _
      go_simp
      with_reducible rfl
     try go_frame
     refine htk 10 (v := ?v10B) ?y10B hH ?r10B
     case y10B =>
      intro w _
      go_simp
      with_reducible rfl
     try go_frame
     refine htk 11 (v := ?v11B) ?y11B hH ?r11B
     case y11B =>
      intro w _
      go_simp
      with_reducible rfl
     try go_frame
     refine htk 12 (v := ?v12B) ?y12B hH ?r12B
     case y12B =>
      intro w _
      go_simp
      with_reducible rfl
     try go_frame
     refine htk 13 (v := ?v13B) ?y13B hH ?r13B
     case y13B =>
      intro w _
      go_simp
      with_reducible rfl
     try go_frame
     refine wpAnyH_ready (rs := [14]) (by kernel_rfl) (by simp) ?_
     refine held_cons rfl (fun K2 hK => ?_) AllReadyH.nil
     try rw [if_pos (by rfl)]
     go_simp
     refine (HSm.o _ Hwa.o).mono ?_
     rintro e wb ⟨rfl, hf⟩
     have Hwb := hid (Hwa.o.trans hf)
     clear hf
     refine hK.out _ _ trivial (fun hH => ?_)
     clear hK K2
     try go_frame
     refine wpAnyH_ready (rs := [15]) (by kernel_rfl) (by simp) ?_
     refine held_cons rfl (fun K2 hK => ?_) AllReadyH.nil
     try rw [if_pos (by rfl)]
     go_simp
     refine (HW2.o _).mono ?_
     rintro e wc ⟨rfl, hf⟩
     have Hwc := hid (Hwb.o.trans hf)
     clear hf
     refine hK.out _ _ trivial (fun hH => ?_)
     clear hK K2
     try go_frame
     refine htk 16 (v := ?v16B) ?y16B hH ?r16B
     case y16B =>
      intro w _
      go_simp
      with_reducible rfl
     try go_frame
     refine htk 17 (v := ?v17B) ?y17B hH ?r17B
     case y17B =>
      intro w _
      go_simp
      with_reducible rfl
     try go_frame
     refine wpAnyH_done (by kernel_rfl) ?_ _
     go_wp2_with fail
     exact bodyPost_ret (v := .tuple #[.string ⟨#[]⟩, .bool false]) (by simp [results, Tryz.results45, go_sem]) rfl ⟨rfl, Hwc.o⟩
   ·have e1 : ((s.extract 0 4).toList == Wd.toList) = false := by rw [E1]; simpa using c1
    have eO : O = none := by rw [<- HO.o, if_neg (fun h => c1 h.1)]
    subst eO
    clear E1 E2 c1 HO
    go_enter Tryz.func45, Tryz.ntmps45
    go_wp2_with fail
    refine wp_region_held_drew (S := fun _ => True) (by kernel_rfl) trivial (fun hH => ?_)
    refine htk 0 (v := ?v0C) ?y0C hH ?r0C
    case y0C =>
     intro w _
     go_simp
     with_reducible rfl
    try go_frame
    refine htk 1 (v := ?v1C) ?y1C hH ?r1C
    case y1C =>
     intro w _
     go_simp
     with_reducible rfl
    try go_frame
    refine htk 2 (v := ?v2C) ?y2C hH ?r2C
    case y2C =>
     intro w _
     go_simp
     with_reducible rfl
    try go_frame
    refine htk 3 (v := ?v3C) ?y3C hH ?r3C
    case y3C =>
     intro w _
     go_simp
     with_reducible rfl
    try go_frame
    refine htk 4 (v := ?v4C) ?y4C hH ?r4C
    case y4C =>
     intro w _
     go_simp
     with_reducible rfl
    try go_frame
    refine wpAnyH_ready (rs := [5]) (by kernel_rfl) (by simp) ?_
    refine held_cons rfl (fun K2 hK => ?_) AllReadyH.nil
    try rw [if_pos (by rfl)]
    go_simp
    refine (HW1.o _).mono ?_
    rintro e wa ⟨rfl, hf⟩
    have Hwa := hid (HF0.o.trans hf)
    clear hf
    refine hK.out _ _ trivial (fun hH => ?_)
    clear hK K2
    try go_frame
    refine htk 6 (v := ?v6C) ?y6C hH ?r6C
    case y6C =>
     intro w _
     go_simp
     with_reducible rfl
    try go_frame
    refine htk 7 (v := ?v7C) ?y7C hH ?r7C
    case y7C =>
     intro w _
     go_simp
     with_reducible rfl
    try go_frame
    refine held_pass 8 rfl (by kernel_rfl) (by kernel_rfl) (by kernel_rfl) (fun _ _ _ h => h) rfl hH ?_
    try go_frame
    refine held_pass 9 rfl (by kernel_rfl) (by kernel_rfl) (by kernel_rfl) (fun _ _ _ h => h) rfl hH ?_
    try go_frame
    refine held_pass 10 rfl (by kernel_rfl) (by kernel_rfl) (by kernel_rfl) (fun _ _ _ h => h) rfl hH ?_
    try go_frame
    refine held_pass 11 rfl (by kernel_rfl) (by kernel_rfl) (by kernel_rfl) (fun _ _ _ h => h) rfl hH ?_
    try go_frame
    refine held_pass 12 rfl (by kernel_rfl) (by kernel_rfl) (by kernel_rfl) (fun _ _ _ h => h) rfl hH ?_
    try go_frame
    refine held_pass 13 rfl (by kernel_rfl) (by kernel_rfl) (by kernel_rfl) (fun _ _ _ h => h) rfl hH ?_
    try go_frame
    refine held_pass 14 rfl (by kernel_rfl) (by kernel_rfl) (by kernel_rfl) (fun _ _ _ h => h) rfl hH ?_
    try go_frame
    refine held_pass 15 rfl (by kernel_rfl) (by kernel_rfl) (by kernel_rfl) (fun _ _ _ h => h) rfl hH ?_
    try go_frame
    refine held_pass 16 rfl (by kernel_rfl) (by kernel_rfl) (by kernel_rfl) (fun _ _ _ h => h) rfl hH ?_
    try go_frame
    refine htk 17 (v := ?v17C) ?y17C hH ?r17C
    case y17C =>
     intro w _
     go_simp
     with_reducible rfl
    try go_frame
    refine wpAnyH_done (by kernel_rfl) ?_ _
    go_wp2_with fail
    exact bodyPost_ret (v := .tuple #[.string ⟨#[]⟩, .bool false]) (by simp [results, Tryz.results45, go_sem]) rfl ⟨rfl, Hwa.o⟩
  ·have eO : O = none := by rw [<- hO]; unfold openM; rw [hln, if_neg (by omega)]
   subst eO
   have l2 : (200000 : Int) < (s.size : Int) := by omega
   have l1 : ¬ (s.size : Int) - 4 < 4 := by omega
   clear hO
   go_enter Tryz.func45, Tryz.ntmps45
   go_wp2_with fail
   exact bodyPost_ret (v := .tuple #[.string ⟨#[]⟩, .bool false]) (by simp [results, Tryz.results45, go_sem]) rfl ⟨rfl, Fr.refl _ _⟩
 ·have eO : O = none := by rw [<- hO]; unfold openM; rw [hln, if_neg (by omega)]
  subst eO
  have l1 : decide ((s.size : Int) - 4 < 4) = true := by simp; omega
  clear hO
  go_enter Tryz.func45, Tryz.ntmps45
  go_wp2_with fail
  exact bodyPost_ret (v := .tuple #[.string ⟨#[]⟩, .bool false]) (by simp [results, Tryz.results45, go_sem]) rfl ⟨rfl, Fr.refl _ _⟩
end Go.Proofs.YtccikgogjfbpeabGreatDoor

namespace Go.Proofs.YtccikgogjfbpeabGreatDoor
open Go.RowKit
def loadM (l : List UInt8) : Option TrD := match openM l with
 | none => none
 | some b => readR b
def LdP (w : World) (r : Option TrD) (e : Ending) (w' : World) : Prop := match r with
 | none => e = noE /\ F0 w w'
 | some t => (∃ zb TT ra rc, e = .returned (.pointer (some ⟨TT, 0, none⟩)) /\ w.heap.size <= TT /\ TT <= zb /\ TlAt zb w' TT t ra rc) /\ F0 w w'
set_option maxRecDepth 30000 in
set_option maxHeartbeats 2000000 in
theorem tRead_any (s : ByteArray) (w : World) (hs : s.size <= 9223372036854775807) (hH : Hal w) :
  Calls Tryz.prog 25 #[.string s] w (LdP w (loadM s.data.toList)) := by
 have HO := hid (sOpen_any s w hs hH)
 obtain ⟨N, hN⟩ : ∃ N, loadM s.data.toList = N := ⟨_, rfl⟩
 rw [hN]
 unfold loadM at hN
 have HB : Hid (∀ b, openM s.data.toList = some b -> b.length <= 200000) := fun b hb => by
  unfold openM at hb
  split at hb
  ·split at hb
   ·injection hb with hb
    rw [<- hb, List.length_drop, List.length_take]
    omega
   ·cases hb
  ·cases hb
 have HN := hid hN
 clear hN hH
 go_enter Tryz.func25, Tryz.ntmps25
 go_wp2_with fail
 refine HO.o.mono ?_
 rintro e w1 ⟨rfl, hf1⟩
 have HF1 := hid hf1
 clear hf1 HO
 cases ho : openM s.data.toList with
 | none =>
  have eN : N = none := by rw [<- HN.o, ho]
  subst eN
  rw [show openV none = .tuple #[.string ⟨#[]⟩, .bool false] from rfl]
  go_wp2_with fail
  refine (insist_no _).mono ?_
  rintro e w2 ⟨he, hw⟩
  replace hw := hw.symm
  subst hw
  unfold noE at he
  subst he
  exact ⟨rfl, rfl, HF1.o⟩
 | some b =>
  have hb := HB.o b ho
  have HN1 : Hid (readR b = N) := by show _ = _; rw [<- HN.o, ho]
  rw [show openV (some b) = .tuple #[.string ⟨b.toArray⟩, .bool true] from rfl]
  obtain ⟨S, hS⟩ : ∃ S : ByteArray, (⟨b.toArray⟩ : ByteArray) = S := ⟨_, rfl⟩
  have hSl : S.data.toList = b := by rw [<- hS]
  have hSs : S.size <= 200000 := by rw [<- hS]; exact hb
  rw [hS]
  clear HN ho hS HB
  have HF2 : Hid (F0 w1 ((w1.alloc (.cells #[.slice none 0 0, .slice none 0 0, .slice none 0 0, .pointer none, .int .i64 0] 92)).alloc (.cells #[.string S, .int .i64 0, .pointer (some ⟨w1.heap.size, 0, none⟩)] 94))) := ((Fr.refl _ _).alloc _).alloc _
  have HT2 : Hid (((w1.alloc (.cells #[.slice none 0 0, .slice none 0 0, .slice none 0 0, .pointer none, .int .i64 0] 92)).alloc (.cells #[.string S, .int .i64 0, .pointer (some ⟨w1.heap.size, 0, none⟩)] 94)).heap[w1.heap.size]? = some (.cells #[.slice none 0 0, .slice none 0 0, .slice none 0 0, .pointer none, .int .i64 0] 92)) := ((Fr.refl (fun _ => False) _).alloc _).whole (heap_alloc_new w1 _) (by simp)
  have HR2 : Hid (RdAt ((w1.alloc (.cells #[.slice none 0 0, .slice none 0 0, .slice none 0 0, .pointer none, .int .i64 0] 92)).alloc (.cells #[.string S, .int .i64 0, .pointer (some ⟨w1.heap.size, 0, none⟩)] 94)) (w1.heap.size + 1) S 0 w1.heap.size) := by
   have e := heap_alloc_new (w1.alloc (.cells #[.slice none 0 0, .slice none 0 0, .slice none 0 0, .pointer none, .int .i64 0] 92)) (.cells #[.string S, .int .i64 0, .pointer (some ⟨w1.heap.size, 0, none⟩)] 94)
   rw [show (w1.alloc (.cells #[.slice none 0 0, .slice none 0 0, .slice none 0 0, .pointer none, .int .i64 0] 92)).heap.size = w1.heap.size + 1 from by simp] at e
   exact ⟨e, by omega, hSs⟩
  go_wp2_with fail
  refine (insist_yes _).mono ?_
  rintro e w2 ⟨rfl, hw⟩
  replace hw := hw.symm
  subst hw
  go_upto_region 4 with fail
  generalize (w1.alloc (.cells #[.slice none 0 0, .slice none 0 0, .slice none 0 0, .pointer none, .int .i64 0] 92)).alloc (.cells #[.string S, .int .i64 0, .pointer (some ⟨w1.heap.size, 0, none⟩)] 94) = W2 at *
  have hTw : w.heap.size <= w1.heap.size := HF1.o.size
  generalize w1.heap.size = TT at *
  have HRd := hid (rread_any W2 (TT + 1) S TT HR2.o HT2.o (by omega))
  rw [hSl] at HRd
  have HFw := hid (HF1.o.trans HF2.o)
  have HZb : Hid (TT <= W2.heap.size) := Nat.le_of_lt (Array.getElem?_eq_some_iff.1 HT2.o).1
  clear HR2 HT2 HF1 HF2
  go_wp2_with fail
  refine HRd.o.mono ?_
  intro e w3 hp
  clear HRd
  have HN2 : Hid ((match readB b with | none => none | some (t, l) => if l = b.length then some t else none) = N) := (readR_eq b).symm.trans HN1.o
  cases h3 : readB b with
  | none =>
   rw [h3] at hp
   obtain ⟨he, hf⟩ := hp
   have eN : N = none := by rw [<- HN2.o, h3]
   subst eN
   unfold noE at he
   subst he
   exact ⟨rfl, rfl, HFw.o.monoNew hf (fun k hk => .inr (by omega))⟩
  | some tl =>
   obtain ⟨t, l⟩ := tl
   rw [h3] at hp
   obtain ⟨rfl, hR3, ⟨ra, rc, hTg⟩, hf3⟩ := hp
   have HR3 := hid hR3
   have HTg := hid hTg
   have HF3 : Hid (F0 w w3) := HFw.o.monoNew hf3 (fun k hk => .inr (by omega))
   have HN3 : Hid ((if l = b.length then some t else none) = N) := by show _ = _; rw [<- HN2.o, h3]
   have hbl : b.length = S.size := by rw [<- hSl]; simp
   have c0 : w3.cell? ⟨TT + 1, 0, none⟩ = some (.string S) := block_cell hR3.bx 0 _ rfl
   have c1 : w3.cell? ⟨TT + 1, 1, none⟩ = some (.int .i64 (l : Nat)) := block_cell hR3.bx 1 _ rfl
   have c2 : w3.cell? ⟨TT + 1, 2, none⟩ = some (.pointer (some ⟨TT, 0, none⟩)) := block_cell hR3.bx 2 _ rfl
   clear hR3 hTg hf3 h3 HN1 HN2 HFw
   by_cases hl : l = b.length
   ·have eN : N = some t := by rw [<- HN3.o, if_pos hl]
    subst eN
    have hd : ((l : Int) == (S.size : Int)) = true := by simp; omega
    have HI : Hid (∀ W, Calls Tryz.prog 46 #[.bool true] W fun e w' => e = .returned (.tuple #[]) /\ w' = W) := fun W => insist_yes W
    clear hl hbl hSl HN3
    go_wp2_with fail
    go_quiet ((go_at_call 46; exact Calls.quiet_of_same (HI.o _)))
    go_wp2_with fail
    go_ret
    exact ⟨⟨_, TT, ra, rc, rfl, hTw, HZb.o, HTg.o.fr (S := fun _ => False) ⟨rfl, rfl, rfl, Nat.le_refl _, fun _ _ _ => rfl⟩ (by simp) (by simp)⟩, HF3.o.trans ⟨rfl, rfl, rfl, Nat.le_refl _, fun _ _ _ => rfl⟩⟩
   ·have eN : N = none := by rw [<- HN3.o, if_neg hl]
    subst eN
    have hd : ((l : Int) == (S.size : Int)) = false := by simp; omega
    clear hl hbl hSl HN3 c2
    go_wp2_with fail
    refine wp_region_held_drew (S := fun W => W.cell? ⟨TT + 1, 0, none⟩ = some (.string S) /\ W.cell? ⟨TT + 1, 1, none⟩ = some (.int .i64 (l : Nat))) (by kernel_rfl) ⟨by simpa using c0, by simpa using c1⟩ (fun hH => ?_)
    refine htk 0 (v := ?v0) ?y0 hH ?r0
    case y0 =>
     rintro w ⟨s0, s1⟩
     go_simp
     with_reducible rfl
    try go_frame
    refine htk 1 (v := ?v1) ?y1 hH ?r1
    case y1 =>
     rintro w ⟨s0, s1⟩
     go_simp
     with_reducible rfl
    try go_frame
    refine htk 2 (v := ?v2) ?y2 hH ?r2
    case y2 =>
     rintro w ⟨s0, s1⟩
     go_simp
     with_reducible rfl
    try go_frame
    refine htk 3 (v := ?v3) ?y3 hH ?r3
    case y3 =>
     rintro w ⟨s0, s1⟩
     go_simp
     with_reducible rfl
    try go_frame
    refine htk 4 (v := ?v4) ?y4 hH ?r4
    case y4 =>
     rintro w ⟨s0, s1⟩
     go_simp
     with_reducible rfl
    try go_frame
    refine htk 5 (v := ?v5) ?y5 hH ?r5
    case y5 =>
     rintro w ⟨s0, s1⟩
     go_simp
     with_reducible rfl
    try go_frame
    refine htk 6 (v := ?v6) ?y6 hH ?r6
    case y6 =>
     rintro w ⟨s0, s1⟩
     go_simp
     with_reducible rfl
    try go_frame
    refine htk 7 (v := ?v7) ?y7 hH ?r7
    case y7 =>
     rintro w ⟨s0, s1⟩
     go_simp
     with_reducible rfl
    try go_frame
    refine htk 8 (v := ?v8) ?y8 hH ?r8
    case y8 =>
     rintro w ⟨s0, s1⟩
     go_simp
     with_reducible rfl
    try go_frame
    refine htk 9 (v := ?v9) ?y9 hH ?r9
    case y9 =>
     rintro w ⟨s0, s1⟩
     go_simp
     with_reducible rfl
    try go_frame
    refine wpAnyH_ready (rs := [10]) (by kernel_rfl) (by simp) ?_
    refine held_cons rfl (fun K2 hK => ?_) AllReadyH.nil
    try rw [if_pos (by rfl)]
    go_simp
    refine (insist_no _).mono ?_
    rintro e w4 ⟨he, rfl⟩
    unfold noE at he
    subst he
    exact ⟨rfl, rfl, HF3.o.drew⟩
end Go.Proofs.YtccikgogjfbpeabGreatDoor
