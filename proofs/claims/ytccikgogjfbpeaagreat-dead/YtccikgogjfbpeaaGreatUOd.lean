/- The keep Dead, walked: for every list, payment and number it answers true. -/
import Derived.Test.YtccikgogjfbpeaaGreatUHa
import Derived.Test.YtccikgogjfbpeaaGreatUOc
namespace Go.Proofs.YtccikgogjfbpeaaGreat
open Go.RowKit

theorem ov_B (ci : Int) {T3 : ByteArray} (h : bs (g3 ci) = T3) : (((⟨#[114, 117, 108, 101, 32, 111, 118, 101, 114, 32, 49, 48, 48, 48, 58, 32]⟩ : ByteArray) ++ T3) ++ ⟨#[32, 45, 62, 32, 97, 59, 10]⟩) = (ovL ci).B := by
 show _ = bs ((seX ci ovN [49, 48, 48, 48]).text ++ [10])
 rw [← h, se_text, show (⟨#[114, 117, 108, 101, 32, 111, 118, 101, 114, 32, 49, 48, 48, 48, 58, 32]⟩ : ByteArray) = bs [114, 117, 108, 101, 32, 111, 118, 101, 114, 32, 49, 48, 48, 48, 58, 32] from rfl, show (⟨#[32, 45, 62, 32, 97, 59, 10]⟩ : ByteArray) = bs [32, 45, 62, 32, 97, 59, 10] from rfl]
 simp only [bs_append]
 simp [ovN]
theorem ag_B (ci : Int) {T4 : ByteArray} (h : bs (g3 ci) = T4) : (((⟨#[114, 117, 108, 101, 32, 97, 103, 97, 105, 110, 32, 49, 48, 48, 48, 58, 32]⟩ : ByteArray) ++ T4) ++ ⟨#[32, 45, 62, 32, 98, 59, 10]⟩) = (agL ci).B := by
 show _ = bs ((agX ci).text ++ [10])
 rw [← h, ag_text, show (⟨#[114, 117, 108, 101, 32, 97, 103, 97, 105, 110, 32, 49, 48, 48, 48, 58, 32]⟩ : ByteArray) = bs [114, 117, 108, 101, 32, 97, 103, 97, 105, 110, 32, 49, 48, 48, 48, 58, 32] from rfl, show (⟨#[32, 45, 62, 32, 98, 59, 10]⟩ : ByteArray) = bs [32, 45, 62, 32, 98, 59, 10] from rfl]
 simp only [bs_append]
 simp [agN]
theorem deLs_B (l : List Int) (m : Nat) (c : Int) : (deLs l m c).map LnX.B = ((ovL c).B :: rlL l m) ++ [(agL c).B] := by
 simp only [deLs, List.map_cons, List.map_append, List.map_map, List.map_nil, List.cons_append]
 rfl
set_option maxRecDepth 1000000 in
set_option maxHeartbeats 8000000 in
theorem kDead_any (w : World) (a : Option Addr) (n c : Nat) (l : List Int) (pa : Option Addr) (pn pc : Nat) (pl : List Int) (ci : Int) (hl : l.length = n) (hnc : n ≤ c) (hr : RawAt w a l) (hi : ∀ x, x ∈ l → InI x) (hci : InI ci) (hpl : pl.length = pn) (hpr : RawAt w pa pl) (hpi : ∀ x, x ∈ pl → InI x) :
  Calls Tryz.prog 5 #[.slice a n c, .slice pa pn pc, .int .i64 ci] w fun e w' => e = .returned (.bool true) ∧ Fr (fun _ => False) w w' := by
 obtain ⟨ij, hj', hy0, hy1, hy2⟩ := info_parts Tryz.infoStrK
 have HA := hid (kawake_any w)
 have HR := hid hr
 have HL := hid hl
 have HIN := hid hi
 have HCI := hid hci
 have HPL : Hid (pl.length = pn ∧ RawAt w pa pl ∧ ∀ x, x ∈ pl → InI x) := ⟨hpl, hpr, hpi⟩
 clear hl hr hi hci hpl hpr hpi
 go_enter Tryz.func5, Tryz.ntmps5
 go_wp2_with fail
 refine HA.out.mono ?_
 rintro e w0 ⟨rfl, hf0⟩
 have HF0 := hid hf0
 clear hf0 HA
 go_upto_if 25 with fail
 go_cut [0] (fun v wx => ∃ (k kc : Nat), v = .slice a k kc ∧ k ≤ 6 ∧ Hid (k = min n 6) ∧ wx = w0)
 case first =>
  by_cases h7 : 6 < n
  ·have h7i : (6 : Int) < (n : Int) := by omega
   have h7c : (6 : Int) ≤ (c : Int) := by omega
   go_wp2_with fail
   go_meet
   exact ⟨6, c, rfl, by omega, by show 6 = min n 6; omega, rfl⟩
  ·have h7i : ¬ (6 : Int) < (n : Int) := by omega
   go_wp2_with fail
   go_meet
   exact ⟨n, c, rfl, by omega, by show _ = _; omega, rfl⟩
 case rest =>
  obtain ⟨k, kc, rfl, hk7, HK, hwc⟩ := hcut
  replace hwc := hwc.symm
  subst hwc
  obtain ⟨L, hL⟩ : ∃ L, l.take k = L := ⟨_, rfl⟩
  have HLk : Hid (L.length = k) := by show _ = _; rw [← hL, List.length_take]; have := HL.out; have := HK.out; omega
  have HRl : Hid (Calls Tryz.prog 12 #[.slice a k kc] w0 fun e w' => (∃ v, e = .returned v ∧ w'.ownsRow w0.heap.size 9 1 v k (sRow (rlL L k)) ∧ (k = 0 → v = .slice none 0 0)) ∧ Fr (fun _ => False) w0 w') := by
   refine kruled_any w0 a k kc L k HLk.out ?_ ?_ (by omega)
   ·rw [← hL]; exact (HR.out.fr HF0.out).take k
   ·intro x hx; rw [← hL] at hx; exact HIN.out x (List.mem_of_mem_take hx)
  clear hL
  go_wp2_with fail
  refine HRl.out.mono ?_
  rintro e w1 ⟨⟨v, rfl, hov, hz⟩, hf1⟩
  have HZ := hid hz
  clear hz
  have HF1 := hid (HF0.out.trans hf1)
  obtain ⟨ra, rc, rfl, hst⟩ := strsAt_owns hov (rlL_len L k)
  have HST := hid hst
  have HOV := hid hov
  clear hf1 hov hst HRl
  go_upto_region 5 with fail
  go_cut [8] (fun v wx => ∃ (ga : Option Addr) (gc b : Nat), v = .slice ga (1 + k) gc ∧ Hid (w1.heap.size ≤ b ∧ b ≤ wx.heap.size) ∧ Hid (wx.ownsRow b 9 1 (.slice ga (1 + k) gc) (1 + k) (sRow ((ovL ci).B :: rlL L k))) ∧ Hid (Fr (fun _ => False) w1 wx))
  case first =>
   go_wp2_with fail
   refine (kguard_any ci w1 HCI.out).mono ?_
   rintro e w3 ⟨rfl, hf3⟩
   have HF3 := hid hf3
   have HST3 := hid (HST.out.fr hf3 (by simp))
   obtain ⟨T3, hT3⟩ : ∃ T3, bs (g3 ci) = T3 := ⟨_, rfl⟩
   have hl3 : T3.size ≤ 50 := by rw [← hT3]; exact g3_len ci
   rw [hT3]
   have HX := hid (ov_B ci hT3)
   clear hf3 hT3
   rcases Nat.eq_zero_or_pos k with hk0 | hk0
   ·have ez := HZ.out hk0
    injection ez with ez1 _ ez3
    subst ez1 ez3
    subst hk0
    go_wp2_with (at_builtin; refine wpList_append_own_none rfl (.tmp 34) (.tmp 35) 25 rfl w3.heap.size 9 ij 1 Tryz.underlying25 hj' (.slice (some ⟨w3.heap.size, 0, none⟩) 1 1) 1 [.string (((⟨#[114, 117, 108, 101, 32, 111, 118, 101, 114, 32, 49, 48, 48, 48, 58, 32]⟩ : ByteArray) ++ T3) ++ ⟨#[32, 45, 62, 32, 97, 59, 10]⟩)] rfl ?h1 rfl ?h2)
    case h1 => exact own_fresh1 w3 _
    ·have HO8 := hid (own_fresh1 w3 (((⟨#[114, 117, 108, 101, 32, 111, 118, 101, 114, 32, 49, 48, 48, 48, 58, 32]⟩ : ByteArray) ++ T3) ++ ⟨#[32, 45, 62, 32, 97, 59, 10]⟩))
     have HF8 : Hid (Fr (fun _ => False) w1 (w3.alloc (.cells #[.string (((⟨#[114, 117, 108, 101, 32, 111, 118, 101, 114, 32, 49, 48, 48, 48, 58, 32]⟩ : ByteArray) ++ T3) ++ ⟨#[32, 45, 62, 32, 97, 59, 10]⟩)] 9))) := HF3.out.alloc _
     have hsz8 : w3.heap.size ≤ (w3.alloc (.cells #[.string (((⟨#[114, 117, 108, 101, 32, 111, 118, 101, 114, 32, 49, 48, 48, 48, 58, 32]⟩ : ByteArray) ++ T3) ++ ⟨#[32, 45, 62, 32, 97, 59, 10]⟩)] 9)).heap.size := by simp
     try go_wp2_with fail
     go_meet
     refine ⟨_, _, w3.heap.size, rfl, ⟨HF3.out.size, hsz8⟩, ?_, HF8⟩
     have := HO8.out
     rw [HX.out] at this ⊢
     exact this
   ·obtain ⟨g, cap, eo, hb2, hg2⟩ := HOV.out.form hk0
    injection eo with eo1 eo2 eo3
    subst eo1 eo3
    go_wp2_with (at_builtin; refine wpList_append_lies _ rfl (.tmp 34) (.tmp 35) 25 rfl w3.heap.size 9 ij _ 1 16 Tryz.underlying25 hj' hy0 hy1 hy2 rfl (by decide) (.slice (some ⟨w3.heap.size, 0, none⟩) 1 1) 1 [.string (((⟨#[114, 117, 108, 101, 32, 111, 118, 101, 114, 32, 49, 48, 48, 48, 58, 32]⟩ : ByteArray) ++ T3) ++ ⟨#[32, 45, 62, 32, 97, 59, 10]⟩)] rfl ?p1 ⟨g, 0, none⟩ k _ (sRow (rlL L k)) rfl ?p8 ?p2 ?p3 hk0 ?p4 ?p5 ?p6 _ rfl ?p7)
    case p1 => exact own_fresh1 w3 _
    case p8 => simp [sRow, rlL_len]
    case p2 => exact strs_news (HST3.out.fr ((Fr.refl (fun _ => False) w3).alloc _) (by simp))
    case p3 => exact sRow_one _
    case p4 => unfold maxLen; omega
    case p5 => omega
    case p6 => simp
    case p7 =>
     intro g2 cap2 w8 hown hgrow hor _
     have HF8 : Hid (Fr (fun _ => False) w1 w8) := (HF3.out.alloc _).grown hgrow (fun k hk => Or.inr (by
      have : k = w3.heap.size := by simp [Value.ownBlock] at hk; exact hk.symm
      have := HF3.out.size
      omega))
     have HO8 : Hid (w8.ownsRow w3.heap.size 9 1 (.slice (some ⟨g2, 0, none⟩) (1 + k) cap2) (1 + k) (sRow ((ovL ci).B :: rlL L k))) := by
      rw [HX.out] at hown
      exact hown
     have hsz8 : w3.heap.size ≤ w8.heap.size := by have := hgrow.size; simp at this; omega
     clear hown hgrow hor
     go_wp2_with fail
     go_meet
     exact ⟨_, _, w3.heap.size, rfl, ⟨HF3.out.size, hsz8⟩, HO8, HF8⟩
  case rest =>
   obtain ⟨ga, gc, b, rfl, HB, HO, HF2⟩ := hcut
   generalize wc = w4 at *
   clear HOV HST HZ
   go_upto_region 6 with fail
   go_cut [8] (fun v wx => ∃ (ha : Option Addr) (hc : Nat), v = .slice ha (1 + k + 1) hc ∧ Hid (StrsAt wx ha ((deLs L k ci).map LnX.B)) ∧ Hid (Fr (fun _ => False) w1 wx))
   case first =>
    go_wp2_with fail
    refine (kguard_any ci w4 HCI.out).mono ?_
    rintro e w5 ⟨rfl, hf5⟩
    have HF5 := hid (HF2.out.trans hf5)
    have HO5 := hid (ownsRow_fr HO.out hf5 (by simp))
    have hb5 : b ≤ w5.heap.size := Nat.le_trans HB.out.2 hf5.size
    obtain ⟨T4, hT4⟩ : ∃ T4, bs (g3 ci) = T4 := ⟨_, rfl⟩
    have hl4 : T4.size ≤ 50 := by rw [← hT4]; exact g3_len ci
    rw [hT4]
    have HX := hid (ag_B ci hT4)
    clear hf5 hT4
    go_wp2_with (at_builtin; refine wpList_append_lies _ rfl (.tmp 37) (.tmp 42) 25 rfl b 9 ij _ 1 16 Tryz.underlying25 hj' hy0 hy1 hy2 rfl (by decide) (.slice ga (1 + k) gc) (1 + k) (sRow ((ovL ci).B :: rlL L k)) rfl ?q1 ⟨w5.heap.size, 0, none⟩ 1 1 [.string (((⟨#[114, 117, 108, 101, 32, 97, 103, 97, 105, 110, 32, 49, 48, 48, 48, 58, 32]⟩ : ByteArray) ++ T4) ++ ⟨#[32, 45, 62, 32, 98, 59, 10]⟩)] rfl rfl ?q2 ?q3 (by decide) ?q4 ?q5 ?q6 _ rfl ?q7)
    case q1 => exact HO5.out.alloc _
    try case q2 => exact World.news_of_block (heap_alloc_new w5 (.cells #[.string (((⟨#[114, 117, 108, 101, 32, 97, 103, 97, 105, 110, 32, 49, 48, 48, 48, 58, 32]⟩ : ByteArray) ++ T4) ++ ⟨#[32, 45, 62, 32, 98, 59, 10]⟩)] 9))
    case q3 => simp [Value.oneCell']
    case q4 => unfold maxLen; omega
    case q5 => omega
    case q6 => simp; omega
    case q7 =>
     intro g2 cap2 w8 hown hgrow hor _
     have HF8 : Hid (Fr (fun _ => False) w1 w8) := (HF5.out.alloc _).grown hgrow (fun k hk => Or.inr (by have := (HO5.out.lt k hk).1; have := HB.out.1; omega))
     have HS8 : Hid (StrsAt w8 (some ⟨g2, 0, none⟩) ((deLs L k ci).map LnX.B)) := by
      rw [HX.out] at hown
      have hown : w8.ownsRow b 9 1 (.slice (some ⟨g2, 0, none⟩) (1 + k + 1) cap2) (1 + k + 1) (sRow ((deLs L k ci).map LnX.B)) := by
       rw [deLs_B, show sRow (((ovL ci).B :: rlL L k) ++ [(agL ci).B]) = sRow ((ovL ci).B :: rlL L k) ++ [.string (agL ci).B] from by simp [sRow]]
       exact hown
      obtain ⟨a', c', e', hs'⟩ := strsAt_owns hown (by rw [List.length_map, deLs_len]; omega)
      injection e' with e1 _ _
      subst e1
      exact hs'
     clear hown hgrow hor
     go_wp2_with fail
     go_meet
     exact ⟨_, _, rfl, HS8, HF8⟩
   case rest =>
    obtain ⟨ha, hc, rfl, HS, HF3⟩ := hcut
    generalize wc = w5 at *
    clear HO HB HF2
    obtain ⟨N, hN⟩ : ∃ N, 1 + k + 1 = N := ⟨_, rfl⟩
    have HN : Hid (N = k + 2) := by show _ = _; omega
    rw [hN]
    have HWh := hid (kwhole_any w5 ha N hc ((deLs L k ci).map LnX.B) (by rw [List.length_map, deLs_len]; omega) (by omega) HS.out (fun b hb => by
     obtain ⟨y, hy, rfl⟩ := List.mem_map.1 hb
     unfold LnX.B
     rw [bs_size]
     exact (deLs_ok L hk7 ci y hy).sz))
    have HTb := hid (ktq_any _ w5 _ (deR_read L hk7 ci))
    generalize bs (whT ((deLs L k ci).map LnX.B)) = S1 at *
    clear hN
    go_wp2_with fail
    refine HWh.out.mono ?_
    rintro e w' ⟨rfl, he⟩
    replace he := he.symm
    subst he
    go_wp2_with fail
    refine HTb.out.mono ?_
    rintro e w6 ⟨⟨T, rfl, hT⟩, hf6⟩
    have HT := hid hT
    have HF6 := hid hf6
    clear hT hf6 HWh HTb
    go_upto_region 10 with fail
    go_cut [10] (fun v wx => ∃ (da : Option Addr) (dn dc : Nat), v = .slice da dn dc ∧ Hid (StrsAt wx da (dedN (deR L k ci)) ∧ (dedN (deR L k ci)).length = dn) ∧ Hid (Fr (fun _ => False) w6 wx))
    case first =>
     have HDx := hid (tDead_any w6 T rts3 (deR L k ci) HT.out)
     go_wp2_with (go_at_call 17; refine HDx.out.mono ?_)
     rintro e w7 ⟨⟨v, rfl, hv, _⟩, hf7⟩
     obtain ⟨da, dc, e1, hs⟩ := nmRow_strs hv rfl
     have HV := hid hs
     have HF7 := hid hf7
     subst e1
     clear hv hf7 hs HDx
     go_wp2_with fail
     go_meet
     exact ⟨_, _, _, rfl, ⟨HV.out, rfl⟩, HF7⟩
    case rest =>
     obtain ⟨da, dn, dc, rfl, HD, HF7⟩ := hcut
     generalize wc = w7 at *
     apply_assumption
     have f7 := HF6.out.trans HF7.out
     have fw := (HF1.out.trans HF3.out).trans f7
     exact dead_tail11 w w7 T L k ci N hk7 HN.out da dn dc ha hc pa pn pc pl fw (HT.out.fr HF7.out) (HS.out.fr f7 (by simp)) HD.out.1 HD.out.2 HPL.out.1 (HPL.out.2.1.fr fw) HPL.out.2.2 _ _ _ _ _ _ _ _ _ _ _ _ _ _ _ _ _ _ _ _ _ _ _ _ _ _ _ _ _ _ _ _ _ _ _ _ _ _ _ _ _ _ _ _ _ _ _ _ _ _ _ _ _ _ _ _ _ _ _ _ _ _ _ _ _ _ _ _ _ _ _ _ _ _ _ _ _ _ _ _ _ _ _ _ _ _ _ _ _ _ _ _ _ _ _ _ _ _ _ _ _ _ _ _ _ _ _ _ _ _ _ _ _ _ _ _ _ _ _ _ _ _ _ _ _ _ _ _ _ _ _ _ _ _ _ _ _ _
end Go.Proofs.YtccikgogjfbpeaaGreat
