/- The keep Above, walked. -/
import Derived.Test.YtccikgogjfbpeaaGreatHa
import Derived.Test.YtccikgogjfbpeaaGreatKh
import Derived.Laws.AppendOwnNone
namespace Go.Proofs.YtccikgogjfbpeaaGreat
open Go.RowKit

theorem strsAt_owns {w : World} {base : Nat} {v : Value} {n : Nat} {l : List ByteArray} (h : w.ownsRow base 9 1 v n (strRow l)) (hl : l.length = n) : ∃ a c, v = .slice a n c ∧ StrsAt w a l := by
 obtain ⟨a, c, e⟩ := ownsRow_len h
 subst e hl
 exact ⟨a, c, rfl, strsAt_row h⟩
theorem rlL_small (l : List Int) {m : Nat} (hm : m ≤ 8) : ∀ b, b ∈ rlL l m → b.size ≤ 100 := by
 intro b hb
 obtain ⟨i, hi, rfl⟩ := List.mem_map.1 hb
 have := rlT_len (i := i) (by have := List.mem_range.1 hi; omega) (rawK l i)
 rw [bs_size]
 omega
theorem RawAt.take {w : World} {a : Option Addr} {l : List Int} (h : RawAt w a l) (k : Nat) : RawAt w a (l.take k) := fun j x hx => h j x (by
 rw [List.getElem?_take] at hx
 split at hx
 ·exact hx
 ·cases hx)
theorem over_text (l : List Int) (m : Nat) (c : Int) : whT (bs (seX c ovN [49, 48, 48, 48]).text :: rlL l m) = routes3 ++ ((seX c ovN [49, 48, 48, 48]).text ++ rsT l 0 m) := by
 have e := whT_rl l m
 unfold whT at e ⊢
 rw [List.flatMap_cons, bs_data]
 congr 2
 exact List.append_cancel_left e
theorem own_fresh1 (w : World) (s : ByteArray) : (w.alloc (.cells #[.string s] 9)).ownsRow w.heap.size 9 1 (.slice (some ⟨w.heap.size, 0, none⟩) 1 1) 1 [.string s] :=
 ⟨rfl, .inr ⟨w.heap.size, 1, #[.string s], rfl, Nat.le_refl _, heap_alloc_new w _, Nat.le_refl _, by unfold maxLen; simp, by simp, by simp⟩⟩
theorem strs_news {w : World} {g : Nat} {l : List ByteArray} (h : StrsAt w (some ⟨g, 0, none⟩) l) : ∀ j u, (strRow l)[j]? = some u → w.cell? ((⟨g, 0, none⟩ : Addr).add j) = some u := by
 intro j u hu
 unfold strRow at hu
 rw [List.getElem?_map] at hu
 cases hs : l[j]? with
 | none => rw [hs] at hu; cases hu
 | some s =>
  rw [hs] at hu
  injection hu with hu
  subst hu
  obtain ⟨g', o', e1, e2⟩ := h j s hs
  injection e1 with e1
  injection e1 with e1 e3 _
  subst e1 e3
  rw [addr_add']
  exact e2
theorem strRow_one (l : List ByteArray) : ∀ u ∈ strRow l, u.oneCell' = true := by
 intro u hu
 obtain ⟨s, _, rfl⟩ := List.mem_map.1 hu
 rfl
theorem own_fresh0 (w : World) : (w.alloc (.cells #[] 9)).ownsRow w.heap.size 9 1 (.slice (some ⟨w.heap.size, 0, none⟩) 0 0) 0 [] :=
 ⟨rfl, .inr ⟨w.heap.size, 0, #[], rfl, Nat.le_refl _, heap_alloc_new w _, Nat.le_refl _, by unfold maxLen; simp, by simp, by simp⟩⟩
theorem under_text (l : List Int) (m : Nat) (c : Int) {S T3 : ByteArray} (h1 : S = bs (whT (rlL l m))) (h2 : bs (g3 c) = T3) : ((S ++ ⟨#[114, 117, 108, 101, 32, 117, 110, 100, 101, 114, 32, 48, 58, 32]⟩) ++ T3) ++ ⟨#[32, 45, 62, 32, 97, 59]⟩ = bs (routes3 ++ (rsT l 0 m ++ (seX c unN [48]).text)) := by
 rw [h1, ← h2, se_text, whT_rl, show (⟨#[114, 117, 108, 101, 32, 117, 110, 100, 101, 114, 32, 48, 58, 32]⟩ : ByteArray) = bs [114, 117, 108, 101, 32, 117, 110, 100, 101, 114, 32, 48, 58, 32] from rfl, show (⟨#[32, 45, 62, 32, 97, 59]⟩ : ByteArray) = bs [32, 45, 62, 32, 97, 59] from rfl]
 simp only [bs_append]
 simp [unN]
set_option maxRecDepth 30000 in
set_option maxHeartbeats 8000000 in
theorem Above_any (w : World) (a : Option Addr) (n c : Nat) (l : List Int) (ci : Int) (pa : Option Addr) (pn pc : Nat) (pl : List Int) (hl : l.length = n) (hnc : n ≤ c) (hr : RawAt w a l) (hi : ∀ x, x ∈ l → InI x) (hci : InI ci) (hpl : pl.length = pn) (hpr : RawAt w pa pl) (hpi : ∀ x, x ∈ pl → InI x) :
  Calls Tryz.prog 4 #[.slice a n c, .int .i64 ci, .slice pa pn pc] w fun e w' => e = .returned (.bool true) ∧ Fr (fun _ => False) w w' := by
 obtain ⟨ij, hj', hy0, hy1, hy2⟩ := info_parts Tryz.infoStrK
 have HA := hid (kawake_any w)
 have HR := hid hr
 have HL := hid hl
 have HIN := hid hi
 have HCI := hid hci
 have HPL : Hid (pl.length = pn ∧ RawAt w pa pl ∧ ∀ x, x ∈ pl → InI x) := ⟨hpl, hpr, hpi⟩
 clear hl hr hi hci hpl hpr hpi
 go_enter Tryz.func4, Tryz.ntmps4
 go_wp2_with fail
 refine HA.out.mono ?_
 rintro e w0 ⟨rfl, hf0⟩
 have HF0 := hid hf0
 clear hf0 HA
 go_upto_if 22 with fail
 go_cut [0] (fun v wx => ∃ (k kc : Nat), v = .slice a k kc ∧ k ≤ 7 ∧ Hid (k = min n 7) ∧ wx = w0)
 case first =>
  by_cases h7 : 7 < n
  ·have h7i : (7 : Int) < (n : Int) := by omega
   have h7c : (7 : Int) ≤ (c : Int) := by omega
   go_wp2_with fail
   go_meet
   exact ⟨7, c, rfl, by omega, by show 7 = min n 7; omega, rfl⟩
  ·have h7i : ¬ (7 : Int) < (n : Int) := by omega
   go_wp2_with fail
   go_meet
   exact ⟨n, c, rfl, by omega, by show _ = _; omega, rfl⟩
 case rest =>
  obtain ⟨k, kc, rfl, hk7, HK, hwc⟩ := hcut
  replace hwc := hwc.symm
  subst hwc
  obtain ⟨L, hL⟩ : ∃ L, l.take k = L := ⟨_, rfl⟩
  have HLk : Hid (L.length = k) := by show _ = _; rw [← hL, List.length_take]; have := HL.out; have := HK.out; omega
  have HRl : Hid (Calls Tryz.prog 12 #[.slice a k kc] w0 fun e w' => (∃ v, e = .returned v ∧ w'.ownsRow w0.heap.size 9 1 v k (strRow (rlL L k)) ∧ (k = 0 → v = .slice none 0 0)) ∧ Fr (fun _ => False) w0 w') := by
   refine kruled_any w0 a k kc L k HLk.out ?_ ?_ (by omega)
   ·rw [← hL]; exact (HR.out.fr HF0.out).take k
   ·intro x hx; rw [← hL] at hx; exact HIN.out x (List.mem_of_mem_take hx)
  clear hL
  go_wp2_with fail
  refine HRl.out.mono ?_
  rintro e w1 ⟨⟨v, rfl, hov, hz⟩, hf1⟩
  have HZ := hid hz
  clear hz
  have HF1 := hid (HF0.out.trans hf1)
  obtain ⟨ra, rc, rfl, hst⟩ := strsAt_owns hov (rlL_len L k)
  have HST := hid hst
  have HOV := hid hov
  clear hf1 hov hst HRl
  go_wp2_with fail
  refine (kwhole_any w1 ra k rc (rlL L k) (rlL_len L k) (by omega) HST.out (rlL_small L (by omega))).mono ?_
  rintro e w' ⟨rfl, he⟩
  replace he := he.symm
  subst he
  have HT1 := hid (ktable_any _ w1 _ (base_read L k (by omega)))
  generalize bs (whT (rlL L k)) = S1 at *
  go_wp2_with fail
  refine HT1.out.mono ?_
  rintro e w2 ⟨⟨TB, rfl, hTB⟩, hf2⟩
  have HTB := hid hTB
  have HF2 := hid (HF1.out.trans hf2)
  have HST2 := hid (HST.out.fr hf2 (by simp))
  have HOV2 := hid (ownsRow_fr HOV.out hf2 (by simp))
  clear hTB hf2 HT1
  have HOV2 : Hid (∃ b, w2.ownsRow b 9 1 (.slice ra k rc) k (strRow (rlL L k))) := ⟨_, HOV2.out⟩
  go_upto_region 6 with fail
  go_cut [10] (fun v wx => ∃ T, v = .pointer (some ⟨T, 0, none⟩) ∧ Hid (TbAt wx T rts3 (seM ci ovN [49, 48, 48, 48] :: rsM L 0 k)) ∧ Hid (Fr (fun _ => False) w2 wx))
  case first =>
   go_wp2_with fail
   refine (kguard_any ci w2 HCI.out).mono ?_
   rintro e w3 ⟨rfl, hf3⟩
   have HF3 := hid hf3
   have HST3 := hid (HST2.out.fr hf3 (by simp))
   obtain ⟨T3, hT3⟩ : ∃ T3, bs (g3 ci) = T3 := ⟨_, rfl⟩
   have hl3 : T3.size ≤ 50 := by rw [← hT3]; exact g3_len ci
   rw [hT3]
   have HX : Hid (((⟨#[114, 117, 108, 101, 32, 111, 118, 101, 114, 32, 49, 48, 48, 48, 58, 32]⟩ : ByteArray) ++ T3) ++ ⟨#[32, 45, 62, 32, 97, 59]⟩ = bs (seX ci ovN [49, 48, 48, 48]).text) := by
    show _ = _
    rw [← hT3, se_text, show (⟨#[114, 117, 108, 101, 32, 111, 118, 101, 114, 32, 49, 48, 48, 48, 58, 32]⟩ : ByteArray) = bs [114, 117, 108, 101, 32, 111, 118, 101, 114, 32, 49, 48, 48, 48, 58, 32] from rfl, show (⟨#[32, 45, 62, 32, 97, 59]⟩ : ByteArray) = bs [32, 45, 62, 32, 97, 59] from rfl]
    simp only [bs_append]
    simp [ovN]
   have hXs : (bs (seX ci ovN [49, 48, 48, 48]).text).size ≤ 100 := by rw [bs_size, se_text]; have := g3_len ci; simp [ovN]; omega
   have HTx : Hid (∀ W, Calls Tryz.prog 10 #[.string (bs (whT (bs (seX ci ovN [49, 48, 48, 48]).text :: rlL L k)))] W fun e w' => (∃ T, e = .returned (.pointer (some ⟨T, 0, none⟩)) ∧ TbAt w' T rts3 (seM ci ovN [49, 48, 48, 48] :: rsM L 0 k)) ∧ Fr (fun _ => False) W w') := fun W => by
    rw [over_text]
    exact ktable_any _ W _ (over_read L k hk7 ci)
   have hsm : ∀ b, b ∈ bs (seX ci ovN [49, 48, 48, 48]).text :: rlL L k → b.size ≤ 100 := by
    intro b hb
    rcases List.mem_cons.1 hb with e | e
    ·rw [e]; exact hXs
    ·exact rlL_small L (by omega) b e
   have HSM := hid hsm
   clear hf3 hT3 hsm hXs
   rcases Nat.eq_zero_or_pos k with hk0 | hk0
   ·have ez := HZ.out hk0
    injection ez with ez1 _ ez3
    subst ez1 ez3
    subst hk0
    go_wp2_with (at_builtin; refine wpList_append_own_none rfl (.tmp 34) (.tmp 35) 25 rfl w3.heap.size 9 ij 1 Tryz.underlying25 hj' (.slice (some ⟨w3.heap.size, 0, none⟩) 1 1) 1 [.string (((⟨#[114, 117, 108, 101, 32, 111, 118, 101, 114, 32, 49, 48, 48, 48, 58, 32]⟩ : ByteArray) ++ T3) ++ ⟨#[32, 45, 62, 32, 97, 59]⟩)] rfl ?h1 rfl ?h7)
    case h1 => exact own_fresh1 w3 _
    ·have HO8 := hid (own_fresh1 w3 (((⟨#[114, 117, 108, 101, 32, 111, 118, 101, 114, 32, 49, 48, 48, 48, 58, 32]⟩ : ByteArray) ++ T3) ++ ⟨#[32, 45, 62, 32, 97, 59]⟩))
     have HF8 : Hid (Fr (fun _ => False) w2 (w3.alloc (.cells #[.string (((⟨#[114, 117, 108, 101, 32, 111, 118, 101, 114, 32, 49, 48, 48, 48, 58, 32]⟩ : ByteArray) ++ T3) ++ ⟨#[32, 45, 62, 32, 97, 59]⟩)] 9))) := HF3.out.alloc _
     generalize w3.alloc (.cells #[.string (((⟨#[114, 117, 108, 101, 32, 111, 118, 101, 114, 32, 49, 48, 48, 48, 58, 32]⟩ : ByteArray) ++ T3) ++ ⟨#[32, 45, 62, 32, 97, 59]⟩)] 9) = w8 at *
     have HS8 : Hid (StrsAt w8 (some ⟨w3.heap.size, 0, none⟩) (bs (seX ci ovN [49, 48, 48, 48]).text :: rlL L 0)) := by
      show StrsAt _ _ [bs (seX ci ovN [49, 48, 48, 48]).text]
      rw [← HX.out]
      exact strsAt_row (l := [(((⟨#[114, 117, 108, 101, 32, 111, 118, 101, 114, 32, 49, 48, 48, 48, 58, 32]⟩ : ByteArray) ++ T3) ++ ⟨#[32, 45, 62, 32, 97, 59]⟩)]) HO8.out
     go_wp2_with fail
     refine (kwhole_any _ (some ⟨w3.heap.size, 0, none⟩) 1 1 (bs (seX ci ovN [49, 48, 48, 48]).text :: rlL L _) (by simp [rlL_len] <;> omega) (by omega) HS8.out HSM.out).mono ?_
     rintro e w' ⟨rfl, he⟩
     replace he := he.symm
     subst he
     go_wp2_with fail
     refine (HTx.out _).mono ?_
     rintro e w9 ⟨⟨TO, rfl, hTO⟩, hf9⟩
     have HTO := hid hTO
     have HF9 := hid (HF8.out.trans hf9)
     clear hTO hf9
     go_wp2_with fail
     go_meet
     exact ⟨TO, rfl, HTO, HF9⟩
   ·obtain ⟨g, cap, eo, hb2, hg2⟩ := HOV.out.form hk0
    injection eo with eo1 eo2 eo3
    subst eo1 eo3
    go_wp2_with (at_builtin; refine wpList_append_lies _ rfl (.tmp 34) (.tmp 35) 25 rfl w3.heap.size 9 ij _ 1 16 Tryz.underlying25 hj' hy0 hy1 hy2 rfl (by decide) (.slice (some ⟨w3.heap.size, 0, none⟩) 1 1) 1 [.string (((⟨#[114, 117, 108, 101, 32, 111, 118, 101, 114, 32, 49, 48, 48, 48, 58, 32]⟩ : ByteArray) ++ T3) ++ ⟨#[32, 45, 62, 32, 97, 59]⟩)] rfl ?p1 ⟨g, 0, none⟩ k _ (strRow (rlL L k)) rfl ?p8 ?p2 ?p3 hk0 ?p4 ?p5 ?p6 _ rfl ?p7)
    case p1 => exact own_fresh1 w3 _
    case p8 => simp [strRow, rlL_len]
    case p2 => exact strs_news (HST3.out.fr ((Fr.refl (fun _ => False) w3).alloc _) (by simp))
    case p3 => exact strRow_one _
    case p4 => unfold maxLen; omega
    case p5 => omega
    case p6 => simp
    case p7 =>
     intro g2 cap2 w8 hown hgrow hor _
     have HF8 : Hid (Fr (fun _ => False) w2 w8) := (HF3.out.alloc _).grown hgrow (fun k hk => Or.inr (by
      have : k = w3.heap.size := by simp [Value.ownBlock] at hk; exact hk.symm
      have := HF3.out.size
      omega))
     have HO8 : Hid (w8.ownsRow w3.heap.size 9 1 (.slice (some ⟨g2, 0, none⟩) (1 + k) cap2) (1 + k) (strRow (bs (seX ci ovN [49, 48, 48, 48]).text :: rlL L k))) := by
      rw [HX.out] at hown
      exact hown
     have HS8 : Hid (StrsAt w8 (some ⟨g2, 0, none⟩) (bs (seX ci ovN [49, 48, 48, 48]).text :: rlL L k)) := by
      obtain ⟨a', c', e', hs'⟩ := strsAt_owns HO8.out (by simp [rlL_len]; omega)
      injection e' with e1 _ _
      subst e1
      exact hs'
     clear hown hgrow hor HO8
     go_wp2_with fail
     refine (kwhole_any _ (some ⟨g2, 0, none⟩) (1 + k) cap2 (bs (seX ci ovN [49, 48, 48, 48]).text :: rlL L _) (by simp [rlL_len] <;> omega) (by omega) HS8.out HSM.out).mono ?_
     rintro e w' ⟨rfl, he⟩
     replace he := he.symm
     subst he
     go_wp2_with fail
     refine (HTx.out _).mono ?_
     rintro e w9 ⟨⟨TO, rfl, hTO⟩, hf9⟩
     have HTO := hid hTO
     have HF9 := hid (HF8.out.trans hf9)
     clear hTO hf9
     go_wp2_with fail
     go_meet
     exact ⟨TO, rfl, HTO, HF9⟩
  case rest =>
   obtain ⟨TO, rfl, HTO, HFO⟩ := hcut
   generalize wc = wO at *
   have HFo := hid (HF2.out.trans HFO.out)
   have HTBo := hid (HTB.out.fr HFO.out)
   have HSTo := hid (HST2.out.fr HFO.out (by simp))
   clear HTB HST2 HFO HF2 HST HF1
   go_wp2_with fail
   refine (kalone_any ci wO HCI.out).mono ?_
   rintro e w4 ⟨⟨TA, rfl, hTA⟩, hf4⟩
   have HTA := hid hTA
   have HF4 := hid (HFo.out.trans hf4)
   have HTB4 := hid (HTBo.out.fr hf4)
   have HTO4 := hid (HTO.out.fr hf4)
   have HST4 := hid (HSTo.out.fr hf4 (by simp))
   clear hTA hf4 HFo HTBo HTO HSTo
   go_upto_region 8 with fail
   go_cut [12] (fun v wx => ∃ T, v = .pointer (some ⟨T, 0, none⟩) ∧ Hid (TbAt wx T rts3 (rsM L 0 k ++ [seM ci unN [48]])) ∧ Hid (Fr (fun _ => False) w4 wx))
   case first =>
    rcases Nat.eq_zero_or_pos k with hk0 | hk0
    ·have ez := HZ.out hk0
     injection ez with ez1 _ ez3
     subst ez1 ez3
     subst hk0
     have HF8 : Hid (Fr (fun _ => False) w4 (w4.alloc (.cells #[] 9))) := (Fr.refl _ _).alloc _
     have HS8 : Hid (StrsAt (w4.alloc (.cells #[] 9)) (some ⟨w4.heap.size, 0, none⟩) (rlL L 0)) := fun k s hs => by simp [rlL] at hs
     go_wp2_with fail
     refine (kwhole_any _ (some ⟨w4.heap.size, 0, none⟩) 0 0 (rlL L 0) (by simp [rlL_len] <;> omega) (by omega) HS8.out (rlL_small L (by omega))).mono ?_
     rintro e w' ⟨rfl, he⟩
     replace he := he.symm
     subst he
     obtain ⟨S4, hS4⟩ : ∃ S4, S4 = bs (whT (rlL L 0)) := ⟨_, rfl⟩
     rw [← hS4]
     have hs4 : S4.size ≤ 1000 := by
      rw [hS4, bs_size]
      have h1 := whT_len _ (rlL_small L (show 0 ≤ 8 by omega))
      rw [rlL_len] at h1
      omega
     have HS4 := hid hS4
     clear hS4
     go_wp2_with fail
     refine (kguard_any ci _ HCI.out).mono ?_
     rintro e w9 ⟨rfl, hf9⟩
     have HF9 := hid (HF8.out.trans hf9)
     obtain ⟨T3, hT3⟩ : ∃ T3, bs (g3 ci) = T3 := ⟨_, rfl⟩
     have hl3 : T3.size ≤ 50 := by rw [← hT3]; exact g3_len ci
     rw [hT3]
     have HTx : Hid (Calls Tryz.prog 10 #[.string (((S4 ++ ⟨#[114, 117, 108, 101, 32, 117, 110, 100, 101, 114, 32, 48, 58, 32]⟩) ++ T3) ++ ⟨#[32, 45, 62, 32, 97, 59]⟩)] w9 fun e w' => (∃ T, e = .returned (.pointer (some ⟨T, 0, none⟩)) ∧ TbAt w' T rts3 (rsM L 0 0 ++ [seM ci unN [48]])) ∧ Fr (fun _ => False) w9 w') := by
      rw [under_text L 0 ci HS4.out hT3]
      exact ktable_any _ w9 _ (under_read L 0 (by omega) ci)
     clear hf9 hT3 HF8
     go_wp2_with fail
     refine HTx.out.mono ?_
     rintro e wX ⟨⟨TU, rfl, hTU⟩, hfX⟩
     have HTU := hid hTU
     have HFX := hid (HF9.out.trans hfX)
     clear hTU hfX HTx
     go_wp2_with fail
     go_meet
     exact ⟨TU, rfl, HTU, HFX⟩
    ·obtain ⟨g, cap, eo, hb2, hg2⟩ := HOV.out.form hk0
     injection eo with eo1 eo2 eo3
     subst eo1 eo3
     go_wp2_with (at_builtin; refine wpList_append_lies _ rfl (.tmp 41) (.tmp 42) 25 rfl w4.heap.size 9 ij _ 1 16 Tryz.underlying25 hj' hy0 hy1 hy2 rfl (by decide) (.slice (some ⟨w4.heap.size, 0, none⟩) 0 0) 0 [] rfl ?q1 ⟨g, 0, none⟩ k _ (strRow (rlL L k)) rfl ?q8 ?q2 ?q3 hk0 ?q4 ?q5 ?q6 _ rfl ?q7)
     case q1 => exact own_fresh0 w4
     case q8 => simp [strRow, rlL_len]
     case q2 =>
      intro j u hu
      have hn := strs_news (HST4.out.fr ((Fr.refl (fun _ => False) w4).alloc (.cells #[] 9)) (by simp)) j u hu
      rw [addr_add', Nat.zero_add] at hn
      exact hn
     case q3 => exact strRow_one _
     case q4 => unfold maxLen; omega
     case q5 => omega
     case q7 =>
      intro g2 cap2 w8 hown hgrow hor _
      have HF8 : Hid (Fr (fun _ => False) w4 w8) := ((Fr.refl _ _).alloc _).grown hgrow (fun k hk => Or.inr (by
       have : k = w4.heap.size := by simp [Value.ownBlock] at hk; exact hk.symm
       omega))
      have HS8 : Hid (StrsAt w8 (some ⟨g2, 0, none⟩) (rlL L k)) := by
       obtain ⟨a', c', e', hs'⟩ := strsAt_owns (l := rlL L k) hown (by simp [rlL_len])
       injection e' with e1 _ _
       subst e1
       exact hs'
      clear hown hgrow hor
      go_wp2_with fail
      refine (kwhole_any _ (some ⟨g2, 0, none⟩) k cap2 (rlL L k) (by simp [rlL_len] <;> omega) (by omega) HS8.out (rlL_small L (by omega))).mono ?_
      rintro e w' ⟨rfl, he⟩
      replace he := he.symm
      subst he
      obtain ⟨S4, hS4⟩ : ∃ S4, S4 = bs (whT (rlL L k)) := ⟨_, rfl⟩
      rw [← hS4]
      have hs4 : S4.size ≤ 1000 := by
       rw [hS4, bs_size]
       have h1 := whT_len _ (rlL_small L (show k ≤ 8 by omega))
       rw [rlL_len] at h1
       omega
      have HS4 := hid hS4
      clear hS4
      go_wp2_with fail
      refine (kguard_any ci _ HCI.out).mono ?_
      rintro e w9 ⟨rfl, hf9⟩
      have HF9 := hid (HF8.out.trans hf9)
      obtain ⟨T3, hT3⟩ : ∃ T3, bs (g3 ci) = T3 := ⟨_, rfl⟩
      have hl3 : T3.size ≤ 50 := by rw [← hT3]; exact g3_len ci
      rw [hT3]
      have HTx : Hid (Calls Tryz.prog 10 #[.string (((S4 ++ ⟨#[114, 117, 108, 101, 32, 117, 110, 100, 101, 114, 32, 48, 58, 32]⟩) ++ T3) ++ ⟨#[32, 45, 62, 32, 97, 59]⟩)] w9 fun e w' => (∃ T, e = .returned (.pointer (some ⟨T, 0, none⟩)) ∧ TbAt w' T rts3 (rsM L 0 k ++ [seM ci unN [48]])) ∧ Fr (fun _ => False) w9 w') := by
       rw [under_text L k ci HS4.out hT3]
       exact ktable_any _ w9 _ (under_read L k (by omega) ci)
      clear hf9 hT3 HF8
      go_wp2_with fail
      refine HTx.out.mono ?_
      rintro e wX ⟨⟨TU, rfl, hTU⟩, hfX⟩
      have HTU := hid hTU
      have HFX := hid (HF9.out.trans hfX)
      clear hTU hfX HTx
      go_wp2_with fail
      go_meet
      exact ⟨TU, rfl, HTU, HFX⟩
   case rest =>
    obtain ⟨TU, rfl, HTU, HFU⟩ := hcut
    generalize wc = w5 at *
    have HF5 := hid (HF4.out.trans HFU.out)
    have HTB5 := hid (HTB4.out.fr HFU.out)
    have HTO5 := hid (HTO4.out.fr HFU.out)
    have HTA5 := hid (HTA.out.fr HFU.out)
    clear HF4 HTB4 HTO4 HTA HFU HST4
    go_wp2_with fail
    refine (kpayment_any w5 pa pn pc pl HPL.out.1 (HPL.out.2.1.fr HF5.out) HPL.out.2.2).mono ?_
    rintro e w6 ⟨⟨p, rfl, hpo, hps⟩, hf6⟩
    have HPO := hid hpo
    have HPS : Hid (p.pan.size ≤ maxLen) := by show _ ≤ _; unfold maxLen; omega
    have HF6 := hid (HF5.out.trans hf6)
    have HTB6 := hid (HTB5.out.fr hf6)
    have HTO6 := hid (HTO5.out.fr hf6)
    have HTA6 := hid (HTA5.out.fr hf6)
    have HTU6 := hid (HTU.out.fr hf6)
    clear hpo hps hf6 HF5 HTB5 HTO5 HTA5 HTU
    unfold payV
    have HB7 : Hid ((w6.alloc (.cells #[.string p.pan, .int .i64 p.mcc, .int .i64 p.am, .int .i64 p.cur] 34)).heap[w6.heap.size]? = some (payO p)) := heap_alloc_new w6 (payO p)
    have HF7 : Hid (Fr (fun _ => False) w6 (w6.alloc (.cells #[.string p.pan, .int .i64 p.mcc, .int .i64 p.am, .int .i64 p.cur] 34))) := (Fr.refl _ _).alloc _
    go_upto_region 12 with fail
    generalize w6.alloc (.cells #[.string p.pan, .int .i64 p.mcc, .int .i64 p.am, .int .i64 p.cur] 34) = w7 at *
    obtain ⟨P, hP⟩ : ∃ P, w6.heap.size = P := ⟨_, rfl⟩
    rw [hP] at HB7
    rw [hP]
    clear hP
    have HFo := four (l := L) (m := k) (c := ci) HPO.out
    generalize meet1 (seM ci [120] [49]) p (card6 p.pan) = M at HFo
    obtain ⟨ob, hob⟩ : ∃ o, decM rts3 (rsM L 0 k) p (dnF rts3 []) = o := ⟨_, rfl⟩
    obtain ⟨oo, hoo⟩ : ∃ o, decM rts3 (seM ci ovN [49, 48, 48, 48] :: rsM L 0 k) p (dnF rts3 []) = o := ⟨_, rfl⟩
    obtain ⟨om, hom⟩ : ∃ o, decM rts3 [(alX ci).rl [0] 3] p (dnF rts3 []) = o := ⟨_, rfl⟩
    obtain ⟨ou, hou⟩ : ∃ o, decM rts3 (rsM L 0 k ++ [seM ci unN [48]]) p (dnF rts3 []) = o := ⟨_, rfl⟩
    rw [hob, hoo, hom, hou] at HFo
    have H4 := hid HFo
    clear HFo
    have HC : Hid (∀ (W : World) (T : Nat) (R : List RuleM) (o : Nat × ByteArray × ByteArray), TbAt W T rts3 R → decM rts3 R p (dnF rts3 []) = o → Calls Tryz.prog 11 #[.pointer (some ⟨T, 0, none⟩), .agg #[.string p.pan, .int .i64 p.mcc, .int .i64 p.am, .int .i64 p.cur], .slice none 0 0] W fun e w' => e = .returned (.agg #[.int .i64 (o.1 : Nat), .string o.2.1, .string o.2.2]) ∧ Fr (fun _ => False) W w') := fun W T R o h1 h2 => by
     have e := h1.decide0 p HPS.out
     rw [h2] at e
     exact e
    have HOB := hid hob
    have HOO := hid hoo
    have HOM := hid hom
    have HOU := hid hou
    clear hob hoo hom hou
    have HFw := hid (Fr.refl (fun _ => False) w7)
    have y0 := block_cell (HFw.out.whole HB7.out (by simp)) 0 _ rfl
    have y1 := block_cell (HFw.out.whole HB7.out (by simp)) 1 _ rfl
    have y2 := block_cell (HFw.out.whole HB7.out (by simp)) 2 _ rfl
    have y3 := block_cell (HFw.out.whole HB7.out (by simp)) 3 _ rfl
    go_wp2_with fail
    refine (HC.out _ _ _ ob (HTB6.out.fr (HF7.out.trans HFw.out)) HOB.out).mono ?_
    rintro e w8 ⟨rfl, hfw8⟩
    clear y0 y1 y2 y3
    have HF8 : Hid (Fr (fun _ => False) w7 (w8.alloc (.cells #[.int .i64 (ob.1 : Nat), .string ob.2.1, .string ob.2.2] 31))) := (HFw.out.trans hfw8).alloc _
    have HQB : Hid ((w8.alloc (.cells #[.int .i64 (ob.1 : Nat), .string ob.2.1, .string ob.2.2] 31)).heap[w8.heap.size]? = some (oK ob)) := heap_alloc_new w8 (oK ob)
    have HSQB : Hid (Fr (fun _ => False) _ (w8.alloc (.cells #[.int .i64 (ob.1 : Nat), .string ob.2.1, .string ob.2.2] 31))) := hid (hfw8.alloc _)
    clear hfw8
    have y0 := block_cell (HF8.out.whole HB7.out (by simp)) 0 _ rfl
    have y1 := block_cell (HF8.out.whole HB7.out (by simp)) 1 _ rfl
    have y2 := block_cell (HF8.out.whole HB7.out (by simp)) 2 _ rfl
    have y3 := block_cell (HF8.out.whole HB7.out (by simp)) 3 _ rfl
    go_wp2_with fail
    refine (HC.out _ _ _ oo (HTO6.out.fr (HF7.out.trans HF8.out)) HOO.out).mono ?_
    rintro e w9 ⟨rfl, hfw9⟩
    clear y0 y1 y2 y3
    have HF9 : Hid (Fr (fun _ => False) w7 (w9.alloc (.cells #[.int .i64 (oo.1 : Nat), .string oo.2.1, .string oo.2.2] 31))) := (HF8.out.trans hfw9).alloc _
    have HQO : Hid ((w9.alloc (.cells #[.int .i64 (oo.1 : Nat), .string oo.2.1, .string oo.2.2] 31)).heap[w9.heap.size]? = some (oK oo)) := heap_alloc_new w9 (oK oo)
    have HSQO : Hid (Fr (fun _ => False) _ (w9.alloc (.cells #[.int .i64 (oo.1 : Nat), .string oo.2.1, .string oo.2.2] 31))) := hid (hfw9.alloc _)
    clear hfw9
    have y0 := block_cell (HF9.out.whole HB7.out (by simp)) 0 _ rfl
    have y1 := block_cell (HF9.out.whole HB7.out (by simp)) 1 _ rfl
    have y2 := block_cell (HF9.out.whole HB7.out (by simp)) 2 _ rfl
    have y3 := block_cell (HF9.out.whole HB7.out (by simp)) 3 _ rfl
    go_wp2_with fail
    refine (HC.out _ _ _ om (HTA6.out.fr (HF7.out.trans HF9.out)) HOM.out).mono ?_
    rintro e w10 ⟨rfl, hfw10⟩
    clear y0 y1 y2 y3
    have HF10 : Hid (Fr (fun _ => False) w7 (w10.alloc (.cells #[.int .i64 (om.1 : Nat), .string om.2.1, .string om.2.2] 31))) := (HF9.out.trans hfw10).alloc _
    have HQM : Hid ((w10.alloc (.cells #[.int .i64 (om.1 : Nat), .string om.2.1, .string om.2.2] 31)).heap[w10.heap.size]? = some (oK om)) := heap_alloc_new w10 (oK om)
    have HSQM : Hid (Fr (fun _ => False) _ (w10.alloc (.cells #[.int .i64 (om.1 : Nat), .string om.2.1, .string om.2.2] 31))) := hid (hfw10.alloc _)
    clear hfw10
    have y0 := block_cell (HF10.out.whole HB7.out (by simp)) 0 _ rfl
    have y1 := block_cell (HF10.out.whole HB7.out (by simp)) 1 _ rfl
    have y2 := block_cell (HF10.out.whole HB7.out (by simp)) 2 _ rfl
    have y3 := block_cell (HF10.out.whole HB7.out (by simp)) 3 _ rfl
    go_wp2_with fail
    refine (HC.out _ _ _ ou (HTU6.out.fr (HF7.out.trans HF10.out)) HOU.out).mono ?_
    rintro e w11 ⟨rfl, hfw11⟩
    clear y0 y1 y2 y3
    have HF11 : Hid (Fr (fun _ => False) w7 (w11.alloc (.cells #[.int .i64 (ou.1 : Nat), .string ou.2.1, .string ou.2.2] 31))) := (HF10.out.trans hfw11).alloc _
    have HQU : Hid ((w11.alloc (.cells #[.int .i64 (ou.1 : Nat), .string ou.2.1, .string ou.2.2] 31)).heap[w11.heap.size]? = some (oK ou)) := heap_alloc_new w11 (oK ou)
    have HSQU : Hid (Fr (fun _ => False) _ (w11.alloc (.cells #[.int .i64 (ou.1 : Nat), .string ou.2.1, .string ou.2.2] 31))) := hid (hfw11.alloc _)
    clear hfw11
    go_upto_region 16 with fail
    have fO := HSQU.out
    have fM := HSQM.out.trans fO
    have fB := HSQO.out.trans fM
    have bU := HQU.out
    have bM := fO.whole HQM.out (by simp)
    have bO := fM.whole HQO.out (by simp)
    have bB := fB.whole HQB.out (by simp)
    have HFin := hid ((HF6.out.trans HF7.out).trans HF11.out)
    generalize w11.alloc (.cells #[.int .i64 (ou.1 : Nat), .string ou.2.1, .string ou.2.2] 31) = W at *
    clear HSQU HSQM HSQO HSQB HQU HQM HQO HQB HF7 HF8 HF9 HF10 HF11 HFw HC HTB6 HTO6 HTA6 HTU6 HOB HOO HOM HOU fO fM fB HB7
    obtain ⟨b1, b2, b3⟩ := ob
    have B0 : W.cell? ⟨w8.heap.size, 0, none⟩ = some (.int .i64 (b1 : Nat)) := block_cell bB 0 _ rfl
    have B1 : W.cell? ⟨w8.heap.size, 1, none⟩ = some (.string b2) := block_cell bB 1 _ rfl
    have B2 : W.cell? ⟨w8.heap.size, 2, none⟩ = some (.string b3) := block_cell bB 2 _ rfl
    obtain ⟨f1, f2, f3⟩ := H4.out
    cases M with
    | false =>
     have f3' : ou = (b1, b2, b3) := by rw [f3]; simp
     have f2' : oo = (b1, b2, b3) := by rw [f2]; simp
     have f1' : om = (2, ByteArray.empty, ByteArray.empty) := by rw [f1]; simp
     subst f1' f2' f3'
     have M0 : W.cell? ⟨w10.heap.size, 0, none⟩ = some (.int .i64 2) := block_cell bM 0 _ rfl
     have O0 : W.cell? ⟨w9.heap.size, 0, none⟩ = some (.int .i64 (b1 : Nat)) := block_cell bO 0 _ rfl
     have O1 : W.cell? ⟨w9.heap.size, 1, none⟩ = some (.string b2) := block_cell bO 1 _ rfl
     have O2 : W.cell? ⟨w9.heap.size, 2, none⟩ = some (.string b3) := block_cell bO 2 _ rfl
     have U0 : W.cell? ⟨w11.heap.size, 0, none⟩ = some (.int .i64 (b1 : Nat)) := block_cell bU 0 _ rfl
     have U1 : W.cell? ⟨w11.heap.size, 1, none⟩ = some (.string b2) := block_cell bU 1 _ rfl
     have U2 : W.cell? ⟨w11.heap.size, 2, none⟩ = some (.string b3) := block_cell bU 2 _ rfl
     clear bB bM bO bU H4 f1 f2 f3
     go_wp2_with fail
     all_goals
      go_ret
      exact ⟨rfl, HFin.out⟩
    | true =>
     have f2' : oo = (0, bs ovN, bs [97]) := by rw [f2]; simp
     have f1' : om = (0, bs [120], bs [97]) := by rw [f1]; simp
     subst f1' f2'
     have M0 : W.cell? ⟨w10.heap.size, 0, none⟩ = some (.int .i64 0) := block_cell bM 0 _ rfl
     have O0 : W.cell? ⟨w9.heap.size, 0, none⟩ = some (.int .i64 0) := block_cell bO 0 _ rfl
     have O1 : W.cell? ⟨w9.heap.size, 1, none⟩ = some (.string ⟨#[111, 118, 101, 114]⟩) := block_cell bO 1 _ rfl
     have O2 : W.cell? ⟨w9.heap.size, 2, none⟩ = some (.string ⟨#[97]⟩) := block_cell bO 2 _ rfl
     by_cases h2 : b1 = 2
     ·have f3' : ou = (0, bs unN, bs [97]) := by rw [f3, if_pos ⟨h2, rfl⟩]
      subst f3'
      have h2i : ((b1 : Int) == 2) = true := by simp [h2]
      have U0 : W.cell? ⟨w11.heap.size, 0, none⟩ = some (.int .i64 0) := block_cell bU 0 _ rfl
      have U1 : W.cell? ⟨w11.heap.size, 1, none⟩ = some (.string ⟨#[117, 110, 100, 101, 114]⟩) := block_cell bU 1 _ rfl
      clear bB bM bO bU H4 f1 f2 f3 h2
      go_wp2_with fail
      go_ret
      exact ⟨rfl, HFin.out⟩
     ·have f3' : ou = (b1, b2, b3) := by rw [f3, if_neg (fun h => h2 h.1)]
      subst f3'
      have h2i : ((b1 : Int) == 2) = false := by simp; omega
      have U0 : W.cell? ⟨w11.heap.size, 0, none⟩ = some (.int .i64 (b1 : Nat)) := block_cell bU 0 _ rfl
      have U1 : W.cell? ⟨w11.heap.size, 1, none⟩ = some (.string b2) := block_cell bU 1 _ rfl
      have U2 : W.cell? ⟨w11.heap.size, 2, none⟩ = some (.string b3) := block_cell bU 2 _ rfl
      clear bB bM bO bU H4 f1 f2 f3 h2
      go_wp2_with fail
      go_ret
      exact ⟨rfl, HFin.out⟩
end Go.Proofs.YtccikgogjfbpeaaGreat
