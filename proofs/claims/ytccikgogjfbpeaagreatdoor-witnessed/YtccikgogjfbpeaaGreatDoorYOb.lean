/- The keep Witnessed, walked: for every list and payment it answers true. -/
import Derived.Test.YtccikgogjfbpeaaGreatDoorYHa
import Derived.Test.YtccikgogjfbpeaaGreatDoorYOa
namespace Go.Proofs.YtccikgogjfbpeaaGreatDoor
open Go.RowKit
theorem strsAt_of {w : World} {base : Nat} {v : Value} {n : Nat} {l : List ByteArray} (h : w.ownsRow base 9 1 v n (sRow l)) (hl : l.length = n) : ∃ a c, v = .slice a n c ∧ StrsAt w a l := by
 obtain ⟨a, c, e⟩ := ownsRow_len h
 subst e hl
 exact ⟨a, c, rfl, strsAt_row h⟩
theorem rl_small (l : List Int) {m : Nat} (hm : m ≤ 8) : ∀ b, b ∈ rlL l m → b.size ≤ 100 := by
 intro b hb
 obtain ⟨i, hi, rfl⟩ := List.mem_map.1 hb
 have := rlT_len (i := i) (by have := List.mem_range.1 hi; omega) (rawK l i)
 rw [bs_size]
 omega
theorem raw_take {w : World} {a : Option Addr} {l : List Int} (h : RawAt w a l) (k : Nat) : RawAt w a (l.take k) := fun j x hx => h j x (by
 rw [List.getElem?_take] at hx
 split at hx
 ·exact hx
 ·cases hx)
set_option maxRecDepth 1000000 in
set_option maxHeartbeats 8000000 in
theorem Witnessed_any (w : World) (a : Option Addr) (n c : Nat) (l : List Int) (pa : Option Addr) (pn pc : Nat) (pl : List Int) (hl : l.length = n) (hnc : n ≤ c) (hr : RawAt w a l) (hi : ∀ x, x ∈ l → InI x) (hpl : pl.length = pn) (hpr : RawAt w pa pl) (hpi : ∀ x, x ∈ pl → InI x) (ht : Tab w) :
  Calls Tryz.prog 9 #[.slice a n c, .slice pa pn pc] w fun e w' => e = .returned (.bool true) ∧ Fr (fun _ => False) w w' := by
 have HA := hid (kawake_any w)
 have HR := hid hr
 have HL := hid hl
 have HIN := hid hi
 have HTb0 := hid ht
 have HPL : Hid (pl.length = pn ∧ RawAt w pa pl ∧ ∀ x, x ∈ pl → InI x) := ⟨hpl, hpr, hpi⟩
 clear hl hr hi hpl hpr hpi ht
 go_enter Tryz.func9, Tryz.ntmps9
 go_wp2_with fail
 refine HA.out.mono ?_
 rintro e w0 ⟨rfl, hf0⟩
 have HF0 := hid hf0
 clear hf0 HA
 go_upto_if 23 with fail
 go_cut [0] (fun v wx => ∃ (k kc : Nat), v = .slice a k kc ∧ k ≤ 8 ∧ Hid (k = min n 8) ∧ wx = w0)
 case first =>
  by_cases h7 : 8 < n
  ·have h7i : (8 : Int) < (n : Int) := by omega
   have h7c : (8 : Int) ≤ (c : Int) := by omega
   go_wp2_with fail
   go_meet
   exact ⟨8, c, rfl, by omega, by show 8 = min n 8; omega, rfl⟩
  ·have h7i : ¬ (8 : Int) < (n : Int) := by omega
   go_wp2_with fail
   go_meet
   exact ⟨n, c, rfl, by omega, by show _ = _; omega, rfl⟩
 case rest =>
  obtain ⟨k, kc, rfl, hk8, HK, hwc⟩ := hcut
  replace hwc := hwc.symm
  subst hwc
  obtain ⟨L, hL⟩ : ∃ L, l.take k = L := ⟨_, rfl⟩
  have HLk : Hid (L.length = k) := by show _ = _; rw [← hL, List.length_take]; have := HL.out; have := HK.out; omega
  have HRk : Hid (RawAt w0 a L ∧ ∀ x, x ∈ L → InI x) := by
   refine ⟨?_, ?_⟩
   ·rw [← hL]; exact raw_take (HR.out.fr HF0.out) k
   ·intro x hx; rw [← hL] at hx; exact HIN.out x (List.mem_of_mem_take hx)
  have HRl : Hid (Calls Tryz.prog 14 #[.slice a k kc] w0 fun e w' => (∃ v, e = .returned v ∧ w'.ownsRow w0.heap.size 9 1 v k (sRow (rlL L k)) ∧ (k = 0 → v = .slice none 0 0)) ∧ Fr (fun _ => False) w0 w') := kruled_any w0 a k kc L k HLk.out HRk.out.1 HRk.out.2 (by omega)
  clear hL
  go_wp2_with fail
  refine HRl.out.mono ?_
  rintro e w1 ⟨⟨v, rfl, hov, _⟩, hf1⟩
  obtain ⟨ra, rc, rfl, hst⟩ := strsAt_of hov (rlL_len L k)
  have HF1 := hid hf1
  have HWh := hid (kwhole_any w1 ra k rc (rlL L k) (rlL_len L k) (by omega) hst (rl_small L hk8))
  have HTb := hid (ktq_any _ w1 _ (base_read L k hk8))
  generalize bs (whT (rlL L k)) = S1 at *
  clear hf1 hov hst HRl
  go_wp2_with fail
  refine HWh.out.mono ?_
  rintro e w' ⟨rfl, he⟩
  replace he := he.symm
  subst he
  go_wp2_with fail
  refine HTb.out.mono ?_
  rintro e w2 ⟨⟨T, rfl, hT⟩, hf2⟩
  have HT : Hid (TqAt w2 T rts3 (rsM L 0 k)) := hT
  have HF2 := hid (HF1.out.trans hf2)
  have HTab := hid (HTb0.out.fr (HF0.out.trans HF2.out))
  clear hT hf2 HWh HTb HF1
  obtain ⟨R, hR⟩ : ∃ R, rsM L 0 k = R := ⟨_, rfl⟩
  have HRe := hid hR
  rw [hR] at HT
  clear hR
  have HOv : Hid (∀ W, Fr (fun _ => False) w2 W → Calls Tryz.prog 20 #[.pointer (some ⟨T, 0, none⟩)] W fun e w' => (∃ oa oc, e = .returned (.slice oa (ovsN R).length oc) ∧ OvAt w' oa (ovsN R)) ∧ Fr (fun _ => False) W w') := fun W hW => (tOverlaps_any W T rts3 R (HT.out.fr hW) (HTab.out.fr hW)).mono (by
   rintro e w' ⟨⟨v, rfl, hv⟩, hf⟩
   obtain ⟨oa, oc, rfl, ho⟩ := ovAt_own hv
   exact ⟨⟨oa, oc, rfl, ho⟩, hf⟩)
  obtain ⟨on, hon⟩ : ∃ on, (ovsN R).length = on := ⟨_, rfl⟩
  rw [hon] at HOv
  have HON := hid hon
  have hon64 : on ≤ 64 := by
   have h2 : R.length = k := by rw [← HRe.out, rsM_len]
   have := ovI_len R R.length
   have e3 := Nat.mul_le_mul (show R.length ≤ 8 by omega) (show R.length ≤ 8 by omega)
   unfold ovsN at hon
   omega
  clear hon
  go_upto_region 7 with fail
  go_cut [7] (fun v wx => ∃ (oa : Option Addr) (oc : Nat), v = .slice oa on oc ∧ Hid (OvAt wx oa (ovsN R)) ∧ Hid (Fr (fun _ => False) w2 wx))
  case first =>
   go_wp2_with (go_at_call 20; refine (HOv.out _ (Fr.refl _ _)).mono ?_)
   rintro e w3 ⟨⟨oa, oc, rfl, ho⟩, hf⟩
   have HO := hid ho
   have HF3 := hid hf
   clear ho hf
   go_wp2_with fail
   go_meet
   exact ⟨_, _, rfl, HO, HF3⟩
  case rest =>
   obtain ⟨oa, oc, rfl, HO, HF3⟩ := hcut
   generalize wc = w3 at *
   go_upto_region 8 with fail
   go_cut [8] (fun v wx => ∃ (ua : Option Addr) (uc : Nat), v = .slice ua on uc ∧ Hid (OvAt wx ua (ovsN R)) ∧ Hid (Fr (fun _ => False) w3 wx))
   case first =>
    go_wp2_with (go_at_call 20; refine (HOv.out _ HF3.out).mono ?_)
    rintro e w4 ⟨⟨ua, uc, rfl, ho⟩, hf⟩
    have HU := hid ho
    have HF4 := hid hf
    clear ho hf
    go_wp2_with fail
    go_meet
    exact ⟨_, _, rfl, HU, HF4⟩
   case rest =>
    obtain ⟨ua, uc, rfl, HU, HF4⟩ := hcut
    generalize wc = w4 at *
    clear HOv
    go_wp2_with fail
    rename_i K0 h0
    have H0 := hid h0
    clear h0
    go_loopg [9] on (fun mm iv wr => ∃ i : Nat, i ≤ on ∧ mm = on - i ∧ iv = .int .i64 (i : Nat) ∧ Hid (Fr (fun _ => False) w4 wr))
    case atStart => exact ⟨0, by omega, rfl, rfl, Fr.refl _ _⟩
    case round =>
     obtain ⟨i, hio, rfl, rfl, HFr⟩ := hrel
     by_cases hlt : i < on
     ·have hii : (i : Int) < (on : Int) := by omega
      obtain ⟨x, hx⟩ : ∃ x, (ovsN R)[i]? = some x := ⟨_, List.getElem?_eq_getElem (show i < (ovsN R).length by have := HON.out; omega)⟩
      obtain ⟨g1, e1, hc1⟩ := (HO.out.fr (HF4.out.trans HFr.out)) i x hx
      obtain ⟨g2, e2, hc2⟩ := (HU.out.fr HFr.out) i x hx
      subst e1 e2
      obtain ⟨n1, n2, px⟩ := x
      obtain ⟨pan, mcc, am, cur⟩ := px
      have a0 : wr.cell? ⟨g1, i * 6, none⟩ = some (.string n1) := hc1 0 _ rfl
      have a1 := hc1 1 _ rfl
      have a2 := hc1 2 _ rfl
      have a3 := hc1 3 _ rfl
      have a4 := hc1 4 _ rfl
      have a5 := hc1 5 _ rfl
      have b0 : wr.cell? ⟨g2, i * 6, none⟩ = some (.string n1) := hc2 0 _ rfl
      have b1 := hc2 1 _ rfl
      have b2 := hc2 2 _ rfl
      have b3 := hc2 3 _ rfl
      have b4 := hc2 4 _ rfl
      have b5 := hc2 5 _ rfl
      clear hc1 hc2 hx
      go_wp2_with fail
      go_quiet (fail)
      go_wp2_with fail
      go_roundg (on - (i + 1))
      case measure => omega
      case rel => exact ⟨i + 1, by omega, rfl, by go_num, HFr.out.trans ⟨rfl, rfl, rfl, Nat.le_refl _, fun _ _ _ => rfl⟩⟩
     ·have hii : ¬ (i : Int) < (on : Int) := by omega
      clear hlt
      go_wp2_with fail
      refine H0.out _ _ ?_
      clear H0
      have HFw := hid (HF2.out.trans (HF3.out.trans (HF4.out.trans HFr.out)))
      have HO' := hid (HO.out.fr (HF4.out.trans HFr.out))
      generalize wr = w5 at *
      go_upto_region 16 with fail
      go_cut [10] (fun v wx => ∃ (P : Nat) (p : PayM), v = .pointer (some ⟨P, 0, none⟩) ∧ Hid (payOk p = true ∧ p.pan.size ≤ 19) ∧ Hid (wx.heap[P]? = some (payO p)) ∧ Hid (Fr (fun _ => False) w5 wx))
      case first =>
       go_wp2_with fail
       refine (kpayment_any w5 pa pn pc pl HPL.out.1 (HPL.out.2.1.fr (HF0.out.trans HFw.out)) HPL.out.2.2).mono ?_
       rintro e w6 ⟨⟨p, rfl, hpo, hps⟩, hf6⟩
       have HPO : Hid (payOk p = true ∧ p.pan.size ≤ 19) := ⟨hpo, hps⟩
       have HF6 := hid hf6
       clear hpo hps hf6
       unfold payV
       have HB7 : Hid ((w6.alloc (.cells #[.string p.pan, .int .i64 p.mcc, .int .i64 p.am, .int .i64 p.cur] 35)).heap[w6.heap.size]? = some (payO p)) := heap_alloc_new w6 (payO p)
       have HF7 : Hid (Fr (fun _ => False) w5 (w6.alloc (.cells #[.string p.pan, .int .i64 p.mcc, .int .i64 p.am, .int .i64 p.cur] 35))) := HF6.out.alloc _
       go_wp2_with fail
       go_meet
       exact ⟨_, p, rfl, HPO, HB7, HF7⟩
      obtain ⟨P, p, rfl, HPO, HB7, HF7⟩ := hcut
      generalize wc = w7 at *
      have f07 := HFw.out.trans HF7.out
      have hb := readM_book (base_read L k hk8)
      have ha := readM_ar (base_read L k hk8)
      apply_assumption
      exact wit_tail17 w w7 L k HLk.out hk8 a kc (HRk.out.1.fr f07) HRk.out.2 R HRe.out oa on oc (HO'.out.fr HF7.out) HON.out P p HPO.out.1 HPO.out.2 HB7.out (HF0.out.trans f07) _ (fun r hr => by rw [← HRe.out] at hr; exact ⟨hb.rl r hr, ha r hr⟩) _ _ _ _ _ _ _ _ _ _ _ _ _ _ _ _ _ _ _ _ _ _ _ _ _ _ _ _ _ _ _ _ _ _ _ _ _ _ _ _ _ _ _ _ _ _ _ _ _ _ _ _ _ _ _ _ _ _ _ _ _ _ _ _ _ _ _ _ _ _ _ _ _ _ _ _ _ _ _ _ _ _ _ _ _ _ _ _ _ _ _ _ _ _ _ _ _ _ _ _ _ _ _ _ _ _ _ _ _ _ _ _ _ _ _ _ _ _ _ _ _ _ _ _ _ _ _ _ _ _ _ _ _ _ _ _ _ _ _ _ _ _ _ _ _ _ _ _ _ _ _ _ _ _ _ _ _
end Go.Proofs.YtccikgogjfbpeaaGreatDoor
