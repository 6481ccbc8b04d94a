/- The keep Plainly, walked. -/
import Derived.Test.YtccikgogjfbpeaaGreatDoorVHa
import Derived.Test.YtccikgogjfbpeaaGreatDoorVKx
import Derived.Test.YtccikgogjfbpeaaGreatDoorVZe
import Derived.Deep.DeepCutAuto
namespace Go.Proofs.YtccikgogjfbpeaaGreatDoor
open Go.RowKit

/-- A table of this book: what it decides, and its book. -/
def TxAt (w : World) (T : Nat) (rts : List RouteM) (R : List RuleM) : Prop := TbAt w T rts R ∧ ∃ Bb vr vl xs, w.cell? ⟨T, 0, none⟩ = some (.pointer (some ⟨Bb, 0, none⟩)) ∧ Bk w Bb vr vl rts R xs ∧ BookOk rts R
theorem TxAt.fr {w w' : World} {T : Nat} {rts : List RouteM} {R : List RuleM} (h : TxAt w T rts R) (hf : Fr (fun _ => False) w w') : TxAt w' T rts R := by
 obtain ⟨h0, Bb, vr, vl, xs, h1, h2, h3⟩ := h
 exact ⟨h0.fr hf, Bb, vr, vl, xs, (hf.cell (p := ⟨T, 0, none⟩) (World.block_lt_of_cell? w _ h1) (by simp)).trans h1, h2.fr hf (by simp), h3⟩
set_option maxRecDepth 30000 in
set_option maxHeartbeats 1000000 in
theorem ktab_any (s : ByteArray) (w : World) (p : List RouteM × List RuleM) (hR : readM s = .ok p) :
  Calls Tryz.prog 16 #[.string s] w fun e w' => (∃ T, e = .returned (.pointer (some ⟨T, 0, none⟩)) ∧ TxAt w' T p.1 p.2) ∧ Fr (fun _ => False) w w' := by
 have HC := hid (Compile_any s w)
 have HR := hid hR
 clear hR
 go_enter Tryz.func16, Tryz.ntmps16
 go_wp2_with fail
 refine HC.out.mono ?_
 rintro e w1 hP
 obtain ⟨⟨T, B, TT, vr, vl, xs, rfl, hT, hT0, hT1, hB, hk, htr⟩, hbl⟩ := (CPost.ok HR.out).1 hP
 have HF : Hid (Fr (fun _ => False) w w1) := Fr.of_below hbl
 have HT : Hid (TxAt w1 T p.1 p.2) := by
  refine ⟨?_, B, vr, vl, xs, hT0, hk, readM_book HR.out⟩
  obtain ⟨ra, rc, e⟩ := ownsRow_len hk.ro
  subst e
  exact ⟨_, TT, ra, rc, hT1, htr, ownsRow_base hk.ro (Nat.zero_le _), readM_book HR.out⟩
 clear hP hT hT0 hT1 hB hk htr hbl HC
 go_wp2_with fail
 go_ret
 exact ⟨⟨T, rfl, HT.out⟩, HF.out⟩
set_option maxRecDepth 30000 in
set_option maxHeartbeats 400000 in
theorem kText_any (w : World) (T : Nat) (rts : List RouteM) (rls : List RuleM) (h : TxAt w T rts rls) (ht : Tab w) :
  Calls Tryz.prog 17 #[.pointer (some ⟨T, 0, none⟩)] w fun e w' => e = .returned (.string (bs (bookJ rts rls))) ∧ Fr (fun _ => False) w w' := by
 obtain ⟨_, Bb, vr, vl, xs, hT, hk, ho⟩ := h
 have HC := hid (Plain_any w Bb vr vl rts rls xs hk ho ht)
 clear hk ho ht
 go_enter Tryz.func17, Tryz.ntmps17
 go_wp2_with fail
 refine HC.out.mono ?_
 rintro e w1 ⟨rfl, hf⟩
 have HF := hid hf
 clear hf hT
 go_wp2
 go_ret
 exact ⟨rfl, HF.out⟩
theorem odd_snoc {X Y : List UInt8} {l : List UInt8} {i : Nat} {c : UInt8} (h : l[i]? = some c) : odd X Y (l.take (i + 1)) = odd X Y (l.take i) ++ oddF X Y c := by
 rw [List.take_add_one, h, odd_app]
 simp [odd]
theorem ext1 {S : ByteArray} {i : Nat} {c : UInt8} (h : S.data.toList[i]? = some c) : S.extract i (i + 1) = bs [c] := by
 apply ByteArray.ext
 apply Array.toList_inj.1
 rw [Lib.extract_data, show i + 1 - i = 1 from by omega]
 have : S.data.toList.drop i = c :: S.data.toList.drop (i + 1) := by
  rw [List.drop_eq_getElem_cons (List.getElem?_eq_some_iff.1 h).1]
  congr 1
  exact (List.getElem?_eq_some_iff.1 h).2
 rw [this]
 rfl
theorem bAt_get {S : ByteArray} {i : Nat} {c : UInt8} (h : S.data.toList[i]? = some c) : bAt S i = (c.toNat : Int) := by
 unfold bAt
 rw [List.getD_eq_getElem?_getD, h]
 rfl
theorem c_ne {c : UInt8} {k : Nat} (hk : k < 256) (h : c ≠ UInt8.ofNat k) : ((c.toNat : Int) == (k : Int)) = false := by
 cases he : ((c.toNat : Int) == (k : Int)) with
 | false => rfl
 | true =>
  have e := eq_of_beq he
  exfalso
  apply h
  apply UInt8.toNat_inj.1
  rw [UInt8.toNat_ofNat']
  omega
set_option maxRecDepth 30000 in
set_option maxHeartbeats 8000000 in
theorem Plainly_any (w : World) (a : Option Addr) (n c : Nat) (l : List Int) (pa : Option Addr) (pn pc : Nat) (pl : List Int) (od : Int) (hl : l.length = n) (hr : RawAt w a l) (hi : ∀ x, x ∈ l → InI x) (hpl : pl.length = pn) (hpr : RawAt w pa pl) (hpi : ∀ x, x ∈ pl → InI x) (hod : InI od) (hT : ∀ w', Below w.heap.size w w' → Tab w') :
  Calls Tryz.prog 8 #[.slice a n c, .slice pa pn pc, .int .i64 od] w fun e w' => e = .returned (.bool true) ∧ Fr (fun _ => False) w w' := by
 have HA := hid (kawake_any w)
 have HTab : Hid (∀ W, Fr (fun _ => False) w W → Tab W) := fun W hf => hT W (hf.below (Nat.le_refl _) (by simp))
 have HR : Hid (l.length = n ∧ RawAt w a l ∧ ∀ x, x ∈ l → InI x) := ⟨hl, hr, hi⟩
 have HPL : Hid (pl.length = pn ∧ RawAt w pa pl ∧ ∀ x, x ∈ pl → InI x) := ⟨hpl, hpr, hpi⟩
 have HP3 : Hid (∀ W, Calls Tryz.prog 15 #[.int .i64 od, .int .i64 3] W fun e w' => e = .returned (.int .i64 (pickK od 3)) ∧ w' = W) := fun W => kpick_any od 3 W hod.1 hod.2 (by decide) (by decide)
 have HP2 : Hid (∀ W, Calls Tryz.prog 15 #[.int .i64 od, .int .i64 2] W fun e w' => e = .returned (.int .i64 (pickK od 2)) ∧ w' = W) := fun W => kpick_any od 2 W hod.1 hod.2 (by decide) (by decide)
 clear hl hr hi hpl hpr hpi hod hT
 obtain ⟨q3, hq3⟩ : ∃ q, pickK od 3 = q := ⟨_, rfl⟩
 obtain ⟨q2, hq2⟩ : ∃ q, pickK od 2 = q := ⟨_, rfl⟩
 rw [hq3] at HP3
 rw [hq2] at HP2
 clear hq3 hq2
 obtain ⟨X, hX⟩ : ∃ X, oX (decide (0 < q3)) = X := ⟨_, rfl⟩
 obtain ⟨Y, hY⟩ : ∃ Y, oY (decide (0 < q2)) = Y := ⟨_, rfl⟩
 have HX := hid hX
 have HY := hid hY
 clear hX hY
 obtain ⟨m, hm⟩ : ∃ m, min n 8 = m := ⟨_, rfl⟩
 have hm8 : m ≤ 8 := by omega
 have HM := hid hm
 clear hm
 go_enter Tryz.func8, Tryz.ntmps8
 go_wp2_with fail
 refine HA.out.mono ?_
 rintro e w0 ⟨rfl, hf0⟩
 have HF0 := hid hf0
 clear hf0 HA
 go_wp2_with fail
 refine (kruled_any w0 a n c l m HR.out.1 (HR.out.2.1.fr HF0.out) HR.out.2.2 HM.out.symm).mono ?_
 rintro e w1 ⟨⟨v, rfl, hov, _⟩, hf1⟩
 have HF1 := hid (HF0.out.trans hf1)
 obtain ⟨ra, rc, e⟩ := ownsRow_len hov
 subst e
 have HST : Hid (StrsAt w1 ra (rlL l m)) := strsAt_row (l := rlL l m) (by rw [rlL_len]; exact hov)
 clear hf1 hov HF0
 go_wp2_with fail
 refine (kwhole_any w1 ra m rc (rlL l m) (rlL_len l m) (by omega) HST.out (fun b hb => by
  obtain ⟨i, hi, rfl⟩ := List.mem_map.1 hb
  have h1 := rlT_len (i := i) (by have := List.mem_range.1 hi; omega) (rawK l i)
  rw [bs_size]
  omega)).mono ?_
 rintro e w' ⟨rfl, he⟩
 replace he := he.symm
 subst he
 obtain ⟨S, hS⟩ : ∃ S, bs (whT (rlL l m)) = S := ⟨_, rfl⟩
 have HSd : Hid (S.data.toList = routes3 ++ rsT l 0 m) := by show _ = _; rw [← hS, bs_data, whT_rl]
 have hsz : S.size ≤ 800 := by
  rw [← hS, bs_size, whT_rl]
  have := rsT_len l m 0 (by omega)
  simp [routes3]
  omega
 have HSr : Hid (readM S = .ok (rts3, rsM l 0 m)) := by show _ = _; rw [← hS]; exact base_read l m hm8
 rw [hS]
 clear hS HST
 go_wp2_with fail
 go_loopg [9, 10] S.size (fun mm ov iv wr => ∃ i O, i ≤ S.size ∧ mm = S.size - i ∧ iv = .int .i64 (i : Nat) ∧ ov = .string O ∧ O.size ≤ 8 + 16 * i ∧ Hid (O = bs (oH ++ odd X Y (S.data.toList.take i))) ∧ Hid (wr = w1))
 case atStart => exact ⟨0, bs oH, by omega, rfl, rfl, rfl, by decide, by show _ = _; simp [odd], rfl⟩
 case round =>
  obtain ⟨i, O, hin, rfl, rfl, rfl, hob, HO, HW⟩ := hrel
  have hwr := HW.out.symm
  subst hwr
  clear HW
  by_cases hlt : i < S.size
  ·have hki : (i : Int) < (S.size : Int) := by omega
   obtain ⟨cc, hcc⟩ : ∃ cc, S.data.toList[i]? = some cc := ⟨_, List.getElem?_eq_getElem (by simpa using hlt)⟩
   have hix := fun w => index_at (P := Tryz.prog) Tryz.underlying9 S i (i : Int) rfl hlt w
   rw [bAt_get hcc] at hix
   have HE := hid (ext1 hcc)
   have HOs := hid (odd_snoc (X := X) (Y := Y) hcc)
   clear hcc
   have hE1 : (S.extract i (i + 1)).size = 1 := by rw [HE.out]; rfl
   have hi1 : (i : Int) + 1 ≤ (S.size : Int) := by omega
   by_cases h32 : cc = 32
   ·have hf : oddF X Y cc = 32 :: X := by rw [h32]; rfl
    rw [h32] at HE
    rw [show (cc.toNat : Int) = 32 from by rw [h32]; rfl] at hix
    by_cases hq : 0 < q3
    ·have hqi : (0 : Int) < (q3 : Int) := by omega
     have HN : Hid ((O ++ S.extract i (i + 1)) ++ ⟨#[9, 32]⟩ = bs (oH ++ odd X Y (S.data.toList.take (i + 1)))) := by
      show _ = _
      rw [HO.out, HOs.out, hf, HE.out, show X = [9, 32] from by rw [← HX.out, decide_eq_true hq]; rfl, show (⟨#[9, 32]⟩ : ByteArray) = bs [9, 32] from rfl]
      simp [bs_append]
     clear h32 hf HOs HE
     go_wp2_with fail
     refine (HP3.out _).mono ?_
     rintro e w' ⟨rfl, he⟩
     replace he := he.symm
     subst he
     go_wp2_with fail
     go_roundg (S.size - (i + 1))
     case measure => omega
     case rel => exact ⟨i + 1, _, by omega, rfl, by go_num, rfl, by rw [ByteArray.size_append, ByteArray.size_append, hE1]; show O.size + 1 + 2 ≤ _; omega, HN, rfl⟩
    ·have hqi : ¬ (0 : Int) < (q3 : Int) := by omega
     have HN : Hid (O ++ S.extract i (i + 1) = bs (oH ++ odd X Y (S.data.toList.take (i + 1)))) := by
      show _ = _
      rw [HO.out, HOs.out, hf, HE.out, show X = [] from by rw [← HX.out, decide_eq_false hq]; rfl]
      simp [bs_append]
     clear h32 hf HOs HE
     go_wp2_with fail
     refine (HP3.out _).mono ?_
     rintro e w' ⟨rfl, he⟩
     replace he := he.symm
     subst he
     go_wp2_with fail
     go_roundg (S.size - (i + 1))
     case measure => omega
     case rel => exact ⟨i + 1, _, by omega, rfl, by go_num, rfl, by rw [ByteArray.size_append, hE1]; omega, HN, rfl⟩
   ·by_cases h59 : cc = 59
    ·have hf : oddF X Y cc = 59 :: Y := by rw [h59]; rfl
     rw [h59] at HE
     rw [show (cc.toNat : Int) = 59 from by rw [h59]; rfl] at hix
     by_cases hq : 0 < q2
     ·have hqi : (0 : Int) < (q2 : Int) := by omega
      have HN : Hid ((O ++ S.extract i (i + 1)) ++ ⟨#[32, 35, 32, 115, 111, 59, 32, 105, 116, 32, 105, 115, 10]⟩ = bs (oH ++ odd X Y (S.data.toList.take (i + 1)))) := by
       show _ = _
       rw [HO.out, HOs.out, hf, HE.out, show Y = [32, 35, 32, 115, 111, 59, 32, 105, 116, 32, 105, 115, 10] from by rw [← HY.out, decide_eq_true hq]; rfl, show (⟨#[32, 35, 32, 115, 111, 59, 32, 105, 116, 32, 105, 115, 10]⟩ : ByteArray) = bs [32, 35, 32, 115, 111, 59, 32, 105, 116, 32, 105, 115, 10] from rfl]
       simp [bs_append]
      clear h32 h59 hf HOs HE
      go_wp2_with fail
      refine (HP2.out _).mono ?_
      rintro e w' ⟨rfl, he⟩
      replace he := he.symm
      subst he
      go_wp2_with fail
      go_roundg (S.size - (i + 1))
      case measure => omega
      case rel => exact ⟨i + 1, _, by omega, rfl, by go_num, rfl, by rw [ByteArray.size_append, ByteArray.size_append, hE1]; show O.size + 1 + 13 ≤ _; omega, HN, rfl⟩
     ·have hqi : ¬ (0 : Int) < (q2 : Int) := by omega
      have HN : Hid (O ++ S.extract i (i + 1) = bs (oH ++ odd X Y (S.data.toList.take (i + 1)))) := by
       show _ = _
       rw [HO.out, HOs.out, hf, HE.out, show Y = [] from by rw [← HY.out, decide_eq_false hq]; rfl]
       simp [bs_append]
      clear h32 h59 hf HOs HE
      go_wp2_with fail
      refine (HP2.out _).mono ?_
      rintro e w' ⟨rfl, he⟩
      replace he := he.symm
      subst he
      go_wp2_with fail
      go_roundg (S.size - (i + 1))
      case measure => omega
      case rel => exact ⟨i + 1, _, by omega, rfl, by go_num, rfl, by rw [ByteArray.size_append, hE1]; omega, HN, rfl⟩
    ·have hf : oddF X Y cc = [cc] := by unfold oddF; rw [if_neg h32, if_neg h59]
     have n32 : ((cc.toNat : Int) == 32) = false := c_ne (k := 32) (by decide) h32
     have n59 : ((cc.toNat : Int) == 59) = false := c_ne (k := 59) (by decide) h59
     have HN : Hid (O ++ S.extract i (i + 1) = bs (oH ++ odd X Y (S.data.toList.take (i + 1)))) := by
      show _ = _
      rw [HOs.out, hf, HE.out, HO.out]
      simp [bs_append]
     generalize (cc.toNat : Int) = cv at *
     clear h32 h59 hf HOs HE
     go_wp2_with fail
     go_roundg (S.size - (i + 1))
     case measure => omega
     case rel => exact ⟨i + 1, _, by omega, rfl, by go_num, rfl, by rw [ByteArray.size_append, hE1]; omega, HN, rfl⟩
  ·have hki : ¬ (i : Int) < (S.size : Int) := by omega
   have HOe : Hid (O = bs (oH ++ odd X Y (routes3 ++ rsT l 0 m))) := by
    show _ = _
    rw [HO.out, List.take_of_length_le (by simp; omega), HSd.out]
   have hob2 : O.size ≤ 20000 := by omega
   clear HO hlt hin hob
   go_upto_if 60 with fail
   go_cut [9] (fun v wx => ∃ O2 : ByteArray, v = .string O2 ∧ Hid (readM O2 = .ok (rts3, rsM l 0 m)) ∧ wx = w1)
   case first =>
    by_cases hbig : 3000 < O.size
    ·have hbi : (3000 : Int) < (O.size : Int) := by omega
     go_wp2_with fail
     go_meet
     exact ⟨S, rfl, HSr, rfl⟩
    ·have hbi : ¬ (3000 : Int) < (O.size : Int) := by omega
     have HOr : Hid (readM O = .ok (rts3, rsM l 0 m)) := by
      show _ = _
      rw [HOe.out, ← HX.out, ← HY.out]
      exact odd_read l m hm8 _ _ (by rw [HX.out, HY.out, ← bs_size, ← HOe.out]; omega)
     go_wp2_with fail
     go_meet
     exact ⟨O, rfl, HOr, rfl⟩
   case rest =>
    obtain ⟨O2, rfl, HO2, hwc⟩ := hcut
    replace hwc := hwc.symm
    subst hwc
    go_wp2_with fail
    refine (ktab_any S w1 _ HSr.out).mono ?_
    rintro e w2 ⟨⟨TT, rfl, hTT⟩, hf2⟩
    have HTT := hid hTT
    have HF2 := hid (HF1.out.trans hf2)
    clear hTT hf2 HF1
    go_wp2_with fail
    refine (ktab_any O2 w2 _ HO2.out).mono ?_
    rintro e w3 ⟨⟨TU, rfl, hTU⟩, hf3⟩
    have HTU := hid hTU
    have HTT3 := hid (HTT.out.fr hf3)
    have HF3 := hid (HF2.out.trans hf3)
    clear hTU hf3 HF2 HTT
    go_wp2_with fail
    refine (kText_any w3 TT _ _ HTT3.out (HTab.out _ HF3.out)).mono ?_
    rintro e w4 ⟨rfl, hf4⟩
    have HTU4 := hid (HTU.out.fr hf4)
    have HTT4 := hid (HTT3.out.fr hf4)
    have HF4 := hid (HF3.out.trans hf4)
    clear hf4 HF3 HTT3 HTU
    have HQr := hid (plain_read l m hm8)
    have HTx : Hid (∀ (W : World) (T : Nat), Fr (fun _ => False) w W → TxAt W T rts3 (rsM l 0 m) → Calls Tryz.prog 17 #[.pointer (some ⟨T, 0, none⟩)] W fun e w' => e = .returned (.string (bs (bookJ rts3 (rsM l 0 m)))) ∧ Fr (fun _ => False) W w') := fun W T hf ht => kText_any W T _ _ ht (HTab.out _ hf)
    generalize bs (bookJ rts3 (rsM l 0 m)) = Q at *
    go_wp2_with fail
    refine (ktab_any Q w4 _ HQr.out).mono ?_
    rintro e w5 ⟨⟨TV, rfl, hTV⟩, hf5⟩
    have HTV := hid hTV
    have HTU5 := hid (HTU4.out.fr hf5)
    have HTT5 := hid (HTT4.out.fr hf5)
    have HF5 := hid (HF4.out.trans hf5)
    clear hTV hf5 HF4 HTT4 HTU4
    go_wp2_with fail
    refine (HTx.out w5 TV HF5.out HTV.out).mono ?_
    rintro e w6 ⟨rfl, hf6⟩
    have HTU6 := hid (HTU5.out.fr hf6)
    have HTT6 := hid (HTT5.out.fr hf6)
    have HTV6 := hid (HTV.out.fr hf6)
    have HF6 := hid (HF5.out.trans hf6)
    clear hf6 HF5 HTT5 HTU5 HTV
    go_wp2_with fail
    refine (HTx.out w6 TU HF6.out HTU6.out).mono ?_
    rintro e w7 ⟨rfl, hf7⟩
    have HTU7 := hid (HTU6.out.fr hf7)
    have HTT7 := hid (HTT6.out.fr hf7)
    have HTV7 := hid (HTV6.out.fr hf7)
    have HF7 := hid (HF6.out.trans hf7)
    clear hf7 HF6 HTT6 HTU6 HTV6 HTx
    go_wp2_with fail
    refine (kpayment_any w7 pa pn pc pl HPL.out.1 (HPL.out.2.1.fr HF7.out) HPL.out.2.2).mono ?_
    rintro e w8 ⟨⟨p, rfl, hpo, hps⟩, hf8⟩
    have HPS : Hid (p.pan.size ≤ maxLen) := by show _ ≤ _; unfold maxLen; omega
    have HF8 := hid (HF7.out.trans hf8)
    have HTU8 := hid (HTU7.out.1.fr hf8)
    have HTT8 := hid (HTT7.out.1.fr hf8)
    have HTV8 := hid (HTV7.out.1.fr hf8)
    clear hpo hps hf8 HF7 HTU7 HTT7 HTV7
    unfold payV
    have HB9 : Hid ((w8.alloc (.cells #[.string p.pan, .int .i64 p.mcc, .int .i64 p.am, .int .i64 p.cur] 35)).heap[w8.heap.size]? = some (payO p)) := heap_alloc_new w8 (payO p)
    have HF9 : Hid (Fr (fun _ => False) w8 (w8.alloc (.cells #[.string p.pan, .int .i64 p.mcc, .int .i64 p.am, .int .i64 p.cur] 35))) := (Fr.refl _ _).alloc _
    go_upto_region 23 with fail
    generalize w8.alloc (.cells #[.string p.pan, .int .i64 p.mcc, .int .i64 p.am, .int .i64 p.cur] 35) = w9 at *
    obtain ⟨P, hP⟩ : ∃ P, w8.heap.size = P := ⟨_, rfl⟩
    rw [hP] at HB9
    rw [hP]
    clear hP
    obtain ⟨ob, hob⟩ : ∃ o, decM rts3 (rsM l 0 m) p (dnF rts3 []) = o := ⟨_, rfl⟩
    have HC : Hid (∀ (W : World) (T : Nat), TbAt W T rts3 (rsM l 0 m) → Calls Tryz.prog 19 #[.pointer (some ⟨T, 0, none⟩), .agg #[.string p.pan, .int .i64 p.mcc, .int .i64 p.am, .int .i64 p.cur], .slice none 0 0] W fun e w' => e = .returned (.agg #[.int .i64 (ob.1 : Nat), .string ob.2.1, .string ob.2.2]) ∧ Fr (fun _ => False) W w') := fun W T h1 => by
     have e := h1.decide0 p HPS.out
     rw [hob] at e
     exact e
    clear hob
    have HFw := hid (Fr.refl (fun _ => False) w9)
    have y0 := block_cell (HFw.out.whole HB9.out (by simp)) 0 _ rfl
    have y1 := block_cell (HFw.out.whole HB9.out (by simp)) 1 _ rfl
    have y2 := block_cell (HFw.out.whole HB9.out (by simp)) 2 _ rfl
    have y3 := block_cell (HFw.out.whole HB9.out (by simp)) 3 _ rfl
    go_wp2_with fail
    refine (HC.out _ _ (HTT8.out.fr (HF9.out.trans HFw.out))).mono ?_
    rintro e wa ⟨rfl, hfwa⟩
    clear y0 y1 y2 y3
    have HFa : Hid (Fr (fun _ => False) w9 (wa.alloc (.cells #[.int .i64 (ob.1 : Nat), .string ob.2.1, .string ob.2.2] 38))) := (HFw.out.trans hfwa).alloc _
    have HQA : Hid ((wa.alloc (.cells #[.int .i64 (ob.1 : Nat), .string ob.2.1, .string ob.2.2] 38)).heap[wa.heap.size]? = some (oK ob)) := heap_alloc_new wa (oK ob)
    have HSQA : Hid (Fr (fun _ => False) _ (wa.alloc (.cells #[.int .i64 (ob.1 : Nat), .string ob.2.1, .string ob.2.2] 38))) := hid (hfwa.alloc _)
    clear hfwa
    have y0 := block_cell (HFa.out.whole HB9.out (by simp)) 0 _ rfl
    have y1 := block_cell (HFa.out.whole HB9.out (by simp)) 1 _ rfl
    have y2 := block_cell (HFa.out.whole HB9.out (by simp)) 2 _ rfl
    have y3 := block_cell (HFa.out.whole HB9.out (by simp)) 3 _ rfl
    go_wp2_with fail
    refine (HC.out _ _ (HTU8.out.fr (HF9.out.trans HFa.out))).mono ?_
    rintro e wb ⟨rfl, hfwb⟩
    clear y0 y1 y2 y3
    have HFb : Hid (Fr (fun _ => False) w9 (wb.alloc (.cells #[.int .i64 (ob.1 : Nat), .string ob.2.1, .string ob.2.2] 38))) := (HFa.out.trans hfwb).alloc _
    have HQB : Hid ((wb.alloc (.cells #[.int .i64 (ob.1 : Nat), .string ob.2.1, .string ob.2.2] 38)).heap[wb.heap.size]? = some (oK ob)) := heap_alloc_new wb (oK ob)
    have HSQB : Hid (Fr (fun _ => False) _ (wb.alloc (.cells #[.int .i64 (ob.1 : Nat), .string ob.2.1, .string ob.2.2] 38))) := hid (hfwb.alloc _)
    clear hfwb
    have y0 := block_cell (HFb.out.whole HB9.out (by simp)) 0 _ rfl
    have y1 := block_cell (HFb.out.whole HB9.out (by simp)) 1 _ rfl
    have y2 := block_cell (HFb.out.whole HB9.out (by simp)) 2 _ rfl
    have y3 := block_cell (HFb.out.whole HB9.out (by simp)) 3 _ rfl
    go_wp2_with fail
    refine (HC.out _ _ (HTV8.out.fr (HF9.out.trans HFb.out))).mono ?_
    rintro e wd ⟨rfl, hfwd⟩
    clear y0 y1 y2 y3
    have HFd : Hid (Fr (fun _ => False) w9 (wd.alloc (.cells #[.int .i64 (ob.1 : Nat), .string ob.2.1, .string ob.2.2] 38))) := (HFb.out.trans hfwd).alloc _
    have HQD : Hid ((wd.alloc (.cells #[.int .i64 (ob.1 : Nat), .string ob.2.1, .string ob.2.2] 38)).heap[wd.heap.size]? = some (oK ob)) := heap_alloc_new wd (oK ob)
    have HSQD : Hid (Fr (fun _ => False) _ (wd.alloc (.cells #[.int .i64 (ob.1 : Nat), .string ob.2.1, .string ob.2.2] 38))) := hid (hfwd.alloc _)
    clear hfwd
    go_upto_region 26 with fail
    have fB := HSQD.out
    have fA := HSQB.out.trans fB
    have bD := HQD.out
    have bB := fB.whole HQB.out (by simp)
    have bA := fA.whole HQA.out (by simp)
    have HFin := hid ((HF8.out.trans HF9.out).trans HFd.out)
    generalize wd.alloc (.cells #[.int .i64 (ob.1 : Nat), .string ob.2.1, .string ob.2.2] 38) = W at *
    obtain ⟨b1, b2, b3⟩ := ob
    have A0 : W.cell? ⟨wa.heap.size, 0, none⟩ = some (.int .i64 (b1 : Nat)) := block_cell bA 0 _ rfl
    have A1 : W.cell? ⟨wa.heap.size, 1, none⟩ = some (.string b2) := block_cell bA 1 _ rfl
    have A2 : W.cell? ⟨wa.heap.size, 2, none⟩ = some (.string b3) := block_cell bA 2 _ rfl
    have B0 : W.cell? ⟨wb.heap.size, 0, none⟩ = some (.int .i64 (b1 : Nat)) := block_cell bB 0 _ rfl
    have B1 : W.cell? ⟨wb.heap.size, 1, none⟩ = some (.string b2) := block_cell bB 1 _ rfl
    have B2 : W.cell? ⟨wb.heap.size, 2, none⟩ = some (.string b3) := block_cell bB 2 _ rfl
    have D0 : W.cell? ⟨wd.heap.size, 0, none⟩ = some (.int .i64 (b1 : Nat)) := block_cell bD 0 _ rfl
    have D1 : W.cell? ⟨wd.heap.size, 1, none⟩ = some (.string b2) := block_cell bD 1 _ rfl
    have D2 : W.cell? ⟨wd.heap.size, 2, none⟩ = some (.string b3) := block_cell bD 2 _ rfl
    clear bA bB bD fA fB HSQA HSQB HSQD HQA HQB HQD HFa HFb HFd HFw HC HTT8 HTU8 HTV8 HB9 HF8 HF9
    go_wp2_with fail
    go_ret
    exact ⟨rfl, HFin.out⟩
end Go.Proofs.YtccikgogjfbpeaaGreatDoor
