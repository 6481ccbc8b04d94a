/- The keep Ranged, walked. -/
import Derived.Test.YtccikgogjfbpeaaHa
import Derived.Test.YtccikgogjfbpeaaKc
import Derived.Deep.DeepCutAuto
namespace Go.Proofs.Ytccikgogjfbpeaa
open Go.RowKit

def nF (a f t : Nat) (k : Nat) : Int := [(a : Int), (f : Int), (t : Int), (f : Int) - 1, (t : Int) + 1].getD k 0
theorem nF_bound {a f t Z : Nat} (ha : a < Z) (hf : f ≤ t) (ht : t < Z) {k : Nat} (hk : k < 5) : -1 ≤ nF a f t k ∧ nF a f t k ≤ Z := by
 have : k = 0 ∨ k = 1 ∨ k = 2 ∨ k = 3 ∨ k = 4 := by omega
 rcases this with rfl | rfl | rfl | rfl | rfl <;> simp [nF] <;> omega
theorem nF_cell (w : World) (a f t : Nat) {k : Nat} (hk : k < 5) : (w.alloc (.cells #[.int .i64 (a : Int), .int .i64 (f : Int), .int .i64 (t : Int), .int .i64 ((f : Int) - 1), .int .i64 ((t : Int) + 1)] 3)).cell? ⟨w.heap.size, k, none⟩ = some (.int .i64 (nF a f t k)) := by
 have b := heap_alloc_new w (.cells #[.int .i64 (a : Int), .int .i64 (f : Int), .int .i64 (t : Int), .int .i64 ((f : Int) - 1), .int .i64 ((t : Int) + 1)] 3)
 have : k = 0 ∨ k = 1 ∨ k = 2 ∨ k = 3 ∨ k = 4 := by omega
 rcases this with rfl | rfl | rfl | rfl | rfl
 ·exact block_cell b 0 _ rfl
 ·exact block_cell b 1 _ rfl
 ·exact block_cell b 2 _ rfl
 ·exact block_cell b 3 _ rfl
 ·exact block_cell b 4 _ rfl
theorem rg_text (lo hi : List UInt8) : (((bs rgH ++ bs lo) ++ ⟨#[46, 46]⟩) ++ bs hi) ++ ⟨#[32, 45, 62, 32, 98, 59]⟩ = bs (rgH ++ (lo ++ ([46, 46] ++ (hi ++ [32, 45, 62, 32, 98, 59])))) := by
 rw [show (⟨#[46, 46]⟩ : ByteArray) = bs [46, 46] from rfl, show (⟨#[32, 45, 62, 32, 98, 59]⟩ : ByteArray) = bs [32, 45, 62, 32, 98, 59] from rfl]
 simp only [bs_append, List.append_assoc]
theorem digL_le : ∀ (w n : Nat), n < 10 ^ (w + 1) → (digL n w).length ≤ w + 1
 | 0, n, h => by
  by_cases h0 : n = 0
  ·rw [h0, digL_zero]; simp
  ·rw [digL_step (by omega), show n / 10 = 0 from by simp at h; omega, show 0 - 1 = 0 from rfl, digL_zero]; simp
 | w + 1, n, h => by
  have := digL_le w (n / 10) (by rw [Nat.pow_succ] at h; omega)
  rw [digL_step (by omega), List.length_append, show w + 1 - 1 = w from rfl]
  simp only [List.length_singleton]
  omega
theorem pow_le6 {k : Nat} (h : k ≤ 6) : 10 ^ k ≤ 1000000 := Nat.pow_le_pow_right (by decide) h
/-- The card of a round: digits, then more digits, at most nineteen. -/
structure PanS (S : ByteArray) (n wd : Nat) : Prop where
 hd : ∃ r, S.data.toList = digL n wd ++ r
 lo : 6 ≤ S.size
 dg : ∀ x, x ∈ S.data.toList → 48 ≤ x.toNat ∧ x.toNat ≤ 57
theorem PanS.cut {S : ByteArray} {n wd : Nat} (h : PanS S n wd) (hn : n < 10 ^ wd) (hw : wd ≤ 6) (hs : 19 < S.size) : PanS (S.extract 0 19) n wd := by
 obtain ⟨⟨r, hr⟩, h2, h3⟩ := h
 have e : (S.extract 0 19).data.toList = S.data.toList.take 19 := by rw [Lib.extract_data]; simp
 refine ⟨⟨r.take (19 - wd), ?_⟩, by rw [ByteArray.size_extract]; omega, fun x hx => h3 x ?_⟩
 ·rw [e, hr, List.take_append, digL_len wd n hn, List.take_of_length_le (by rw [digL_len wd n hn]; omega)]
 ·rw [e] at hx
  exact List.mem_of_mem_take hx
theorem panS_mk {n wd m : Nat} (hn : n < 10 ^ wd) (h1 : 1 ≤ wd) : PanS (bs (digL n wd) ++ bs (digL m 6)) n wd := by
 rw [bs_append]
 refine ⟨⟨_, rfl⟩, ?_, fun x hx => ?_⟩
 ·have := digL_ge m 6
  rw [bs_size, List.length_append, digL_len wd n hn]
  omega
 ·rcases List.mem_append.1 hx with hx | hx
  ·exact digL_dg _ n wd rfl x hx
  ·exact digL_dg _ m 6 rfl x hx
theorem PanS.more {S : ByteArray} {n wd : Nat} (h : PanS S n wd) (m q : Nat) : PanS (S ++ bs (digL m q)) n wd := by
 obtain ⟨⟨r, hr⟩, h2, h3⟩ := h
 have e : (S ++ bs (digL m q)).data.toList = S.data.toList ++ digL m q := by rw [ByteArray.data_append, Array.toList_append]
 refine ⟨⟨r ++ digL m q, by rw [e, hr, List.append_assoc]⟩, by rw [ByteArray.size_append]; omega, fun x hx => ?_⟩
 rw [e] at hx
 rcases List.mem_append.1 hx with hx | hx
 ·exact h3 x hx
 ·exact digL_dg _ m q rfl x hx
set_option maxRecDepth 30000 in
set_option maxHeartbeats 8000000 in
theorem Ranged_any (w : World) (i1 i2 i3 i4 i5 : Int) (h1 : -9223372036854775808 ≤ i1 ∧ i1 ≤ 9223372036854775807) (h2 : -9223372036854775808 ≤ i2 ∧ i2 ≤ 9223372036854775807) (h3 : -9223372036854775808 ≤ i3 ∧ i3 ≤ 9223372036854775807) (h4 : -9223372036854775808 ≤ i4 ∧ i4 ≤ 9223372036854775807) (h5 : -9223372036854775808 ≤ i5 ∧ i5 ≤ 9223372036854775807) :
  Calls Try.prog 3 #[.int .i64 i1, .int .i64 i2, .int .i64 i3, .int .i64 i4, .int .i64 i5] w fun e w' => e = .returned (.bool true) ∧ Fr (fun _ => False) w w' := by
 have HA := hid (kawake_any w)
 have HP : Hid (∀ (c nv : Int) (n : Nat) (w : World), -9223372036854775808 ≤ c → c ≤ 9223372036854775807 → nv = n → 0 < n → n ≤ 10000000000 → Calls Try.prog 5 #[.int .i64 c, .int .i64 nv] w fun e w' => e = .returned (.int .i64 (pickK c n)) ∧ w' = w) := fun c nv n w h1 h2 e h3 h4 => by subst e; exact kpick_any c n w h1 h2 h3 h4
 have HG : Hid (∀ (n wd : Nat) (nv wv : Int) (w : World), nv = n → wv = wd → n ≤ 10000000000 → wd ≤ 1000 → Calls Try.prog 7 #[.int .i64 nv, .int .i64 wv] w fun e w' => e = .returned (.string (bs (digL n wd))) ∧ Fr (fun _ => False) w w') := fun n wd nv wv w e1 e2 h1 h2 => by subst e1 e2; exact kdigits_any n wd w h1 h2
 have HI : Hid ((-9223372036854775808 ≤ i1 ∧ i1 ≤ 9223372036854775807) ∧ (-9223372036854775808 ≤ i2 ∧ i2 ≤ 9223372036854775807) ∧ (-9223372036854775808 ≤ i3 ∧ i3 ≤ 9223372036854775807) ∧ (-9223372036854775808 ≤ i4 ∧ i4 ≤ 9223372036854775807) ∧ (-9223372036854775808 ≤ i5 ∧ i5 ≤ 9223372036854775807)) := ⟨h1, h2, h3, h4, h5⟩
 clear h1 h2 h3 h4 h5
 go_enter Try.func3, Try.ntmps3
 go_wp2_with fail
 refine HA.out.mono ?_
 rintro e w0 ⟨rfl, hf0⟩
 have HF0 := hid hf0
 clear hf0 HA
 go_wp2_with fail
 refine (HP.out i1 6 6 _ HI.out.1.1 HI.out.1.2 rfl (by decide) (by decide)).mono ?_
 rintro e w' ⟨rfl, he⟩
 replace he := he.symm
 subst he
 obtain ⟨q, hq⟩ : ∃ q, pickK i1 6 = q := ⟨_, rfl⟩
 have hq6 : q < 6 := by rw [← hq]; exact pickK_lt i1 6 (by decide)
 obtain ⟨wd, hwd⟩ : ∃ wd, 1 + q = wd := ⟨_, rfl⟩
 rw [hq]
 have hqi : (1 : Int) + (q : Int) = (wd : Int) := by omega
 have hw1 : 1 ≤ wd := by omega
 have hw6 : wd ≤ 6 := by omega
 go_wp2_with fail
 clear hq
 try rw [hqi]
 clear hqi hq6 hwd
 go_loop [12, 13] (fun zv kv => ∃ k : Nat, k ≤ wd ∧ zv = .int .i64 ((10 ^ k : Nat) : Int) ∧ kv = .int .i64 (k : Nat)) (fun _ kv => wd - (intOf kv).toNat)
 case atStart => exact ⟨0, by omega, rfl, rfl⟩
 case round =>
  obtain ⟨k, hk, rfl, rfl⟩ := hrel
  by_cases hlt : k < wd
  ·have hki : (k : Int) < (wd : Int) := by omega
   obtain ⟨P, hP⟩ : ∃ P, 10 ^ k = P := ⟨_, rfl⟩
   have hPb : P ≤ 1000000 := by rw [← hP]; exact pow_le6 (by omega)
   rw [hP]
   go_wp2_with fail
   exact ⟨⟨k + 1, by omega, by rw [Nat.pow_succ, hP]; simp, by go_num⟩, by simp [intOf]; omega⟩
  ·have hki : ¬ (k : Int) < (wd : Int) := by omega
   have hkw : wd = k := by omega
   subst hkw
   obtain ⟨Z, hZ⟩ : ∃ Z, 10 ^ wd = Z := ⟨_, rfl⟩
   have hZb : Z ≤ 1000000 := by rw [← hZ]; exact pow_le6 hw6
   have hZ0 : 0 < Z := by rw [← hZ]; exact Nat.pow_pos (by decide)
   rw [hZ]
   have HZ := hid hZ
   clear hZ hlt hk
   go_wp2_with fail
   refine (HP.out i2 _ Z _ HI.out.2.1.1 HI.out.2.1.2 rfl hZ0 (by omega)).mono ?_
   rintro e w' ⟨rfl, he⟩
   replace he := he.symm
   subst he
   obtain ⟨f, hf⟩ : ∃ f, pickK i2 Z = f := ⟨_, rfl⟩
   have hfZ : f < Z := by rw [← hf]; exact pickK_lt i2 Z hZ0
   rw [hf]
   clear hf
   go_wp2_with fail
   refine (HP.out i3 _ (Z - f) _ HI.out.2.2.1.1 HI.out.2.2.1.2 (by omega) (by omega) (by omega)).mono ?_
   rintro e w' ⟨rfl, he⟩
   replace he := he.symm
   subst he
   obtain ⟨d, hd⟩ : ∃ d, pickK i3 (Z - f) = d := ⟨_, rfl⟩
   have hdZ : d < Z - f := by rw [← hd]; exact pickK_lt i3 (Z - f) (by omega)
   rw [hd]
   obtain ⟨t, ht⟩ : ∃ t, f + d = t := ⟨_, rfl⟩
   have hti : (f : Int) + (d : Int) = (t : Int) := by omega
   have htZ : t < Z := by omega
   have hft : f ≤ t := by omega
   clear hd
   go_wp2_with fail
   try rw [hti]
   clear hti ht hdZ
   refine (HG.out f wd _ _ _ rfl rfl (by omega) (by omega)).mono ?_
   rintro e wA ⟨rfl, hfA⟩
   obtain ⟨D1, hD1⟩ : ∃ D1, bs (digL f wd) = D1 := ⟨_, rfl⟩
   have hs1 : D1.size = wd := by rw [← hD1, bs_size, digL_len wd f (by rw [HZ.out]; exact hfZ)]
   rw [hD1]
   have HFA := hid (HF0.out.trans hfA)
   have HD1 := hid hD1
   clear hfA HF0 hD1
   go_wp2_with fail
   refine (HG.out t wd _ _ _ rfl rfl (by omega) (by omega)).mono ?_
   rintro e wB ⟨rfl, hfB⟩
   obtain ⟨D2, hD2⟩ : ∃ D2, bs (digL t wd) = D2 := ⟨_, rfl⟩
   have hs2 : D2.size = wd := by rw [← hD2, bs_size, digL_len wd t (by rw [HZ.out]; exact htZ)]
   rw [hD2]
   have HFB := hid (HFA.out.trans hfB)
   have HT : Hid (Calls Try.prog 6 #[.string ((((bs rgH ++ D1) ++ ⟨#[46, 46]⟩) ++ D2) ++ ⟨#[32, 45, 62, 32, 98, 59]⟩)] wB fun e w' => (∃ T, e = .returned (.pointer (some ⟨T, 0, none⟩)) ∧ TbAt w' T rts3 (rgL (digL f wd) (digL t wd))) ∧ Fr (fun _ => False) wB w') := by
    show Calls _ _ _ _ _
    rw [← HD1.out, ← hD2, rg_text]
    exact ktable_any _ wB _ (rg_read (digL_DgL (by rw [HZ.out]; exact hfZ) hw1 (by omega)) (digL_DgL (by rw [HZ.out]; exact htZ) hw1 (by omega)) (by rw [digL_len wd f (by rw [HZ.out]; exact hfZ)]; exact hw6) (by rw [digL_len wd f (by rw [HZ.out]; exact hfZ), digL_len wd t (by rw [HZ.out]; exact htZ)]) (by rw [digL_num _ f wd rfl, digL_num _ t wd rfl]; exact hft))
   unfold rgH at HT
   clear hfB HFA hD2 HD1
   go_wp2_with fail
   refine HT.out.mono ?_
   rintro e w1 ⟨⟨T, rfl, hT⟩, hf1⟩
   have HTB := hid hT
   have HF1 := hid (HFB.out.trans hf1)
   clear hT hf1 HT HFB hs1 hs2
   have HZB : Hid (f < 10 ^ wd ∧ t < 10 ^ wd) := ⟨by rw [HZ.out]; exact hfZ, by rw [HZ.out]; exact htZ⟩
   go_wp2_with fail
   go_loopg [15, 16, 17, 18, 19] 5 (fun m kv _ _ _ _ wr => ∃ k, k ≤ 5 ∧ m = 5 - k ∧ kv = .int .i64 (k : Nat) ∧ Hid (Fr (fun _ => False) w1 wr))
   case atStart => exact ⟨0, by omega, rfl, rfl, Fr.refl _ _⟩
   case round =>
    obtain ⟨k, hk, rfl, rfl, HFr⟩ := hrel
    by_cases hlt : k < 5
    ·have hki : (k : Int) < 5 := by omega
     go_wp2_with fail
     refine (HP.out i4 _ Z _ HI.out.2.2.2.1.1 HI.out.2.2.2.1.2 rfl hZ0 (by omega)).mono ?_
     rintro e w' ⟨rfl, he⟩
     replace he := he.symm
     subst he
     obtain ⟨a, ha⟩ : ∃ a, pickK i4 Z = a := ⟨_, rfl⟩
     have haZ : a < Z := by rw [← ha]; exact pickK_lt i4 Z hZ0
     rw [ha]
     clear ha
     have hcl := nF_cell wr a f t hlt
     have hnb := nF_bound haZ hft htZ hlt
     have HFk : Hid (Fr (fun _ => False) w1 (wr.alloc (.cells #[.int .i64 (a : Int), .int .i64 (f : Int), .int .i64 (t : Int), .int .i64 ((f : Int) - 1), .int .i64 ((t : Int) + 1)] 3))) := HFr.out.alloc _
     generalize nF a f t k = N at hcl hnb
     by_cases hn0 : N < 0
     ·go_wp2_with fail
      go_roundg (5 - (k + 1))
      case measure => omega
      case rel => exact ⟨k + 1, by omega, rfl, by go_num, HFk⟩
     ·by_cases hnz : (Z : Int) ≤ N
      ·go_wp2_with fail
       go_roundg (5 - (k + 1))
       case measure => omega
       case rel => exact ⟨k + 1, by omega, rfl, by go_num, HFk⟩
      ·obtain ⟨n, rfl⟩ : ∃ n : Nat, N = (n : Int) := ⟨N.toNat, by omega⟩
       have hnZ : n < Z := by omega
       go_wp2_with fail
       clear hcl hnb
       generalize wr.alloc (.cells #[.int .i64 (a : Int), .int .i64 (f : Int), .int .i64 (t : Int), .int .i64 ((f : Int) - 1), .int .i64 ((t : Int) + 1)] 3) = wk at *
       refine (HG.out n wd _ _ _ rfl rfl (by omega) (by omega)).mono ?_
       rintro e wC ⟨rfl, hfC⟩
       have HFC := hid (HFk.out.trans hfC)
       clear hfC HFk
       go_wp2_with fail
       refine (HP.out i5 1000000 1000000 _ HI.out.2.2.2.2.1 HI.out.2.2.2.2.2 rfl (by decide) (by decide)).mono ?_
       rintro e w' ⟨rfl, he⟩
       replace he := he.symm
       subst he
       obtain ⟨m, hm⟩ : ∃ m, pickK i5 1000000 = m := ⟨_, rfl⟩
       have hmb : m < 1000000 := by rw [← hm]; exact pickK_lt i5 1000000 (by decide)
       rw [hm]
       clear hm
       go_wp2_with fail
       refine (HG.out m 6 _ _ _ rfl rfl (by omega) (by omega)).mono ?_
       rintro e wD ⟨rfl, hfD⟩
       have HFD := hid (HFC.out.trans hfD)
       have HPn : Hid (PanS (bs (digL n wd) ++ bs (digL m 6)) n wd) := panS_mk (by rw [HZ.out]; exact hnZ) hw1
       have hl1 : (bs (digL n wd)).size = wd := by rw [bs_size, digL_len wd n (by rw [HZ.out]; exact hnZ)]
       have hl2 : (bs (digL m 6)).size = 6 := by rw [bs_size, digL_len 6 m (by omega)]
       generalize bs (digL n wd) = E1 at *
       generalize bs (digL m 6) = E2 at *
       clear hfD HFC
       have HDd : Hid (∃ out, out = (if f ≤ n ∧ n ≤ t then (0, bs [120], bs [98]) else (2, ByteArray.empty, ByteArray.empty)) ∧ ∀ S W, Fr (fun _ => False) w1 W → PanS S n wd → S.size ≤ 19 → Calls Try.prog 8 #[.pointer (some ⟨T, 0, none⟩), .agg #[.string S, .int .i64 0, .int .i64 0, .int .i64 (pickK i5 1000)], .slice none 0 0] W fun e w' => e = .returned (.agg #[.int .i64 (out.1 : Nat), .string out.2.1, .string out.2.2]) ∧ Fr (fun _ => False) W w') := by
        refine ⟨_, rfl, fun S W hf hS h19 => ?_⟩
        obtain ⟨r, hr⟩ := hS.hd
        have hp3 := pickK_lt i5 1000 (by decide)
        have e := (HTB.out.fr hf).decide0 ⟨S, 0, 0, pickK i5 1000⟩ (by show S.size ≤ _; unfold maxLen; omega)
        rw [rg_dec HZB.out.1 (by rw [HZ.out]; exact hnZ) hw6 hr hS.lo h19 hS.dg ⟨by omega, by omega⟩] at e
        exact e
       obtain ⟨out, HO, HDd⟩ : ∃ out, Hid (out = (if f ≤ n ∧ n ≤ t then (0, bs [120], bs [98]) else (2, ByteArray.empty, ByteArray.empty))) ∧ Hid (∀ S W, Fr (fun _ => False) w1 W → PanS S n wd → S.size ≤ 19 → Calls Try.prog 8 #[.pointer (some ⟨T, 0, none⟩), .agg #[.string S, .int .i64 0, .int .i64 0, .int .i64 (pickK i5 1000)], .slice none 0 0] W fun e w' => e = .returned (.agg #[.int .i64 (out.1 : Nat), .string out.2.1, .string out.2.2]) ∧ Fr (fun _ => False) W w') := HDd.out
       go_wp2_with fail
       refine (HP.out i5 20 20 _ HI.out.2.2.2.2.1 HI.out.2.2.2.2.2 rfl (by decide) (by decide)).mono ?_
       rintro e w' ⟨rfl, he⟩
       replace he := he.symm
       subst he
       obtain ⟨q2, hq2⟩ : ∃ q2, pickK i5 20 = q2 := ⟨_, rfl⟩
       have hqb : q2 < 20 := by rw [← hq2]; exact pickK_lt i5 20 (by decide)
       have hsz : (E1 ++ E2).size = wd + 6 := by rw [ByteArray.size_append, hl1, hl2]
       generalize E1 ++ E2 = S at *
       rw [hq2]
       go_upto_if 93 with fail
       go_cut [17] (fun v wx => ∃ S : ByteArray, v = .string S ∧ S.size ≤ 32 ∧ Hid (PanS S n wd) ∧ Hid (Fr (fun _ => False) w1 wx))
       case first =>
        by_cases hfit : (wd : Int) + (q2 : Int) ≤ 19
        ·go_wp2_with fail
         refine (HP.out i5 10 10 _ HI.out.2.2.2.2.1 HI.out.2.2.2.2.2 rfl (by decide) (by decide)).mono ?_
         rintro e w' ⟨rfl, he⟩
         replace he := he.symm
         subst he
         obtain ⟨m2, hm2⟩ : ∃ m2, pickK i5 10 = m2 := ⟨_, rfl⟩
         have hm2b : m2 < 10 := by rw [← hm2]; exact pickK_lt i5 10 (by decide)
         rw [hm2]
         clear hm2
         go_wp2_with fail
         refine (HP.out i5 20 20 _ HI.out.2.2.2.2.1 HI.out.2.2.2.2.2 rfl (by decide) (by decide)).mono ?_
         rintro e w' ⟨rfl, he⟩
         replace he := he.symm
         subst he
         rw [hq2]
         go_wp2_with fail
         refine (HG.out m2 q2 _ _ _ rfl rfl (by omega) (by omega)).mono ?_
         rintro e wE ⟨rfl, hfE⟩
         have HFk := hid (HFD.out.trans hfE)
         have HPm := hid (HPn.out.more m2 q2)
         have hl3 : (bs (digL m2 q2)).size ≤ 20 := by
          have := digL_le q2 m2 (by rw [Nat.pow_succ]; have := Nat.pow_pos (n := q2) (show 0 < 10 by decide); omega)
          rw [bs_size]; omega
         generalize bs (digL m2 q2) = E3 at *
         have hs3 : (S ++ E3).size ≤ 32 := by rw [ByteArray.size_append]; omega
         clear hfE HFD hq2
         go_wp2_with fail
         go_meet
         exact ⟨_, rfl, hs3, HPm, HFk⟩
        ·go_wp2_with fail
         go_meet
         exact ⟨S, rfl, by omega, HPn, HFD⟩
       case rest =>
        obtain ⟨S3, rfl, hs3, HP3, HF3⟩ := hcut
        clear HPn HFD hsz hl1 hl2 hq2 E1 E2 S
        generalize wc = w3 at *
        go_upto_if 103 with fail
        go_cut [17] (fun v wx => ∃ S : ByteArray, v = .string S ∧ S.size ≤ 19 ∧ Hid (PanS S n wd) ∧ Hid (Fr (fun _ => False) w1 wx))
        case first =>
         by_cases hbig : 19 < S3.size
         ·have hbi : (19 : Int) < (S3.size : Int) := by omega
          have HPc := hid (HP3.out.cut (by rw [HZ.out]; exact hnZ) hw6 hbig)
          have hcs : (S3.extract 0 19).size ≤ 19 := by rw [ByteArray.size_extract]; omega
          go_wp2_with fail
          go_meet
          exact ⟨_, rfl, hcs, HPc, HF3⟩
         ·have hbi : ¬ (19 : Int) < (S3.size : Int) := by omega
          go_wp2_with fail
          go_meet
          exact ⟨S3, rfl, by omega, HP3, HF3⟩
        case rest =>
         obtain ⟨S, rfl, hcs, HP4, HFk⟩ := hcut
         clear HP3 HF3 hs3 S3
         generalize wc = w4 at *
         have HDc := hid (HDd.out S w4 HFk.out HP4.out hcs)
         clear HDd
         go_wp2_with fail
         refine (HP.out i5 1000 1000 _ HI.out.2.2.2.2.1 HI.out.2.2.2.2.2 rfl (by decide) (by decide)).mono ?_
         rintro e w9 ⟨rfl, he⟩
         replace he := he.symm
         subst he
         go_wp2_with fail
         refine HDc.out.mono ?_
         rintro e w10 ⟨rfl, hf10⟩
         by_cases hin : f ≤ n ∧ n ≤ t
         ·have ho : out = (0, bs [120], bs [98]) := by rw [HO.out, if_pos hin]
          clear HO
          subst ho
          have bO := heap_alloc_new w10 (oK (0, bs [120], bs [98]))
          have HFn := hid ((HFk.out.trans hf10).alloc (oK (0, bs [120], bs [98])))
          have o0 : (w10.alloc (.cells #[.int .i64 0, .string ⟨#[120]⟩, .string ⟨#[98]⟩] 29)).cell? ⟨w10.heap.size, 0, none⟩ = some (.int .i64 0) := block_cell bO 0 _ rfl
          have o1 : (w10.alloc (.cells #[.int .i64 0, .string ⟨#[120]⟩, .string ⟨#[98]⟩] 29)).cell? ⟨w10.heap.size, 1, none⟩ = some (.string ⟨#[120]⟩) := block_cell bO 1 _ rfl
          have o2 : (w10.alloc (.cells #[.int .i64 0, .string ⟨#[120]⟩, .string ⟨#[98]⟩] 29)).cell? ⟨w10.heap.size, 2, none⟩ = some (.string ⟨#[98]⟩) := block_cell bO 2 _ rfl
          have c1 : (f : Int) ≤ (n : Int) := by omega
          have c2 : (n : Int) ≤ (t : Int) := by omega
          clear hin hf10 bO HDc
          go_wp2_with fail
          go_roundg (5 - (k + 1))
          case measure => omega
          case rel => exact ⟨k + 1, by omega, rfl, by go_num, HFn⟩
         ·have ho : out = (2, ByteArray.empty, ByteArray.empty) := by rw [HO.out, if_neg hin]
          clear HO
          subst ho
          have bO := heap_alloc_new w10 (oK (2, ByteArray.empty, ByteArray.empty))
          have HFn := hid ((HFk.out.trans hf10).alloc (oK (2, ByteArray.empty, ByteArray.empty)))
          have o0 : (w10.alloc (.cells #[.int .i64 2, .string ByteArray.empty, .string ByteArray.empty] 29)).cell? ⟨w10.heap.size, 0, none⟩ = some (.int .i64 2) := block_cell bO 0 _ rfl
          clear hf10 bO HDc
          by_cases c1 : (f : Int) ≤ (n : Int)
          ·have c2 : ¬ (n : Int) ≤ (t : Int) := by omega
           clear hin
           go_wp2_with fail
           go_roundg (5 - (k + 1))
           case measure => omega
           case rel => exact ⟨k + 1, by omega, rfl, by go_num, HFn⟩
          ·clear hin
           go_wp2_with fail
           go_roundg (5 - (k + 1))
           case measure => omega
           case rel => exact ⟨k + 1, by omega, rfl, by go_num, HFn⟩
    ·have hki : ¬ (k : Int) < 5 := by omega
     have HFe := hid (HF1.out.trans HFr.out)
     go_wp2_with fail
     go_ret
     exact ⟨rfl, HFe.out⟩
end Go.Proofs.Ytccikgogjfbpeaa
