/- The keeps: guards and actions of raw numbers. The keeps: actions; a rule's text of raw numbers; a payment. -/
import Derived.Test.YtccikgogjfbpeabGreatDoorWHa
import Derived.Test.YtccikgogjfbpeabGreatDoorWKc
import Derived.Deep.DeepCutAuto
namespace Go.Proofs.YtccikgogjfbpeabGreatDoor
open Go.RowKit
theorem InI.div {c : Int} (h : InI c) (k : Nat) (hk : 1 <= k) : InI (c.tdiv k) := by
 obtain ⟨h1, h2⟩ := h
 have h3 : (c.tdiv k).natAbs <= c.natAbs := by
  rw [Int.natAbs_tdiv]
  exact Nat.div_le_self _ _
 unfold InI
 by_cases hc : 0 <= c
 ·have := Int.tdiv_nonneg hc (show (0 : Int) <= (k : Int) by omega)
  omega
 ·have : c.tdiv k <= 0 := by
   have := Int.tdiv_nonneg (show 0 <= -c by omega) (show (0 : Int) <= (k : Int) by omega)
   rw [Int.neg_tdiv] at this
   omega
  omega
def gw (c : Int) : Nat := 1 + pickK c 3
def gf (c : Int) : Nat := pickK (c.tdiv 3) (10 ^ gw c)
def gt (c : Int) : Nat := gf c + pickK (c.tdiv 31) (10 ^ gw c - gf c)
def gMcc (c : Int) : List (List UInt8) := if pickK (c.tdiv 7) 3 = 1 then [digL (pickK (c.tdiv 11) 5) 1, digL (pickK (c.tdiv 13) 5) 1] else []
def gAm (c : Int) : Option (List UInt8 × List UInt8) := if pickK (c.tdiv 17) 3 = 1 then some (digL (pickK (c.tdiv 19) 50) 1, digL (pickK (c.tdiv 19) 50 + pickK (c.tdiv 23) 20) 1) else none
def gCur (c : Int) : List (List UInt8) := if pickK (c.tdiv 29) 3 = 1 then [digL (pickK (c.tdiv 37) 4) 1] else []
def gdR (c : Int) (nm rk : List UInt8) (dec ch : Bool) (rts : List (List UInt8)) : RuX := ⟨nm, rk, digL (gf c) (gw c), digL (gt c) (gw c), gMcc c, gAm c, gCur c, dec, ch, rts⟩
def gdT0 (c : Int) : List UInt8 := gX (gdR c [] [] false false [])
theorem gw_in (c : Int) : 1 <= gw c /\ gw c <= 3 := by
 have := pickK_lt c 3 (by decide)
 unfold gw
 omega
theorem pow_pos10 (k : Nat) : 0 < 10 ^ k := Nat.pow_pos (by decide)
theorem gf_lt (c : Int) : gf c < 10 ^ gw c := pickK_lt _ _ (pow_pos10 _)
theorem gt_lt (c : Int) : gf c <= gt c /\ gt c < 10 ^ gw c := by
 have h1 := gf_lt c
 have h2 := pickK_lt (c.tdiv 31) (10 ^ gw c - gf c) (by omega)
 unfold gt
 omega
theorem pow_le3 {k : Nat} (h : k <= 3) : 10 ^ k <= 1000 := Nat.pow_le_pow_right (by decide) h
theorem tx_len {n : Nat} (h : n < 100) : (digL n 1).length <= 2 := digL_le2 2 n 1 h (by decide)
def g0 (c : Int) : List UInt8 := [98, 105, 110, 32] ++ (digL (gf c) (gw c) ++ (46 :: 46 :: digL (gt c) (gw c)))
def g1 (c : Int) : List UInt8 := g0 c ++ gdX kwMcc (gMcc c)
def g2 (c : Int) : List UInt8 := g1 c ++ amX (gAm c)
def g3 (c : Int) : List UInt8 := g2 c ++ gdX kwCur (gCur c)
theorem g3_eq (c : Int) : g3 c = gdT0 c := by
 simp only [g3, g2, g1, g0, gdT0, gX, gdR, List.append_assoc, List.cons_append, List.nil_append]
theorem g0_len (c : Int) : (g0 c).length <= 12 := by
 have h1 := digL_len (gw c) (gf c) (gf_lt c)
 have h2 := digL_len (gw c) (gt c) (gt_lt c).2
 have := gw_in c
 simp only [g0, List.length_append, List.length_cons, List.length_nil, h1, h2]
 omega
theorem g1_len (c : Int) : (g1 c).length <= 24 := by
 have h := g0_len c
 unfold g1 gMcc gdX
 split
 ·have h1 := tx_len (n := pickK (c.tdiv 11) 5) (by have := pickK_lt (c.tdiv 11) 5 (by decide); omega)
  have h2 := tx_len (n := pickK (c.tdiv 13) 5) (by have := pickK_lt (c.tdiv 13) 5 (by decide); omega)
  simp [commaX, kwMcc]
  omega
 ·simp; omega
theorem g2_len (c : Int) : (g2 c).length <= 40 := by
 have h := g1_len c
 unfold g2 gAm amX
 by_cases e : pickK (c.tdiv 17) 3 = 1
 ·rw [if_pos e]
  have h1 := tx_len (n := pickK (c.tdiv 19) 50) (by have := pickK_lt (c.tdiv 19) 50 (by decide); omega)
  have h2 := tx_len (n := pickK (c.tdiv 19) 50 + pickK (c.tdiv 23) 20) (by have := pickK_lt (c.tdiv 19) 50 (by decide); have := pickK_lt (c.tdiv 23) 20 (by decide); omega)
  simp [kwAmount]
  omega
 ·rw [if_neg e]; simp; omega
theorem g3_len (c : Int) : (g3 c).length <= 50 := by
 have h := g2_len c
 unfold g3 gCur gdX
 split
 ·have h1 := tx_len (n := pickK (c.tdiv 37) 4) (by have := pickK_lt (c.tdiv 37) 4 (by decide); omega)
  simp [commaX, kwCur]
  omega
 ·simp; omega
theorem g1_yes {c : Int} (h : pickK (c.tdiv 7) 3 = 1) : g1 c = g0 c ++ ([32, 109, 99, 99, 32] ++ (digL (pickK (c.tdiv 11) 5) 1 ++ ([44, 32] ++ digL (pickK (c.tdiv 13) 5) 1))) := by
 simp [g1, gMcc, h, gdX, commaX, kwMcc]
theorem g1_no {c : Int} (h : ¬ pickK (c.tdiv 7) 3 = 1) : g1 c = g0 c := by
 simp [g1, gMcc, h, gdX]
theorem g2_yes {c : Int} (h : pickK (c.tdiv 17) 3 = 1) : g2 c = g1 c ++ ([32, 97, 109, 111, 117, 110, 116, 32] ++ (digL (pickK (c.tdiv 19) 50) 1 ++ ([46, 46] ++ digL (pickK (c.tdiv 19) 50 + pickK (c.tdiv 23) 20) 1))) := by
 simp [g2, gAm, h, amX, kwAmount]
theorem g2_no {c : Int} (h : ¬ pickK (c.tdiv 17) 3 = 1) : g2 c = g1 c := by
 simp [g2, gAm, h, amX]
theorem g3_yes {c : Int} (h : pickK (c.tdiv 29) 3 = 1) : g3 c = g2 c ++ ([32, 99, 117, 114, 32] ++ digL (pickK (c.tdiv 37) 4) 1) := by
 simp [g3, gCur, h, gdX, commaX, kwCur]
theorem g3_no {c : Int} (h : ¬ pickK (c.tdiv 29) 3 = 1) : g3 c = g2 c := by
 simp [g3, gCur, h, gdX]
theorem InI.wrap {c : Int} (h : InI c) : wrap64 c = c := IntWalk.wrap64_in c h
theorem gs_cell (w : World) {q : Nat} (h : q < 3) : (w.alloc (.cells #[.int .i64 10, .int .i64 100, .int .i64 1000] 3)).cell? ⟨w.heap.size, q, none⟩ = some (.int .i64 ((10 ^ (1 + q) : Nat) : Int)) := by
 have b := heap_alloc_new w (.cells #[.int .i64 10, .int .i64 100, .int .i64 1000] 3)
 have : q = 0 \/ q = 1 \/ q = 2 := by omega
 rcases this with rfl | rfl | rfl
 ·exact block_cell b 0 _ rfl
 ·exact block_cell b 1 _ rfl
 ·exact block_cell b 2 _ rfl
set_option maxRecDepth 30000 in
set_option maxHeartbeats 8000000 in
theorem kguard_any (c : Int) (w : World) (hc : InI c) :
  Calls Tryz.prog 35 #[.int .i64 c] w fun e w' => e = .returned (.string (bs (g3 c))) /\ F0 w w' := by
 have HP : Hid (∀ (c nv : Int) (n : Nat) (w : World), InI c -> nv = n -> 0 < n -> n <= 10000000000 -> Calls Tryz.prog 23 #[.int .i64 c, .int .i64 nv] w fun e w' => e = .returned (.int .i64 (pickK c n)) /\ w' = w) := fun c nv n w h e h3 h4 => by subst e; exact kpick_any c n w h.1 h.2 h3 h4
 have HG : Hid (∀ (n wd : Nat) (nv wv : Int) (w : World), nv = n -> wv = wd -> n <= 10000000000 -> wd <= 1000 -> Calls Tryz.prog 29 #[.int .i64 nv, .int .i64 wv] w fun e w' => e = .returned (.string (bs (digL n wd))) /\ F0 w w') := fun n wd nv wv w e1 e2 h1 h2 => by subst e1 e2; exact kdigits_any n wd w h1 h2
 have HX : Hid (∀ (n : Nat) (nv : Int) (w : World), nv = n -> n <= 10000000000 -> Calls Tryz.prog 16 #[.int .i64 nv] w fun e w' => e = .returned (.string (bs (digL n 1))) /\ F0 w w') := fun n nv w e h => ktext_any n nv w e h
 have HI : Hid (∀ k : Nat, 1 <= k -> InI (c.tdiv k)) := fun k hk => hc.div k hk
 have HC := hid hc
 clear hc
 go_enter Tryz.func35, Tryz.ntmps35
 go_wp2_with fail
 refine (HP.o c 3 3 _ HC.o rfl (by decide) (by decide)).mono ?_
 rintro e w' ⟨rfl, he⟩
 replace he := he.symm
 subst he
 obtain ⟨q, hq⟩ : ∃ q, pickK c 3 = q := ⟨_, rfl⟩
 have hq3 : q < 3 := by rw [<- hq]; exact pickK_lt c 3 (by decide)
 rw [hq]
 have HW : Hid (gw c = 1 + q) := by show _ = _; unfold gw; rw [hq]
 clear hq
 obtain ⟨Z, hZ⟩ : ∃ Z, 10 ^ (1 + q) = Z := ⟨_, rfl⟩
 have hcl := gs_cell w hq3
 rw [hZ] at hcl
 have hZ0 : 0 < Z := by rw [<- hZ]; exact pow_pos10 _
 have hZb : Z <= 1000 := by rw [<- hZ]; exact pow_le3 (by omega)
 have HZ := hid hZ
 have HF0 : Hid (F0 w (w.alloc (.cells #[.int .i64 10, .int .i64 100, .int .i64 1000] 3))) := (Fr.refl _ _).alloc _
 have ha : (1 : Int) + (q : Int) - 1 = (q : Int) := by omega
 have hb : (q : Int) < 3 := by omega
 clear hZ
 have t3 : wrap64 (c.tdiv 3) = c.tdiv 3 := (HI.o 3 (by decide)).wrap
 have t31 : wrap64 (c.tdiv 31) = c.tdiv 31 := (HI.o 31 (by decide)).wrap
 have t7 : wrap64 (c.tdiv 7) = c.tdiv 7 := (HI.o 7 (by decide)).wrap
 have t11 : wrap64 (c.tdiv 11) = c.tdiv 11 := (HI.o 11 (by decide)).wrap
 have t13 : wrap64 (c.tdiv 13) = c.tdiv 13 := (HI.o 13 (by decide)).wrap
 have t17 : wrap64 (c.tdiv 17) = c.tdiv 17 := (HI.o 17 (by decide)).wrap
 have t19 : wrap64 (c.tdiv 19) = c.tdiv 19 := (HI.o 19 (by decide)).wrap
 have t23 : wrap64 (c.tdiv 23) = c.tdiv 23 := (HI.o 23 (by decide)).wrap
 have t29 : wrap64 (c.tdiv 29) = c.tdiv 29 := (HI.o 29 (by decide)).wrap
 have t37 : wrap64 (c.tdiv 37) = c.tdiv 37 := (HI.o 37 (by decide)).wrap
 go_wp2_with fail
 refine (HP.o _ _ Z _ (HI.o 3 (by decide)) rfl hZ0 (by omega)).mono ?_
 rintro e w' ⟨rfl, he⟩
 replace he := he.symm
 subst he
 have HGF : Hid (gf c = pickK (c.tdiv 3) Z) := by show _ = _; unfold gf; rw [HW.o, HZ.o]
 obtain ⟨f, hf⟩ : ∃ f, pickK (c.tdiv 3) Z = f := ⟨_, rfl⟩
 have hfZ : f < Z := by rw [<- hf]; exact pickK_lt _ Z hZ0
 rw [show pickK (c.tdiv (3 : Nat)) Z = f from hf]
 rw [hf] at HGF
 clear hf hcl ha hb
 generalize w.alloc (.cells #[.int .i64 10, .int .i64 100, .int .i64 1000] 3) = w1 at *
 go_wp2_with fail
 refine (HP.o _ _ (Z - f) _ (HI.o 31 (by decide)) (by omega) (by omega) (by omega)).mono ?_
 rintro e w' ⟨rfl, he⟩
 replace he := he.symm
 subst he
 have HGT : Hid (gt c = f + pickK (c.tdiv 31) (Z - f)) := by show _ = _; unfold gt; rw [HGF.o, HW.o, HZ.o]
 obtain ⟨d, hd⟩ : ∃ d, pickK (c.tdiv 31) (Z - f) = d := ⟨_, rfl⟩
 have hdZ : d < Z - f := by rw [<- hd]; exact pickK_lt _ _ (by omega)
 rw [show pickK (c.tdiv (31 : Nat)) (Z - f) = d from hd]
 rw [hd] at HGT
 clear hd
 go_wp2_with fail
 refine (HG.o f (1 + q) _ _ _ rfl (by omega) (by omega) (by omega)).mono ?_
 rintro e wA ⟨rfl, hfA⟩
 have HFA := hid (HF0.o.trans hfA)
 obtain ⟨D1, hD1⟩ : ∃ D1, bs (digL f (1 + q)) = D1 := ⟨_, rfl⟩
 have hs1 : D1.size = 1 + q := by rw [<- hD1, bs_size, digL_len (1 + q) f (by rw [HZ.o]; exact hfZ)]
 rw [hD1]
 have HD1 := hid hD1
 clear hfA HF0 hD1
 go_wp2_with fail
 refine (HG.o (f + d) (1 + q) _ _ _ (by omega) (by omega) (by omega) (by omega)).mono ?_
 rintro e wB ⟨rfl, hfB⟩
 have HFB := hid (HFA.o.trans hfB)
 obtain ⟨D2, hD2⟩ : ∃ D2, bs (digL (f + d) (1 + q)) = D2 := ⟨_, rfl⟩
 have hs2 : D2.size = 1 + q := by rw [<- hD2, bs_size, digL_len (1 + q) (f + d) (by rw [HZ.o]; omega)]
 rw [hD2]
 have H0 : Hid ((((⟨#[98, 105, 110, 32]⟩ : ByteArray) ++ D1) ++ ⟨#[46, 46]⟩) ++ D2 = bs (g0 c)) := by
  show _ = _
  unfold g0
  rw [HGF.o, HGT.o, HW.o, <- HD1.o, <- hD2, show (⟨#[98, 105, 110, 32]⟩ : ByteArray) = bs [98, 105, 110, 32] from rfl, show (⟨#[46, 46]⟩ : ByteArray) = bs [46, 46] from rfl]
  simp only [bs_append, List.append_assoc, List.cons_append, List.nil_append]
 clear hfB HFA hD2 HD1
 go_wp2_with fail
 refine (HP.o _ 3 3 _ (HI.o 7 (by decide)) rfl (by decide) (by decide)).mono ?_
 rintro e w' ⟨rfl, he⟩
 replace he := he.symm
 subst he
 have hsA : (bs (g0 c)).size <= 12 := g0_len c
 generalize (((⟨#[98, 105, 110, 32]⟩ : ByteArray) ++ D1) ++ ⟨#[46, 46]⟩) ++ D2 = S0 at *
 rw [<- H0.o] at hsA
 clear hs1 hs2
 obtain ⟨m, hm⟩ : ∃ m, pickK (c.tdiv 7) 3 = m := ⟨_, rfl⟩
 rw [show pickK (c.tdiv (7 : Nat)) 3 = m from hm]
 have HM := hid hm
 clear hm
 go_upto_if 41 with fail
 go_cut [7] (fun v wx => ∃ S : ByteArray, v = .string S /\ S.size <= 24 /\ Hid (S = bs (g1 c)) /\ Hid (F0 w wx))
 case first =>
  by_cases h1 : m = 1
  ·have h1i : ((m : Int) == 1) = true := by simp [h1]
   have HQ : Hid (pickK (c.tdiv 7) 3 = 1) := HM.o.trans h1
   clear h1
   go_wp2_with fail
   refine (HP.o _ 5 5 _ (HI.o 11 (by decide)) rfl (by decide) (by decide)).mono ?_
   rintro e w' ⟨rfl, he⟩
   replace he := he.symm
   subst he
   go_wp2_with fail
   refine (HX.o _ _ _ rfl (by have := pickK_lt (c.tdiv 11) 5 (by decide); omega)).mono ?_
   rintro e wC ⟨rfl, hfC⟩
   have HFC := hid (HFB.o.trans hfC)
   obtain ⟨T1, hT1⟩ : ∃ T1, bs (digL (pickK (c.tdiv 11) 5) 1) = T1 := ⟨_, rfl⟩
   have hl1 : T1.size <= 2 := by rw [<- hT1, bs_size]; exact tx_len (by have := pickK_lt (c.tdiv 11) 5 (by decide); omega)
   rw [hT1]
   have HT1 := hid hT1
   clear hfC hT1 HFB
   go_wp2_with fail
   refine (HP.o _ 5 5 _ (HI.o 13 (by decide)) rfl (by decide) (by decide)).mono ?_
   rintro e w' ⟨rfl, he⟩
   replace he := he.symm
   subst he
   go_wp2_with fail
   refine (HX.o _ _ _ rfl (by have := pickK_lt (c.tdiv 13) 5 (by decide); omega)).mono ?_
   rintro e wD ⟨rfl, hfD⟩
   have HFD := hid (HFC.o.trans hfD)
   obtain ⟨T2, hT2⟩ : ∃ T2, bs (digL (pickK (c.tdiv 13) 5) 1) = T2 := ⟨_, rfl⟩
   have hl2 : T2.size <= 2 := by rw [<- hT2, bs_size]; exact tx_len (by have := pickK_lt (c.tdiv 13) 5 (by decide); omega)
   rw [hT2]
   have HT2 := hid hT2
   clear hfD hT2 HFC
   go_wp2_with fail
   go_meet
   have e : (((S0 ++ ⟨#[32, 109, 99, 99, 32]⟩) ++ T1) ++ ⟨#[44, 32]⟩) ++ T2 = bs (g1 c) := by
    rw [g1_yes HQ.o, H0.o, <- HT1.o, <- HT2.o, show (⟨#[32, 109, 99, 99, 32]⟩ : ByteArray) = bs [32, 109, 99, 99, 32] from rfl, show (⟨#[44, 32]⟩ : ByteArray) = bs [44, 32] from rfl]
    simp only [bs_append, List.append_assoc]
   exact ⟨_, rfl, by rw [e]; exact g1_len c, e, HFD⟩
  ·have h1i : ((m : Int) == 1) = false := by simp; omega
   have HQ : Hid (¬ pickK (c.tdiv 7) 3 = 1) := fun e => h1 (HM.o.symm.trans e)
   clear h1
   go_wp2_with fail
   go_meet
   exact ⟨S0, rfl, by omega, by show _ = _; rw [g1_no HQ.o]; exact H0.o, HFB⟩
 case rest =>
  obtain ⟨S1, rfl, hsB, H1, HF1⟩ := hcut
  generalize wc = wE at *
  clear HFB H0 hsA HM
  go_wp2_with fail
  refine (HP.o _ 3 3 _ (HI.o 17 (by decide)) rfl (by decide) (by decide)).mono ?_
  rintro e w' ⟨rfl, he⟩
  replace he := he.symm
  subst he
  obtain ⟨m2, hm⟩ : ∃ m, pickK (c.tdiv 17) 3 = m := ⟨_, rfl⟩
  rw [show pickK (c.tdiv (17 : Nat)) 3 = m2 from hm]
  have HM := hid hm
  clear hm
  go_upto_if 58 with fail
  go_cut [7, 8] (fun v _ wx => ∃ S : ByteArray, v = .string S /\ S.size <= 40 /\ Hid (S = bs (g2 c)) /\ Hid (F0 w wx))
  case first =>
   by_cases h1 : m2 = 1
   ·have h1i : ((m2 : Int) == 1) = true := by simp [h1]
    have HQ : Hid (pickK (c.tdiv 17) 3 = 1) := HM.o.trans h1
    clear h1
    go_wp2_with fail
    refine (HP.o _ 50 50 _ (HI.o 19 (by decide)) rfl (by decide) (by decide)).mono ?_
    rintro e w' ⟨rfl, he⟩
    replace he := he.symm
    subst he
    obtain ⟨ls, hls⟩ : ∃ ls, pickK (c.tdiv 19) 50 = ls := ⟨_, rfl⟩
    have hlb : ls < 50 := by rw [<- hls]; exact pickK_lt _ 50 (by decide)
    rw [show pickK (c.tdiv (19 : Nat)) 50 = ls from hls]
    have HLS := hid hls
    clear hls
    go_wp2_with fail
    refine (HX.o ls _ _ rfl (by omega)).mono ?_
    rintro e wC ⟨rfl, hfC⟩
    have HFC := hid (HF1.o.trans hfC)
    obtain ⟨T1, hT1⟩ : ∃ T1, bs (digL ls 1) = T1 := ⟨_, rfl⟩
    have hl1 : T1.size <= 2 := by rw [<- hT1, bs_size]; exact tx_len (by omega)
    rw [hT1]
    have HT1 := hid hT1
    clear hfC hT1 HF1
    go_wp2_with fail
    refine (HP.o _ 20 20 _ (HI.o 23 (by decide)) rfl (by decide) (by decide)).mono ?_
    rintro e w' ⟨rfl, he⟩
    replace he := he.symm
    subst he
    obtain ⟨mo, hmo⟩ : ∃ mo, pickK (c.tdiv 23) 20 = mo := ⟨_, rfl⟩
    have hmb : mo < 20 := by rw [<- hmo]; exact pickK_lt _ 20 (by decide)
    rw [show pickK (c.tdiv (23 : Nat)) 20 = mo from hmo]
    have HMO := hid hmo
    clear hmo
    go_wp2_with fail
    refine (HX.o (ls + mo) _ _ (by omega) (by omega)).mono ?_
    rintro e wD ⟨rfl, hfD⟩
    have HFD := hid (HFC.o.trans hfD)
    obtain ⟨T2, hT2⟩ : ∃ T2, bs (digL (ls + mo) 1) = T2 := ⟨_, rfl⟩
    have hl2 : T2.size <= 2 := by rw [<- hT2, bs_size]; exact tx_len (by omega)
    rw [hT2]
    have HT2 := hid hT2
    clear hfD hT2 HFC
    go_wp2_with fail
    go_meet
    have e : (((S1 ++ ⟨#[32, 97, 109, 111, 117, 110, 116, 32]⟩) ++ T1) ++ ⟨#[46, 46]⟩) ++ T2 = bs (g2 c) := by
     rw [g2_yes HQ.o, H1.o, HLS.o, HMO.o, <- HT1.o, <- HT2.o, show (⟨#[32, 97, 109, 111, 117, 110, 116, 32]⟩ : ByteArray) = bs [32, 97, 109, 111, 117, 110, 116, 32] from rfl, show (⟨#[46, 46]⟩ : ByteArray) = bs [46, 46] from rfl]
     simp only [bs_append, List.append_assoc]
    exact ⟨_, rfl, by rw [e]; exact g2_len c, e, HFD⟩
   ·have h1i : ((m2 : Int) == 1) = false := by simp; omega
    have HQ : Hid (¬ pickK (c.tdiv 17) 3 = 1) := fun e => h1 (HM.o.symm.trans e)
    clear h1
    go_wp2_with fail
    go_meet
    exact ⟨S1, rfl, by omega, by show _ = _; rw [g2_no HQ.o]; exact H1.o, HF1⟩
  case rest =>
   obtain ⟨S2, rfl, hsC, H2, HF2⟩ := hcut
   generalize wc = wF at *
   clear HF1 H1 hsB HM
   go_wp2_with fail
   refine (HP.o _ 3 3 _ (HI.o 29 (by decide)) rfl (by decide) (by decide)).mono ?_
   rintro e w' ⟨rfl, he⟩
   replace he := he.symm
   subst he
   obtain ⟨m3, hm⟩ : ∃ m, pickK (c.tdiv 29) 3 = m := ⟨_, rfl⟩
   rw [show pickK (c.tdiv (29 : Nat)) 3 = m3 from hm]
   have HM := hid hm
   clear hm
   by_cases h1 : m3 = 1
   ·have h1i : ((m3 : Int) == 1) = true := by simp [h1]
    have HQ : Hid (pickK (c.tdiv 29) 3 = 1) := HM.o.trans h1
    clear h1
    go_wp2_with fail
    refine (HP.o _ 4 4 _ (HI.o 37 (by decide)) rfl (by decide) (by decide)).mono ?_
    rintro e w' ⟨rfl, he⟩
    replace he := he.symm
    subst he
    go_wp2_with fail
    refine (HX.o _ _ _ rfl (by have := pickK_lt (c.tdiv 37) 4 (by decide); omega)).mono ?_
    rintro e wC ⟨rfl, hfC⟩
    have HFC := hid (HF2.o.trans hfC)
    obtain ⟨T1, hT1⟩ : ∃ T1, bs (digL (pickK (c.tdiv 37) 4) 1) = T1 := ⟨_, rfl⟩
    have hl1 : T1.size <= 2 := by rw [<- hT1, bs_size]; exact tx_len (by have := pickK_lt (c.tdiv 37) 4 (by decide); omega)
    rw [hT1]
    have HT1 := hid hT1
    clear hfC hT1 HF2
    go_wp2_with fail
    go_ret
    have e : (S2 ++ ⟨#[32, 99, 117, 114, 32]⟩) ++ T1 = bs (g3 c) := by
     rw [g3_yes HQ.o, H2.o, <- HT1.o, show (⟨#[32, 99, 117, 114, 32]⟩ : ByteArray) = bs [32, 99, 117, 114, 32] from rfl]
     simp only [bs_append, List.append_assoc]
    rw [<- e]
    exact ⟨rfl, HFC.o⟩
   ·have h1i : ((m3 : Int) == 1) = false := by simp; omega
    have HQ : Hid (¬ pickK (c.tdiv 29) 3 = 1) := fun e => h1 (HM.o.symm.trans e)
    clear h1
    go_wp2_with fail
    go_ret
    rw [g3_no HQ.o, <- H2.o]
    exact ⟨rfl, HF2.o⟩
end Go.Proofs.YtccikgogjfbpeabGreatDoor

namespace Go.Proofs.YtccikgogjfbpeabGreatDoor
open Go.RowKit
def actT : Nat -> List UInt8
 | 0 => [100, 101, 99, 108, 105, 110, 101]
 | 1 => [97]
 | 2 => [98, 44, 32, 99]
 | 3 => [99, 104, 101, 97, 112, 101, 115, 116, 32, 97, 44, 32, 98, 44, 32, 99]
 | 4 => [99, 104, 101, 97, 112, 101, 115, 116, 32, 99, 44, 32, 97]
 | _ => [99, 44, 32, 98, 44, 32, 97]
def actD (k : Nat) : Bool := decide (k = 0)
def actC (k : Nat) : Bool := decide (k = 3) || decide (k = 4)
def actR : Nat -> List (List UInt8)
 | 0 => []
 | 1 => [[97]]
 | 2 => [[98], [99]]
 | 3 => [[97], [98], [99]]
 | 4 => [[99], [97]]
 | _ => [[99], [98], [97]]
def actP : Nat -> List Nat
 | 0 => []
 | 1 => [0]
 | 2 => [1, 2]
 | 3 => [0, 1, 2]
 | 4 => [2, 0]
 | _ => [2, 1, 0]
def rlK (c : Int) : Nat := pickK (c.tdiv 5) 6
def rlX (i : Nat) (c : Int) : RuX := gdR c (114 :: digL i 1) (digL (pickK (c.tdiv 41) 3) 1) (actD (rlK c)) (actC (rlK c)) (actR (rlK c))
theorem act_text {k : Nat} (h : k < 6) (r : RuX) (h1 : r.dec = actD k) (h2 : r.ch = actC k) (h3 : r.rts = actR k) : acX r = actT k := by
 unfold acX
 rw [h1, h2, h3]
 have : k = 0 \/ k = 1 \/ k = 2 \/ k = 3 \/ k = 4 \/ k = 5 := by omega
 rcases this with rfl | rfl | rfl | rfl | rfl | rfl <;> rfl
theorem actT_len (k : Nat) : (actT k).length <= 16 := by
 unfold actT
 split <;> decide
theorem act_cell (w : World) {k : Nat} (h : k < 6) : (w.alloc (.cells #[.string ⟨#[100, 101, 99, 108, 105, 110, 101]⟩, .string ⟨#[97]⟩, .string ⟨#[98, 44, 32, 99]⟩, .string ⟨#[99, 104, 101, 97, 112, 101, 115, 116, 32, 97, 44, 32, 98, 44, 32, 99]⟩, .string ⟨#[99, 104, 101, 97, 112, 101, 115, 116, 32, 99, 44, 32, 97]⟩, .string ⟨#[99, 44, 32, 98, 44, 32, 97]⟩] 9)).cell? ⟨w.heap.size, k, none⟩ = some (.string (bs (actT k))) := by
 have b := heap_alloc_new w (.cells #[.string ⟨#[100, 101, 99, 108, 105, 110, 101]⟩, .string ⟨#[97]⟩, .string ⟨#[98, 44, 32, 99]⟩, .string ⟨#[99, 104, 101, 97, 112, 101, 115, 116, 32, 97, 44, 32, 98, 44, 32, 99]⟩, .string ⟨#[99, 104, 101, 97, 112, 101, 115, 116, 32, 99, 44, 32, 97]⟩, .string ⟨#[99, 44, 32, 98, 44, 32, 97]⟩] 9)
 have : k = 0 \/ k = 1 \/ k = 2 \/ k = 3 \/ k = 4 \/ k = 5 := by omega
 rcases this with rfl | rfl | rfl | rfl | rfl | rfl
 ·exact block_cell b 0 _ rfl
 ·exact block_cell b 1 _ rfl
 ·exact block_cell b 2 _ rfl
 ·exact block_cell b 3 _ rfl
 ·exact block_cell b 4 _ rfl
 ·exact block_cell b 5 _ rfl
set_option maxRecDepth 30000 in
set_option maxHeartbeats 2000000 in
theorem kaction_any (c : Int) (w : World) (hc : InI c) :
  Calls Tryz.prog 36 #[.int .i64 c] w fun e w' => e = .returned (.string (bs (actT (pickK c 6)))) /\ F0 w w' := by
 have HP : Hid (∀ w, Calls Tryz.prog 23 #[.int .i64 c, .int .i64 6] w fun e w' => e = .returned (.int .i64 (pickK c 6)) /\ w' = w) := fun w => kpick_any c 6 w hc.1 hc.2 (by decide) (by decide)
 have hk6 := pickK_lt c 6 (by decide)
 have hcl := act_cell w hk6
 have HF : Hid (F0 w (w.alloc (.cells #[.string ⟨#[100, 101, 99, 108, 105, 110, 101]⟩, .string ⟨#[97]⟩, .string ⟨#[98, 44, 32, 99]⟩, .string ⟨#[99, 104, 101, 97, 112, 101, 115, 116, 32, 97, 44, 32, 98, 44, 32, 99]⟩, .string ⟨#[99, 104, 101, 97, 112, 101, 115, 116, 32, 99, 44, 32, 97]⟩, .string ⟨#[99, 44, 32, 98, 44, 32, 97]⟩] 9))) := (Fr.refl _ _).alloc _
 have hki : (pickK c 6 : Int) < 6 := by omega
 go_enter Tryz.func36, Tryz.ntmps36
 go_wp2_with fail
 refine (HP.o _).mono ?_
 rintro e w' ⟨rfl, he⟩
 replace he := he.symm
 subst he
 go_wp2_with fail
 go_ret
 exact ⟨rfl, HF.o⟩
def rlT (i : Nat) (c : Int) : List UInt8 := (rlX i c).text ++ [10]
theorem rlT_eq (i : Nat) (c : Int) : rlT i c = [114, 117, 108, 101, 32, 114] ++ (digL i 1 ++ ([32] ++ (digL (pickK (c.tdiv 41) 3) 1 ++ ([58, 32] ++ (g3 c ++ ([32, 45, 62, 32] ++ (actT (rlK c) ++ [59, 10]))))))) := by
 have e := act_text (k := rlK c) (pickK_lt _ 6 (by decide)) (rlX i c) rfl rfl rfl
 have g : gX (rlX i c) = g3 c := by rw [g3_eq]; rfl
 unfold rlT RuX.text
 rw [e, g]
 simp [rlX, gdR]
theorem rlT_len {i : Nat} (h : i < 100) (c : Int) : (rlT i c).length <= 90 := by
 have h1 := tx_len h
 have h2 := tx_len (n := pickK (c.tdiv 41) 3) (by have := pickK_lt (c.tdiv 41) 3 (by decide); omega)
 have h3 := g3_len c
 have h4 := actT_len (rlK c)
 rw [rlT_eq]
 simp only [List.length_append, List.length_cons, List.length_nil]
 omega
def rlL (l : List Int) (m : Nat) : List ByteArray := (List.range m).map fun i => bs (rlT i (rawK l i))
theorem rlL_len (l : List Int) (m : Nat) : (rlL l m).length = m := by simp [rlL]
theorem rlL_snoc (l : List Int) (m : Nat) : rlL l (m + 1) = rlL l m ++ [bs (rlT m (rawK l m))] := by simp [rlL, List.range_succ]
end Go.Proofs.YtccikgogjfbpeabGreatDoor
