/- The keeps: ruled: rules of raw numbers. The keeps: whole: a text of rules; alone; a payment. -/
import Derived.Test.YtccikgogjfbpeabGreatDoorSHa
import Derived.Test.YtccikgogjfbpeabGreatDoorSKf
namespace Go.Proofs.YtccikgogjfbpeabGreatDoor
open Go.RowKit
end Go.Proofs.YtccikgogjfbpeabGreatDoor

namespace Go.Proofs.YtccikgogjfbpeabGreatDoor
open Go.RowKit
def whT (l : List ByteArray) : List UInt8 := routes3 ++ l.flatMap fun b => b.data.toList
theorem whT_snoc (l : List ByteArray) (b : ByteArray) : whT (l ++ [b]) = whT l ++ b.data.toList := by simp [whT]
theorem whT_len : ∀ (l : List ByteArray), (∀ b, b ∈ l → b.size ≤ 100) → (whT l).length ≤ 42 + 100 * l.length := by
 intro l
 induction l with
 | nil => intro _; simp [whT, routes3]
 | cons b r ih =>
  intro h
  have h1 := ih (fun x hx => h x (by simp [hx]))
  have h2 := h b (by simp)
  have h3 : b.data.toList.length = b.size := by simp
  simp only [whT, List.flatMap_cons, List.length_append, List.length_cons] at *
  omega
set_option maxRecDepth 30000 in
set_option maxHeartbeats 2000000 in
theorem kwhole_any (w : World) (a : Option Addr) (n c : Nat) (l : List ByteArray) (hl : l.length = n) (hn : n ≤ 10) (hs : StrsAt w a l) (hb : ∀ b, b ∈ l → b.size ≤ 100) :
  Calls Tryz.prog 14 #[.slice a n c] w fun e w' => e = .returned (.string (bs (whT l))) ∧ w' = w := by
 have HS := hid hs
 have HL := hid hl
 have HB : Hid (∀ i, i ≤ n → (whT (l.take i)).length ≤ 1042) := fun i hi => by
  have := whT_len (l.take i) (fun b hx => hb b (List.mem_of_mem_take hx))
  rw [List.length_take] at this
  omega
 have HBB := hid hb
 clear hs hl hb
 go_enter Tryz.func14, Tryz.ntmps14
 go_wp2_with fail
 go_loop [3, 4] (fun sv iv => ∃ i : Nat, i ≤ n ∧ iv = .int .i64 (i : Nat) ∧ ∃ S : ByteArray, sv = .string S ∧ Hid (S = bs (whT (l.take i)))) (fun _ iv => n - (intOf iv).toNat)
 case atStart => exact ⟨0, by omega, rfl, _, rfl, rfl⟩
 case round =>
  obtain ⟨i, hin, rfl, S, rfl, HQ⟩ := hrel
  have hsb : S.size ≤ 1042 := by rw [HQ.out]; exact HB.out i hin
  by_cases hlt : i < n
  ·have hki : (i : Int) < (n : Int) := by omega
   have hx := List.getElem?_eq_getElem (show i < l.length by have := HL.out; omega)
   obtain ⟨g, o, rfl, hc⟩ := HS.out i _ hx
   have hxb : (l[i]'(by have := HL.out; omega)).size ≤ 100 := HBB.out _ (List.getElem_mem _)
   have HT : Hid (l.take (i + 1) = l.take i ++ [l[i]'(by have := HL.out; omega)]) := by show _ = _; rw [List.take_add_one, hx]; rfl
   generalize l[i]'(by have := HL.out; omega) = x at *
   clear hx
   go_wp2_with fail
   refine ⟨⟨i + 1, by omega, by go_num, _, rfl, ?_⟩, by simp [intOf]; omega⟩
   show _ = _
   rw [HT.out, whT_snoc, ← bs_append, ← HQ.out]
  ·have hki : ¬ (i : Int) < (n : Int) := by omega
   have HE : Hid (l.take i = l) := by show _ = _; rw [List.take_of_length_le (by have := HL.out; omega)]
   go_wp2_with fail
   go_ret
   rw [HQ.out, HE.out]
   exact ⟨rfl, rfl⟩
theorem pan_ok {n m q : Nat} {S : ByteArray} (hn : n < 1000000) (hS : S = bs (digL n 6) ++ bs (digL m q)) : 6 ≤ S.size ∧ ∀ x, x ∈ S.data.toList → 48 ≤ x.toNat ∧ x.toNat ≤ 57 := by
 subst hS
 rw [bs_append]
 refine ⟨?_, fun x hx => ?_⟩
 ·rw [bs_size, List.length_append, digL_len 6 n hn]
  omega
 ·rcases List.mem_append.1 hx with hx | hx
  ·exact digL_dg _ n 6 rfl x hx
  ·exact digL_dg _ m q rfl x hx
theorem panOk_mk {S : ByteArray} (h6 : 6 ≤ S.size) (h19 : S.size ≤ 19) (hd : ∀ x, x ∈ S.data.toList → 48 ≤ x.toNat ∧ x.toNat ≤ 57) : panOk S = true := by
 unfold panOk
 simp only [Bool.and_eq_true, decide_eq_true_eq, List.all_eq_true]
 exact ⟨h6, h19, fun x hx => hd x hx⟩
theorem payOk_mk {S : ByteArray} {m a u : Nat} (hS : panOk S = true) (hm : m ≤ 9999) (ha : a ≤ 1000000000) (hu : u ≤ 999) : payOk ⟨S, m, a, u⟩ = true := by
 unfold payOk
 rw [hS]
 simp
 omega
set_option maxRecDepth 30000 in
set_option maxHeartbeats 4000000 in
theorem kpayment_any (w : World) (a : Option Addr) (n c : Nat) (l : List Int) (hl : l.length = n) (hr : RawAt w a l) (hi : ∀ x, x ∈ l → InI x) :
  Calls Tryz.prog 8 #[.slice a n c] w fun e w' => (∃ p, e = .returned (payV p) ∧ payOk p = true ∧ p.pan.size ≤ 19) ∧ Fr (fun _ => False) w w' := by
 have HP : Hid (∀ (c nv : Int) (n : Nat) (w : World), InI c → nv = n → 0 < n → n ≤ 10000000000 → Calls Tryz.prog 23 #[.int .i64 c, .int .i64 nv] w fun e w' => e = .returned (.int .i64 (pickK c n)) ∧ w' = w) := fun c nv n w h e h3 h4 => by subst e; exact kpick_any c n w h.1 h.2 h3 h4
 have HG : Hid (∀ (n wd : Nat) (nv wv : Int) (w : World), nv = n → wv = wd → n ≤ 10000000000 → wd ≤ 1000 → Calls Tryz.prog 29 #[.int .i64 nv, .int .i64 wv] w fun e w' => e = .returned (.string (bs (digL n wd))) ∧ Fr (fun _ => False) w w') := fun n wd nv wv w e1 e2 h1 h2 => by subst e1 e2; exact kdigits_any n wd w h1 h2
 have HRw : Hid (∀ (W : World), Fr (fun _ => False) w W → ∀ (i : Nat) (iv : Int), iv = i → Calls Tryz.prog 30 #[.slice a n c, .int .i64 iv] W fun e w' => e = .returned (.int .i64 (rawK l i)) ∧ w' = W) := fun W hf i iv e => kraw_any W a n c l i iv hl (hr.fr hf) e
 have HIN : Hid (∀ i, InI (rawK l i)) := fun i => rawK_in hi i
 have HF0 : Hid (Fr (fun _ => False) w (w.alloc (.cells #[.string ⟨#[]⟩, .int .i64 0, .int .i64 0, .int .i64 0] 24))) := (Fr.refl _ _).alloc _
 have HB0 : Hid ((w.alloc (.cells #[.string ⟨#[]⟩, .int .i64 0, .int .i64 0, .int .i64 0] 24)).heap[w.heap.size]? = some (.cells #[.string ⟨#[]⟩, .int .i64 0, .int .i64 0, .int .i64 0] 24)) := heap_alloc_new w _
 clear hi hr hl
 go_enter Tryz.func8, Tryz.ntmps8
 go_upto_region 1 with fail
 generalize w.alloc (.cells #[.string ⟨#[]⟩, .int .i64 0, .int .i64 0, .int .i64 0] 24) = w0 at *
 obtain ⟨Q, hQ⟩ : ∃ Q, w.heap.size = Q := ⟨_, rfl⟩
 rw [hQ] at HB0
 rw [hQ]
 have HQ := hid hQ
 clear hQ
 go_wp2_with fail
 refine (HRw.out _ HF0.out 0 _ rfl).mono ?_
 rintro e w' ⟨rfl, he⟩
 replace he := he.symm
 subst he
 go_wp2_with fail
 refine (HP.out _ 1000000 1000000 _ (HIN.out _) rfl (by decide) (by decide)).mono ?_
 rintro e w' ⟨rfl, he⟩
 replace he := he.symm
 subst he
 obtain ⟨m1, hm1⟩ : ∃ m, pickK (rawK l 0) 1000000 = m := ⟨_, rfl⟩
 have hb1 : m1 < 1000000 := by rw [← hm1]; exact pickK_lt _ _ (by decide)
 rw [hm1]
 clear hm1
 go_wp2_with fail
 refine (HG.out m1 6 _ _ _ rfl rfl (by omega) (by omega)).mono ?_
 rintro e w1 ⟨rfl, hf1⟩
 have HF1 := hid (HF0.out.trans hf1)
 have HB1 := hid (hf1.whole HB0.out (by simp))
 obtain ⟨E1, hE1⟩ : ∃ E, bs (digL m1 6) = E := ⟨_, rfl⟩
 have hs1 : E1.size = 6 := by rw [← hE1, bs_size, digL_len 6 m1 (by omega)]
 rw [hE1]
 have HE1 := hid hE1
 clear hE1 hf1 HF0 HB0
 go_wp2_with fail
 refine (HRw.out _ HF1.out 1 _ rfl).mono ?_
 rintro e w' ⟨rfl, he⟩
 replace he := he.symm
 subst he
 go_wp2_with fail
 refine (HP.out _ 1000 1000 _ (HIN.out _) rfl (by decide) (by decide)).mono ?_
 rintro e w' ⟨rfl, he⟩
 replace he := he.symm
 subst he
 obtain ⟨m2, hm2⟩ : ∃ m, pickK (rawK l 1) 1000 = m := ⟨_, rfl⟩
 have hb2 : m2 < 1000 := by rw [← hm2]; exact pickK_lt _ _ (by decide)
 rw [hm2]
 clear hm2
 go_wp2_with fail
 refine (HRw.out _ HF1.out 1 _ rfl).mono ?_
 rintro e w' ⟨rfl, he⟩
 replace he := he.symm
 subst he
 go_wp2_with fail
 refine (HP.out _ 14 14 _ (HIN.out _) rfl (by decide) (by decide)).mono ?_
 rintro e w' ⟨rfl, he⟩
 replace he := he.symm
 subst he
 obtain ⟨m3, hm3⟩ : ∃ m, pickK (rawK l 1) 14 = m := ⟨_, rfl⟩
 have hb3 : m3 < 14 := by rw [← hm3]; exact pickK_lt _ _ (by decide)
 rw [hm3]
 clear hm3
 go_wp2_with fail
 refine (HG.out m2 m3 _ _ _ rfl rfl (by omega) (by omega)).mono ?_
 rintro e w2 ⟨rfl, hf2⟩
 have HF2 := hid (HF1.out.trans hf2)
 have HB2 := hid (hf2.whole HB1.out (by simp))
 obtain ⟨E2, hE2⟩ : ∃ E, bs (digL m2 m3) = E := ⟨_, rfl⟩
 have hs2 : E2.size ≤ 20 := by rw [← hE2, bs_size]; have := digL_le2 20 m2 m3 (by omega) (by omega); omega
 rw [hE2]
 have HPn := hid (pan_ok (n := m1) (m := m2) (q := m3) (S := E1 ++ E2) hb1 (by rw [HE1.out, hE2]))
 have hsS : (E1 ++ E2).size = 6 + E2.size := by rw [ByteArray.size_append, hs1]
 clear hE2 hf2 HF1 HB1 HE1
 go_upto_if 18 with fail
 generalize E1 ++ E2 = S at *
 go_cut [3] (fun v wx => ∃ S : ByteArray, v = .string S ∧ S.size ≤ 19 ∧ Hid (panOk S = true) ∧ wx = w2)
 case first =>
  by_cases hbig : 19 < S.size
  ·have hbi : (19 : Int) < (S.size : Int) := by omega
   have hbj : (19 : Int) < 6 + (E2.size : Int) := by omega
   have hcs : (S.extract 0 19).size = 19 := by rw [ByteArray.size_extract]; omega
   have HPc : Hid (panOk (S.extract 0 19) = true) := panOk_mk (by omega) (by omega) (fun x hx => HPn.out.2 x (by
    rw [show (S.extract 0 19).data.toList = S.data.toList.take 19 from by rw [Lib.extract_data]; simp] at hx
    exact List.mem_of_mem_take hx))
   go_wp2_with fail
   go_meet
   exact ⟨_, rfl, by omega, HPc, rfl⟩
  ·have hbi : ¬ (19 : Int) < (S.size : Int) := by omega
   have hbj : ¬ (19 : Int) < 6 + (E2.size : Int) := by omega
   have HPc : Hid (panOk S = true) := panOk_mk HPn.out.1 (by omega) HPn.out.2
   go_wp2_with fail
   go_meet
   exact ⟨S, rfl, by omega, HPc, rfl⟩
 case rest =>
  obtain ⟨S3, rfl, hs3, HP3, hwc⟩ := hcut
  replace hwc := hwc.symm
  subst hwc
  clear HPn hsS hs1 hs2
  go_wp2_with fail
  refine (HRw.out _ HF2.out 2 _ rfl).mono ?_
  rintro e w' ⟨rfl, he⟩
  replace he := he.symm
  subst he
  go_wp2_with fail
  refine (HP.out _ 5 5 _ (HIN.out _) rfl (by decide) (by decide)).mono ?_
  rintro e w' ⟨rfl, he⟩
  replace he := he.symm
  subst he
  obtain ⟨k1, hk1⟩ : ∃ m, pickK (rawK l 2) 5 = m := ⟨_, rfl⟩
  have hc1 : k1 < 5 := by rw [← hk1]; exact pickK_lt _ _ (by decide)
  rw [hk1]
  clear hk1
  go_wp2_with fail
  refine (HRw.out _ HF2.out 3 _ rfl).mono ?_
  rintro e w' ⟨rfl, he⟩
  replace he := he.symm
  subst he
  go_wp2_with fail
  refine (HP.out _ 60 60 _ (HIN.out _) rfl (by decide) (by decide)).mono ?_
  rintro e w' ⟨rfl, he⟩
  replace he := he.symm
  subst he
  obtain ⟨k2, hk2⟩ : ∃ m, pickK (rawK l 3) 60 = m := ⟨_, rfl⟩
  have hc2 : k2 < 60 := by rw [← hk2]; exact pickK_lt _ _ (by decide)
  rw [hk2]
  clear hk2
  go_wp2_with fail
  refine (HRw.out _ HF2.out 4 _ rfl).mono ?_
  rintro e w' ⟨rfl, he⟩
  replace he := he.symm
  subst he
  go_wp2_with fail
  refine (HP.out _ 4 4 _ (HIN.out _) rfl (by decide) (by decide)).mono ?_
  rintro e w' ⟨rfl, he⟩
  replace he := he.symm
  subst he
  obtain ⟨k3, hk3⟩ : ∃ m, pickK (rawK l 4) 4 = m := ⟨_, rfl⟩
  have hc3 : k3 < 4 := by rw [← hk3]; exact pickK_lt _ _ (by decide)
  rw [hk3]
  clear hk3
  have x0 := block_cell HB2.out 0 _ rfl
  have x1 := block_cell HB2.out 1 _ rfl
  have x2 := block_cell HB2.out 2 _ rfl
  have x3 := block_cell HB2.out 3 _ rfl
  have z0 := block_frozen HB2.out 0
  have z1 := block_frozen HB2.out 1
  have z2 := block_frozen HB2.out 2
  have z3 := block_frozen HB2.out 3
  go_wp2_with fail
  have e1 := heap_setCell_same w2 Q 0 _ _ (.string S3) HB2.out
  have e2 := heap_setCell_same _ Q 1 _ _ (.int .i64 k1) e1
  have e3 := heap_setCell_same _ Q 2 _ _ (.int .i64 k2) e2
  have e4 := heap_setCell_same _ Q 3 _ _ (.int .i64 k3) e3
  have s0 : ((((w2.setCell ⟨Q, 0, none⟩ (.string S3)).setCell ⟨Q, 1, none⟩ (.int .i64 k1)).setCell ⟨Q, 2, none⟩ (.int .i64 k2)).setCell ⟨Q, 3, none⟩ (.int .i64 k3)).cell? ⟨Q, 0, none⟩ = some (.string S3) := block_cell e4 0 _ rfl
  have s1 : ((((w2.setCell ⟨Q, 0, none⟩ (.string S3)).setCell ⟨Q, 1, none⟩ (.int .i64 k1)).setCell ⟨Q, 2, none⟩ (.int .i64 k2)).setCell ⟨Q, 3, none⟩ (.int .i64 k3)).cell? ⟨Q, 1, none⟩ = some (.int .i64 k1) := block_cell e4 1 _ rfl
  have s2 : ((((w2.setCell ⟨Q, 0, none⟩ (.string S3)).setCell ⟨Q, 1, none⟩ (.int .i64 k1)).setCell ⟨Q, 2, none⟩ (.int .i64 k2)).setCell ⟨Q, 3, none⟩ (.int .i64 k3)).cell? ⟨Q, 2, none⟩ = some (.int .i64 k2) := block_cell e4 2 _ rfl
  have s3 : ((((w2.setCell ⟨Q, 0, none⟩ (.string S3)).setCell ⟨Q, 1, none⟩ (.int .i64 k1)).setCell ⟨Q, 2, none⟩ (.int .i64 k2)).setCell ⟨Q, 3, none⟩ (.int .i64 k3)).cell? ⟨Q, 3, none⟩ = some (.int .i64 k3) := block_cell e4 3 _ rfl
  have hq : w.heap.size ≤ Q := by have := HQ.out; omega
  refine bodyPost_ret (v := payV ⟨S3, k1, k2, k3⟩) (by simp [results, Tryz.results8, go_sem, s0, s1, s2, s3, payV]) rfl ⟨⟨_, rfl, payOk_mk HP3.out (by omega) (by omega) (by omega), hs3⟩, ?_⟩
  exact (((HF2.out.setCell (p := ⟨Q, 0, none⟩) (Or.inr hq) _).setCell (p := ⟨Q, 1, none⟩) (Or.inr hq) _).setCell (p := ⟨Q, 2, none⟩) (Or.inr hq) _).setCell (p := ⟨Q, 3, none⟩) (Or.inr hq) _
end Go.Proofs.YtccikgogjfbpeabGreatDoor
