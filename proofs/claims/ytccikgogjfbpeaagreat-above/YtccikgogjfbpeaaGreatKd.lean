/- The keep Cheapest, walked. -/
import Derived.Test.YtccikgogjfbpeaaGreatHa
import Derived.Test.YtccikgogjfbpeaaGreatKc
import Derived.Deep.DeepCutAuto
namespace Go.Proofs.YtccikgogjfbpeaaGreat
open Go.RowKit

theorem Tryz.infoStrK : (Tryz.prog.info? 9).map (fun i => (i.zero, i.size, i.bytes)) = some (some (.string ByteArray.empty), 1, 16) := by kernel_rfl
def strRow (l : List ByteArray) : List Value := l.map Value.string
def leastK (fee : Nat → Int) : Option Nat → Int
 | none => 0
 | some y => fee y
theorem fR_len {B R : Nat → Nat} (hB : ∀ k, B k ≤ 1000000) (hR : ∀ k, R k ≤ 1000) (k : Nat) : (fR B R k).length ≤ 40 := by
 have h1 := (tx_DgL (n := B k) (by have := hB k; omega)).2.1
 have h2 := (tx_DgL (n := R k) (by have := hR k; omega)).2.1
 simp only [fR, rtX, List.length_append, List.length_cons, List.length_nil, wN]
 omega
theorem chS_len {B R : Nat → Nat} (hB : ∀ k, B k ≤ 1000000) (hR : ∀ k, R k ≤ 1000) : ∀ i, (chS B R i).length ≤ 40 * i
 | 0 => by simp [chS]
 | i + 1 => by
  have := chS_len hB hR i
  have := fR_len hB hR i
  simp only [chS, List.length_append]
  omega
theorem chN_len : ∀ i, (chN i).length ≤ 4 * i
 | 0 => by simp [chN]
 | i + 1 => by
  have := chN_len i
  simp only [chN, List.length_append, wN]
  split <;> simp <;> omega
theorem ch_step {B R : Nat → Nat} {i : Nat} {S NM TB TR : ByteArray} (h1 : bs (chS B R i) = S) (h2 : bs (wN i) = NM) (h3 : bs (digL (B i) 1) = TB) (h4 : bs (digL (R i) 1) = TR) :
    ((((((S ++ ⟨#[114, 111, 117, 116, 101, 32]⟩) ++ NM) ++ ⟨#[32]⟩) ++ TB) ++ ⟨#[32]⟩) ++ TR) ++ ⟨#[59]⟩ = bs (chS B R (i + 1)) := by
  subst h1 h2 h3 h4
  rw [show (⟨#[114, 111, 117, 116, 101, 32]⟩ : ByteArray) = bs [114, 111, 117, 116, 101, 32] from rfl, show (⟨#[32]⟩ : ByteArray) = bs [32] from rfl, show (⟨#[59]⟩ : ByteArray) = bs [59] from rfl]
  simp only [bs_append, chS, fR, rtX, List.append_assoc, List.cons_append, List.nil_append]
theorem strsAt_row {w : World} {base : Nat} {a : Option Addr} {c : Nat} {l : List ByteArray} (h : w.ownsRow base 9 1 (.slice a l.length c) l.length (strRow l)) : StrsAt w a l := by
 intro k s hs
 have hk : k < l.length := (List.getElem?_eq_some_iff.1 hs).1
 obtain ⟨g, cap, e, _, _⟩ := h.form (by omega)
 injection e with e1 _ _
 subst e1
 refine ⟨g, 0, rfl, ?_⟩
 have := h.cells (g := g) rfl k (.string s) (by simp [strRow, hs])
 rw [addr_add'] at this
 simpa using this
set_option maxRecDepth 30000 in
set_option maxHeartbeats 8000000 in
theorem Cheapest_any (w : World) (a : Option Addr) (n c : Nat) (l : List Int) (i2 i3 : Int) (ch : Bool) (hl : l.length = n) (hr : RawAt w a l) (hi : ∀ x, x ∈ l → InI x) (h2 : InI i2) (h3 : InI i3) :
  Calls Tryz.prog 3 #[.slice a n c, .int .i64 i2, .int .i64 i3, .bool ch] w fun e w' => e = .returned (.bool true) ∧ Fr (fun _ => False) w w' := by
 obtain ⟨ij, hj', hy0, hy1, hy2⟩ := info_parts Tryz.infoStrK
 have HA := hid (kawake_any w)
 have HP : Hid (∀ (c nv : Int) (n : Nat) (w : World), InI c → nv = n → 0 < n → n ≤ 10000000000 → Calls Tryz.prog 7 #[.int .i64 c, .int .i64 nv] w fun e w' => e = .returned (.int .i64 (pickK c n)) ∧ w' = w) := fun c nv n w h e h3 h4 => by subst e; exact kpick_any c n w h.1 h.2 h3 h4
 have HX : Hid (∀ (n : Nat) (nv : Int) (w : World), nv = n → n ≤ 10000000000 → Calls Tryz.prog 9 #[.int .i64 nv] w fun e w' => e = .returned (.string (bs (digL n 1))) ∧ Fr (fun _ => False) w w') := fun n nv w e h => ktext_any n nv w e h
 have HRw : Hid (∀ (W : World), Fr (fun _ => False) w W → ∀ (i : Nat) (iv : Int), iv = i → Calls Tryz.prog 8 #[.slice a n c, .int .i64 iv] W fun e w' => e = .returned (.int .i64 (rawK l i)) ∧ w' = W) := fun W hf i iv e => kraw_any W a n c l i iv hl (hr.fr hf) e
 have HIN : Hid (∀ i, InI (rawK l i)) := fun i => rawK_in hi i
 have HI2 := hid h2
 have HI3 := hid h3
 clear h2 h3 hi hr hl
 go_enter Tryz.func3, Tryz.ntmps3
 go_wp2_with fail
 refine HA.out.mono ?_
 rintro e w0 ⟨rfl, hf0⟩
 have HF0 := hid hf0
 clear hf0 HA
 go_wp2_with fail
 refine (HP.out i2 1000000001 1000000001 _ HI2.out rfl (by decide) (by decide)).mono ?_
 rintro e w' ⟨rfl, he⟩
 replace he := he.symm
 subst he
 obtain ⟨am, ham⟩ : ∃ am, pickK i2 1000000001 = am := ⟨_, rfl⟩
 have hamb : am < 1000000001 := by rw [← ham]; exact pickK_lt i2 1000000001 (by decide)
 rw [ham]
 clear ham
 obtain ⟨B, hB⟩ : ∃ B : Nat → Nat, ∀ k, B k = pickK (rawK l (2 * k)) 1000001 := ⟨_, fun _ => rfl⟩
 obtain ⟨R, hR⟩ : ∃ R : Nat → Nat, ∀ k, R k = pickK (rawK l (2 * k + 1)) 1001 := ⟨_, fun _ => rfl⟩
 obtain ⟨p, hp⟩ : ∃ p, pickK i3 16 = p := ⟨_, rfl⟩
 have hp16 : p < 16 := by rw [← hp]; exact pickK_lt i3 16 (by decide)
 have HBb : Hid (∀ k, B k ≤ 1000000) := fun k => by have := pickK_lt (rawK l (2 * k)) 1000001 (by decide); rw [hB]; omega
 have HRb : Hid (∀ k, R k ≤ 1000) := fun k => by have := pickK_lt (rawK l (2 * k + 1)) 1001 (by decide); rw [hR]; omega
 have HBe := hid hB
 have HRe := hid hR
 have HPe := hid hp
 clear hB hR hp
 obtain ⟨D, hD⟩ : ∃ D : Nat → Bool, ∀ k, D k = (bits BinOp.and IntKind.i64 ((p : Int) / 2 ^ k) 1 == 1) := ⟨_, fun _ => rfl⟩
 obtain ⟨fee, hfee⟩ : ∃ fee, feeM (rts4 B R) (am : Int) = fee := ⟨_, rfl⟩
 have HD := hid hD
 have HFe := hid hfee
 clear hD hfee
 go_wp2_with fail
 go_loopg [10, 11, 12, 13, 14, 15, 16, 17, 18, 19] 4 (fun m sv nv ov bv lv iv _ _ _ _ wr => ∃ i b, i ≤ 4 ∧ m = 4 - i ∧ iv = .int .i64 (i : Nat) ∧ sv = .string (bs (chS B R i)) ∧ nv = .string (bs (chN i)) ∧ bv = .int .i64 (bestI b) ∧ lv = .int .i64 (leastK fee b) ∧ Hid (bestM ch fee D (List.range i) none = b) ∧ Hid (wr.ownsRow w.heap.size 9 1 ov (offL D i).length (strRow (offL D i))) ∧ Hid (Fr (fun _ => False) w wr))
 case atStart => exact ⟨0, none, by omega, rfl, rfl, rfl, rfl, rfl, rfl, rfl, World.ownsRow_nil _ _ _ _, HF0⟩
 case round =>
  obtain ⟨i, b, hi4, rfl, rfl, rfl, rfl, rfl, rfl, HB, HO, HFr⟩ := hrel
  by_cases hlt : i < 4
  ·have hki : (i : Int) < 4 := by omega
   have HCL := hid (chS_len HBb.out HRb.out i)
   have HNL := hid (chN_len i)
   obtain ⟨S, hS⟩ : ∃ S, bs (chS B R i) = S := ⟨_, rfl⟩
   obtain ⟨SN, hSN⟩ : ∃ SN, bs (chN i) = SN := ⟨_, rfl⟩
   have hsb : S.size ≤ 160 := by rw [← hS, bs_size]; have := HCL.out; omega
   have hnb : SN.size ≤ 16 := by rw [← hSN, bs_size]; have := HNL.out; omega
   rw [hS, hSN]
   have HS := hid hS
   have HSN := hid hSN
   clear hS hSN HCL HNL
   go_wp2_with fail
   refine (HRw.out _ HFr.out (2 * i) _ (by omega)).mono ?_
   rintro e w' ⟨rfl, he⟩
   replace he := he.symm
   subst he
   go_wp2_with fail
   refine (HP.out _ 1000001 1000001 _ (HIN.out _) rfl (by decide) (by decide)).mono ?_
   rintro e w' ⟨rfl, he⟩
   replace he := he.symm
   subst he
   rw [← HBe.out i]
   go_wp2_with fail
   refine (HRw.out _ HFr.out (2 * i + 1) _ (by omega)).mono ?_
   rintro e w' ⟨rfl, he⟩
   replace he := he.symm
   subst he
   go_wp2_with fail
   refine (HP.out _ 1001 1001 _ (HIN.out _) rfl (by decide) (by decide)).mono ?_
   rintro e w' ⟨rfl, he⟩
   replace he := he.symm
   subst he
   rw [← HRe.out i]
   have hBi := HBb.out i
   have hRi := HRb.out i
   go_wp2_with fail
   refine (HX.out i _ _ rfl (by omega)).mono ?_
   rintro e wA ⟨rfl, hfA⟩
   have HNM : Hid (⟨#[119]⟩ ++ bs (digL i 1) = bs (wN i)) := (bs_append [119] (digL i 1)).trans (congrArg bs (wN_text (by omega)))
   have hT1 : (bs (digL i 1)).size = 1 := by rw [bs_size, digL_len 1 i (by omega)]
   have HFA := hid (HFr.out.trans hfA)
   have HOA := hid (ownsRow_fr HO.out hfA (by simp))
   generalize bs (digL i 1) = TX at *
   clear hfA HFr HO
   go_wp2_with fail
   refine (HX.out (B i) _ _ rfl (by omega)).mono ?_
   rintro e wB ⟨rfl, hfB⟩
   obtain ⟨TB, hTB⟩ : ∃ TB, bs (digL (B i) 1) = TB := ⟨_, rfl⟩
   have hT2 : TB.size ≤ 9 := by rw [← hTB, bs_size]; exact (tx_DgL (by omega)).2.1
   rw [hTB]
   have HTB := hid hTB
   have HFB := hid (HFA.out.trans hfB)
   have HOB := hid (ownsRow_fr HOA.out hfB (by simp))
   clear hfB HFA HOA hTB
   go_wp2_with fail
   refine (HX.out (R i) _ _ rfl (by omega)).mono ?_
   rintro e wC ⟨rfl, hfC⟩
   obtain ⟨TR, hTR⟩ : ∃ TR, bs (digL (R i) 1) = TR := ⟨_, rfl⟩
   have hT3 : TR.size ≤ 9 := by rw [← hTR, bs_size]; exact (tx_DgL (by omega)).2.1
   rw [hTR]
   have HTR := hid hTR
   have HFC := hid (HFB.out.trans hfC)
   have HOC := hid (ownsRow_fr HOB.out hfC (by simp))
   clear hfC HFB HOB hTR
   go_upto_if 57 with fail
   have hNs : ((⟨#[119]⟩ : ByteArray) ++ TX).size = 2 := by rw [ByteArray.size_append, hT1]; rfl
   generalize (⟨#[119]⟩ : ByteArray) ++ TX = NM at *
   have HSt := hid (ch_step HS.out HNM.out.symm HTB.out HTR.out)
   generalize ((((((S ++ ⟨#[114, 111, 117, 116, 101, 32]⟩) ++ NM) ++ ⟨#[32]⟩) ++ TB) ++ ⟨#[32]⟩) ++ TR) ++ ⟨#[59]⟩ = S10 at *
   clear hT1 hT2 hT3 hsb HTB HTR HS
   go_cut [11] (fun v wx => ∃ S2 : ByteArray, v = .string S2 ∧ S2.size ≤ 20 ∧ Hid (S2 = bs (chN i ++ (if i = 0 then [] else [44, 32]))) ∧ wx = wC)
   case first =>
    by_cases hi0 : i = 0
    ·have hii : ¬ (0 : Int) < (i : Int) := by omega
     have H0 := hid hi0
     clear hi0
     go_wp2_with fail
     go_meet
     exact ⟨SN, rfl, by omega, by show _ = _; rw [if_pos H0.out, List.append_nil, HSN.out], rfl⟩
    ·have hii : (0 : Int) < (i : Int) := by omega
     have H0 := hid hi0
     clear hi0
     go_wp2_with fail
     go_meet
     exact ⟨_, rfl, by rw [ByteArray.size_append]; show SN.size + 2 ≤ _; omega, by show _ = _; rw [if_neg H0.out, ← HSN.out]; exact bs_append (chN i) [44, 32], rfl⟩
   case rest =>
    obtain ⟨S2, rfl, hs2, HS2, hwc⟩ := hcut
    replace hwc := hwc.symm
    subst hwc
    have HN' : Hid (S2 ++ NM = bs (chN (i + 1))) := by
     show _ = _
     rw [HS2.out, HNM.out, bs_append, List.append_assoc]
     rfl
    have hmu : (0 : Int) ≤ (R i : Int) * (am : Int) ∧ (R i : Int) * (am : Int) ≤ 1000000000000 := by
     have h1 : R i * am ≤ 1000 * 1000000000 := Nat.mul_le_mul hRi (by omega)
     have h2 : ((R i * am : Nat) : Int) = (R i : Int) * (am : Int) := by simp
     omega
    have HFi : Hid (fee i = (B i : Int) + (R i : Int) * (am : Int)) := by show _ = _; rw [← HFe.out]; exact fee4 B R am hlt
    obtain ⟨hmu1, hmu2⟩ := hmu
    clear HS2 HSN hnb
    go_wp2_with fail
    refine (HP.out i3 16 16 _ HI3.out rfl (by decide) (by decide)).mono ?_
    rintro e w' ⟨rfl, he⟩
    replace he := he.symm
    subst he
    rw [HPe.out]
    obtain ⟨F, hF⟩ : ∃ F, (B i : Int) + (R i : Int) * (am : Int) = F := ⟨_, rfl⟩
    have hFb : 0 ≤ F ∧ F ≤ 2000000000000 := by omega
    rw [hF] at HFi
    rw [hF]
    clear hF hmu1 hmu2
    obtain ⟨oa, oc, ho⟩ := ownsRow_len HOC.out
    subst ho
    obtain ⟨q, hq⟩ : ∃ q, (offL D i).length = q := ⟨_, rfl⟩
    have hqb : q ≤ 8 := by rw [← hq]; have := offL_len D i; omega
    have hi0 : (0 : Int) ≤ (i : Int) := by omega
    rw [hq] at HOC
    rw [hq]
    have HQ := hid hq
    clear hq
    cases hDi : D i with
    | true =>
     have hbt : (bits BinOp.and IntKind.i64 ((p : Int) / 2 ^ i) 1 == 1) = true := by rw [← HD.out i]; exact hDi
     have HDi := hid hDi
     clear hDi
     go_wp2_with (at_builtin; refine wpList_append_lies _ rfl (.tmp 74) (.tmp 76) 25 rfl w.heap.size 9 ij _ 1 16 Tryz.underlying25 hj' hy0 hy1 hy2 rfl (by decide) (.slice oa q oc) q (strRow (offL D i)) rfl ?h1 ⟨wC.heap.size, 0, none⟩ 2 2 [.string NM, .string ⟨#[122]⟩] rfl rfl ?h2 ?h3 (by decide) ?h4 ?h5 ?h6 _ rfl ?h7)
     case h1 => exact HOC.out.alloc _
     case h2 => exact World.news_of_block (heap_alloc_new wC (.cells #[.string NM, .string ⟨#[122]⟩] 9))
     case h3 => simp [Value.oneCell']
     case h4 => unfold maxLen; omega
     case h5 => omega
     case h6 => have := HFC.out.size; simp; omega
     case h7 =>
      intro g2 cap2 w8 hown hgrow hor _
      have HF8 := hid ((HFC.out.alloc _).grown hgrow (fun k hk => Or.inr (HOC.out.lt k hk).1))
      have HO8 : Hid (w8.ownsRow w.heap.size 9 1 (.slice (some ⟨g2, 0, none⟩) (q + 2) cap2) (offL D (i + 1)).length (strRow (offL D (i + 1)))) := by
       have e : offL D (i + 1) = offL D i ++ [bs (wN i), bs [122]] := by simp [offL, HDi.out]
       rw [e, List.length_append, HQ.out, strRow, List.map_append, ← HNM.out]
       exact hown
      have HB2 : Hid (bestM ch fee D (List.range (i + 1)) none = b) := by
       show _ = _
       rw [List.range_succ, bestM_snoc, HB.out]
       unfold bestS
       rw [HDi.out, if_pos rfl]
      clear hown hgrow hor
      go_wp2_with fail
      go_roundg (4 - (i + 1))
      case measure => omega
      case rel => exact ⟨i + 1, b, by omega, rfl, by go_num, by rw [HSt.out], by rw [HN'.out], rfl, rfl, HB2, HO8, HF8⟩
    | false =>
     have hbt : (bits BinOp.and IntKind.i64 ((p : Int) / 2 ^ i) 1 == 1) = false := by rw [← HD.out i]; exact hDi
     have HDi := hid hDi
     have HO8 : Hid (wC.ownsRow w.heap.size 9 1 (.slice oa q oc) (offL D (i + 1)).length (strRow (offL D (i + 1)))) := by
      have e : offL D (i + 1) = offL D i := by simp [offL, HDi.out]
      rw [e, HQ.out]
      exact HOC.out
     clear hDi
     have HB2 : Hid (bestM ch fee D (List.range (i + 1)) none = bestS ch fee D b i) := by show _ = _; rw [List.range_succ, bestM_snoc, HB.out]
     cases b with
     | none =>
      have HB3 : Hid (bestM ch fee D (List.range (i + 1)) none = some i) := by
       show _ = _
       rw [HB2.out]
       unfold bestS
       rw [HDi.out, if_neg (by decide)]
      have e1 : bestI none = -1 := rfl
      have e2 : leastK fee none = 0 := rfl
      clear HB2
      go_wp2_with fail
      go_roundg (4 - (i + 1))
      case measure => omega
      case rel => exact ⟨i + 1, some i, by omega, rfl, by go_num, by rw [HSt.out], by rw [HN'.out], rfl, by show _ = Value.int .i64 (fee i); rw [HFi.out], HB3, HO8, HFC⟩
     | some y =>
      have e1 : bestI (some y) = (y : Int) := rfl
      have e2 : ¬ (y : Int) < 0 := by omega
      obtain ⟨Fy, hFy⟩ : ∃ Fy, leastK fee (some y) = Fy := ⟨_, rfl⟩
      have HFy : Hid (fee y = Fy) := hFy
      have HB3 : Hid (bestM ch fee D (List.range (i + 1)) none = if ch && decide (F < Fy) then some i else some y) := by
       show _ = _
       rw [HB2.out]
       unfold bestS
       rw [HDi.out, if_neg (by decide)]
       dsimp only
       rw [HFi.out, HFy.out]
      rw [hFy]
      clear HB2 hFy
      rcases Bool.eq_false_or_eq_true ch with hc | hc
      ·subst hc
       by_cases hlt2 : F < Fy
       ·have HB4 : Hid (bestM true fee D (List.range (i + 1)) none = some i) := by show _ = _; rw [HB3.out]; simp [hlt2]
        clear HB3
        go_wp2_with fail
        go_roundg (4 - (i + 1))
        case measure => omega
        case rel => exact ⟨i + 1, some i, by omega, rfl, by go_num, by rw [HSt.out], by rw [HN'.out], rfl, by show _ = Value.int .i64 (fee i); rw [HFi.out], HB4, HO8, HFC⟩
       ·have HB4 : Hid (bestM true fee D (List.range (i + 1)) none = some y) := by show _ = _; rw [HB3.out]; simp [hlt2]
        clear HB3
        go_wp2_with fail
        go_roundg (4 - (i + 1))
        case measure => omega
        case rel => exact ⟨i + 1, some y, by omega, rfl, by go_num, by rw [HSt.out], by rw [HN'.out], rfl, by show _ = Value.int .i64 (fee y); rw [HFy.out], HB4, HO8, HFC⟩
      ·subst hc
       have HB4 : Hid (bestM false fee D (List.range (i + 1)) none = some y) := by show _ = _; rw [HB3.out]; simp
       clear HB3
       go_wp2_with fail
       go_roundg (4 - (i + 1))
       case measure => omega
       case rel => exact ⟨i + 1, some y, by omega, rfl, by go_num, by rw [HSt.out], by rw [HN'.out], rfl, by show _ = Value.int .i64 (fee y); rw [HFy.out], HB4, HO8, HFC⟩
  ·have hi4' : 4 = i := by omega
   subst hi4'
   have hki : ¬ (4 : Int) < 4 := by decide
   rw [show ((4 : Nat) : Int) = (4 : Int) from rfl]
   clear hlt hi4
   obtain ⟨oa, oc, ho⟩ := ownsRow_len HO.out
   subst ho
   obtain ⟨S, hS⟩ : ∃ S, bs (chS B R 4) = S := ⟨_, rfl⟩
   obtain ⟨SN, hSN⟩ : ∃ SN, bs (chN 4) = SN := ⟨_, rfl⟩
   have hsb : S.size ≤ 160 := by rw [← hS, bs_size]; have := chS_len HBb.out HRb.out 4; omega
   have hnb : SN.size ≤ 16 := by rw [← hSN, bs_size]; have := chN_len 4; omega
   rw [hS, hSN]
   have HS := hid hS
   have HSN := hid hSN
   have HST := hid (strsAt_row HO.out)
   have hql : (offL D 4).length ≤ 8 := by have := offL_len D 4; omega
   have HDc : Hid (decM (rts4 B R) (chL ch) ⟨bs [48, 49, 50, 51, 52, 53, 54, 55, 56, 57], 0, am, 0⟩ (dnF (rts4 B R) (offL D 4)) = chO (rts4 B R) b) := by
    show _ = _
    rw [ch_dec ch B R D am (by omega) (by omega), HFe.out, HB.out]
   have HBl : Hid (∀ y, b = some y → y < 4) := fun y hy => bestM_lt 4 y (HB.out.trans hy)
   clear hS hSN HO HB
   go_upto_if 90 with fail
   go_cut [11] (fun v wx => ∃ S2 : ByteArray, v = .string S2 ∧ S2.size ≤ 30 ∧ Hid (S2 = bs (chH ch ++ chN 4)) ∧ wx = wr)
   case first =>
    rcases Bool.eq_false_or_eq_true ch with hc | hc
    ·subst hc
     go_wp2_with fail
     go_meet
     exact ⟨_, rfl, by rw [ByteArray.size_append]; show 9 + SN.size ≤ _; omega, by show _ = _; rw [← HSN.out]; exact bs_append [99, 104, 101, 97, 112, 101, 115, 116, 32] (chN 4), rfl⟩
    ·subst hc
     go_wp2_with fail
     go_meet
     exact ⟨SN, rfl, by omega, HSN.out.symm, rfl⟩
   case rest =>
    obtain ⟨S2, rfl, hs2, HS2, hwc⟩ := hcut
    replace hwc := hwc.symm
    subst hwc
    have HT : Hid (Calls Tryz.prog 10 #[.string (((S ++ bs chM) ++ S2) ++ ⟨#[59]⟩)] wr fun e w' => (∃ T, e = .returned (.pointer (some ⟨T, 0, none⟩)) ∧ TbAt w' T (rts4 B R) (chL ch)) ∧ Fr (fun _ => False) wr w') := by
     have e : ((S ++ bs chM) ++ S2) ++ ⟨#[59]⟩ = bs (chS B R 4 ++ (chM ++ (chH ch ++ (chN 4 ++ [59])))) := by
      rw [← HS.out, HS2.out, show (⟨#[59]⟩ : ByteArray) = bs [59] from rfl]
      simp only [bs_append, List.append_assoc]
     show Calls _ _ _ _ _
     rw [e]
     exact ktable_any _ wr _ (ch_read ch B R HBb.out HRb.out)
    unfold chM at HT
    go_wp2_with fail
    refine HT.out.mono ?_
    rintro e w1 ⟨⟨T, rfl, hT⟩, hf1⟩
    have HD1 : Hid (Calls Tryz.prog 11 #[.pointer (some ⟨T, 0, none⟩), .agg #[.string ⟨#[48, 49, 50, 51, 52, 53, 54, 55, 56, 57]⟩, .int .i64 0, .int .i64 (am : Nat), .int .i64 0], .slice oa (offL D 4).length oc] w1 fun e w' => e = .returned (outV (chO (rts4 B R) b)) ∧ Fr (fun _ => False) w1 w') := by
     have e := hT.decide oa oc (offL D 4) (HST.out.fr hf1 (by simp)) (by unfold maxLen; omega) ⟨bs [48, 49, 50, 51, 52, 53, 54, 55, 56, 57], 0, am, 0⟩ (show (10 : Nat) ≤ maxLen by decide)
     rw [HDc.out] at e
     exact e
    have HF1 := hid (HFr.out.trans hf1)
    clear hT hf1 HT HS HSN HS2 hs2 hsb hnb HST HDc
    cases b with
    | none =>
     have HD2 : Hid (Calls Tryz.prog 11 #[.pointer (some ⟨T, 0, none⟩), .agg #[.string ⟨#[48, 49, 50, 51, 52, 53, 54, 55, 56, 57]⟩, .int .i64 0, .int .i64 (am : Nat), .int .i64 0], .slice oa (offL D 4).length oc] w1 fun e w' => e = .returned (.agg #[.int .i64 4, .string ⟨#[120]⟩, .string ⟨#[]⟩]) ∧ Fr (fun _ => False) w1 w') := HD1.out
     have e1 : bestI none = -1 := rfl
     clear HD1
     go_wp2_with fail
     refine HD2.out.mono ?_
     rintro e w2 ⟨rfl, hf2⟩
     have bO := heap_alloc_new w2 (oK (4, bs [120], ByteArray.empty))
     have HF2 := hid ((HF1.out.trans hf2).alloc (oK (4, bs [120], ByteArray.empty)))
     have o0 : (w2.alloc (.cells #[.int .i64 4, .string ⟨#[120]⟩, .string ⟨#[]⟩] 31)).cell? ⟨w2.heap.size, 0, none⟩ = some (.int .i64 4) := block_cell bO 0 _ rfl
     have o1 : (w2.alloc (.cells #[.int .i64 4, .string ⟨#[120]⟩, .string ⟨#[]⟩] 31)).cell? ⟨w2.heap.size, 1, none⟩ = some (.string ⟨#[120]⟩) := block_cell bO 1 _ rfl
     have o2 : (w2.alloc (.cells #[.int .i64 4, .string ⟨#[120]⟩, .string ⟨#[]⟩] 31)).cell? ⟨w2.heap.size, 2, none⟩ = some (.string ⟨#[]⟩) := block_cell bO 2 _ rfl
     clear hf2 bO HD2
     go_wp2_with fail
     go_ret
     exact ⟨rfl, HF2.out⟩
    | some x =>
     have hx4 := HBl.out x rfl
     have HD2 : Hid (Calls Tryz.prog 11 #[.pointer (some ⟨T, 0, none⟩), .agg #[.string ⟨#[48, 49, 50, 51, 52, 53, 54, 55, 56, 57]⟩, .int .i64 0, .int .i64 (am : Nat), .int .i64 0], .slice oa (offL D 4).length oc] w1 fun e w' => e = .returned (.agg #[.int .i64 0, .string ⟨#[120]⟩, .string (bs (wN x))]) ∧ Fr (fun _ => False) w1 w') := by
      have e := HD1.out
      rw [show chO (rts4 B R) (some x) = (0, bs [120], rtName (rts4 B R) x) from rfl, name4 B R hx4] at e
      exact e
     have e1 : bestI (some x) = (x : Int) := rfl
     have e2 : ¬ (x : Int) < 0 := by omega
     clear HD1 HBl
     obtain ⟨NM, hNM⟩ : ∃ NM, bs (wN x) = NM := ⟨_, rfl⟩
     rw [hNM] at HD2
     have HNM := hid hNM
     clear hNM
     go_wp2_with fail
     refine HD2.out.mono ?_
     rintro e w2 ⟨rfl, hf2⟩
     have HF2 := hid ((HF1.out.trans hf2).alloc (.cells #[.int .i64 0, .string ⟨#[120]⟩, .string NM] 31))
     have HBO := hid (heap_alloc_new w2 (.cells #[.int .i64 0, .string ⟨#[120]⟩, .string NM] 31))
     clear hf2 HD2
     go_upto_region 32 with fail
     generalize w2.alloc (.cells #[.int .i64 0, .string ⟨#[120]⟩, .string NM] 31) = w3 at *
     obtain ⟨Q, hQ⟩ : ∃ Q, w2.heap.size = Q := ⟨_, rfl⟩
     rw [hQ] at HBO
     rw [hQ]
     clear hQ
     have HSP : Hid (∀ W, Fr (fun _ => False) w3 W → W.cell? ⟨Q, 0, none⟩ = some (.int .i64 0) ∧ W.cell? ⟨Q, 1, none⟩ = some (.string ⟨#[120]⟩) ∧ W.cell? ⟨Q, 2, none⟩ = some (.string NM)) := fun W hf => by
      have e := hf.whole HBO.out (by simp)
      exact ⟨block_cell e 0 _ rfl, block_cell e 1 _ rfl, block_cell e 2 _ rfl⟩
     refine wp_region_held_drew (S := fun W => W.cell? ⟨Q, 0, none⟩ = some (.int .i64 0) ∧ W.cell? ⟨Q, 1, none⟩ = some (.string ⟨#[120]⟩) ∧ W.cell? ⟨Q, 2, none⟩ = some (.string NM)) (by kernel_rfl) (HSP.out _ (Fr.refl _ _).drew) (fun hH => ?_)
     refine held_take 0 (v := ?v0z) rfl (by kernel_rfl) (by kernel_rfl) (by kernel_rfl) (fun _ _ _ h => h) rfl ?y0z hH ?r0z
     case y0z => rintro w ⟨s0, s1, s2⟩; go_simp; with_reducible rfl
     try go_frame
     refine held_take 1 (v := ?v1z) rfl (by kernel_rfl) (by kernel_rfl) (by kernel_rfl) (fun _ _ _ h => h) rfl ?y1z hH ?r1z
     case y1z => rintro w ⟨s0, s1, s2⟩; go_simp; with_reducible rfl
     try go_frame
     refine held_take 2 (v := ?v2z) rfl (by kernel_rfl) (by kernel_rfl) (by kernel_rfl) (fun _ _ _ h => h) rfl ?y2z hH ?r2z
     case y2z => rintro w ⟨s0, s1, s2⟩; go_simp; with_reducible rfl
     try go_frame
     refine held_take 3 (v := ?v3z) rfl (by kernel_rfl) (by kernel_rfl) (by kernel_rfl) (fun _ _ _ h => h) rfl ?y3z hH ?r3z
     case y3z => rintro w ⟨s0, s1, s2⟩; go_simp; with_reducible rfl
     try go_frame
     refine held_take 4 (v := ?v4z) rfl (by kernel_rfl) (by kernel_rfl) (by kernel_rfl) (fun _ _ _ h => h) rfl ?y4z hH ?r4z
     case y4z => rintro w ⟨s0, s1, s2⟩; go_simp; with_reducible rfl
     try go_frame
     refine held_take 5 (v := ?v5z) rfl (by kernel_rfl) (by kernel_rfl) (by kernel_rfl) (fun _ _ _ h => h) rfl ?y5z hH ?r5z
     case y5z => rintro w ⟨s0, s1, s2⟩; go_simp; with_reducible rfl
     try go_frame
     refine held_take 6 (v := ?v6z) rfl (by kernel_rfl) (by kernel_rfl) (by kernel_rfl) (fun _ _ _ h => h) rfl ?y6z hH ?r6z
     case y6z => rintro w ⟨s0, s1, s2⟩; go_simp; with_reducible rfl
     try go_frame
     refine held_take 7 (v := ?v7z) rfl (by kernel_rfl) (by kernel_rfl) (by kernel_rfl) (fun _ _ _ h => h) rfl ?y7z hH ?r7z
     case y7z => rintro w ⟨s0, s1, s2⟩; go_simp; with_reducible rfl
     try go_frame
     refine held_take 8 (v := ?v8z) rfl (by kernel_rfl) (by kernel_rfl) (by kernel_rfl) (fun _ _ _ h => h) rfl ?y8z hH ?r8z
     case y8z => rintro w ⟨s0, s1, s2⟩; go_simp; with_reducible rfl
     try go_frame
     refine held_take 9 (v := ?v9z) rfl (by kernel_rfl) (by kernel_rfl) (by kernel_rfl) (fun _ _ _ h => h) rfl ?y9z hH ?r9z
     case y9z => rintro w ⟨s0, s1, s2⟩; go_simp; with_reducible rfl
     try go_frame
     refine held_take 10 (v := ?v10z) rfl (by kernel_rfl) (by kernel_rfl) (by kernel_rfl) (fun _ _ _ h => h) rfl ?y10z hH ?r10z
     case y10z => rintro w ⟨s0, s1, s2⟩; go_simp; with_reducible rfl
     try go_frame
     refine held_take 11 (v := ?v11z) rfl (by kernel_rfl) (by kernel_rfl) (by kernel_rfl) (fun _ _ _ h => h) rfl ?y11z hH ?r11z
     case y11z => rintro w ⟨s0, s1, s2⟩; go_simp; with_reducible rfl
     try go_frame
     refine wpAnyH_ready (rs := [12]) (by kernel_rfl) (by simp) ?_
     refine held_cons rfl (fun K2 hK => ?_) AllReadyH.nil
     try rw [if_pos (by rfl)]
     go_simp
     refine (HX.out x _ _ rfl (by omega)).mono ?_
     rintro e w5 ⟨rfl, hf5⟩
     have HF5 : Hid (Fr (fun _ => False) w3 w5) := ((Fr.refl _ _).drew).trans hf5
     have hcat : (⟨#[119]⟩ : ByteArray) ++ bs (digL x 1) = NM := ((bs_append [119] (digL x 1)).trans (congrArg bs (wN_text (by omega)))).trans HNM.out
     have hT1 : (bs (digL x 1)).size = 1 := by rw [bs_size, digL_len 1 x (by omega)]
     generalize bs (digL x 1) = TX at *
     clear hf5
     refine hK.out _ _ (HSP.out _ HF5.out) (fun hH => ?_)
     clear hK K2
     try go_frame
     refine held_take 13 (v := .string NM) rfl (by kernel_rfl) (by kernel_rfl) (by kernel_rfl) (fun _ _ _ h => h) rfl ?y13z hH ?r13z
     case y13z => rintro w ⟨s0, s1, s2⟩; go_simp
     try go_frame
     refine held_take 14 (v := ?v14z) rfl (by kernel_rfl) (by kernel_rfl) (by kernel_rfl) (fun _ _ _ h => h) rfl ?y14z hH ?r14z
     case y14z => rintro w ⟨s0, s1, s2⟩; go_simp; with_reducible rfl
     try go_frame
     refine held_take 15 (v := ?v15z) rfl (by kernel_rfl) (by kernel_rfl) (by kernel_rfl) (fun _ _ _ h => h) rfl ?y15z hH ?r15z
     case y15z => rintro w ⟨s0, s1, s2⟩; go_simp; with_reducible rfl
     try go_frame
     refine held_take 16 (v := ?v16z) rfl (by kernel_rfl) (by kernel_rfl) (by kernel_rfl) (fun _ _ _ h => h) rfl ?y16z hH ?r16z
     case y16z => rintro w ⟨s0, s1, s2⟩; go_simp; with_reducible rfl
     try go_frame
     refine wpAnyH_done (by kernel_rfl) ?_ _
     go_wp2_with fail
     go_ret
     exact ⟨rfl, HF2.out.trans HF5.out⟩
end Go.Proofs.YtccikgogjfbpeaaGreat
