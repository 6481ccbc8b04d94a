/- The reference: action with names. -/
import Derived.Test.YtccikgogjfbpeaaGreatDoorQu
namespace Go.Proofs.YtccikgogjfbpeaaGreatDoor
open Go.RowKit

theorem upd_twice (cs : Nat → Value) (k : Nat) (u v : Value) : upd (upd cs k u) k v = upd cs k v := by
 funext o
 unfold upd
 by_cases h : o = k <;> simp [h]
set_option maxRecDepth 30000 in
set_option maxHeartbeats 4000000 in
theorem waction_names (w : World) (p q g X i i0 : Nat) (body : List Tk) (cv : Nat) (va : Option Addr) (n vc : Nat) (rts : List RouteM) (l : List Tk) (f : Fa) (cs : Nat → Value) (ch : Bool)
  (hp : WkP w p q i f) (hv : View w p q g X body cv va n vc rts) (hx : XB w X cs) (h10 : cs 10 = .slice none 0 0) (h11 : cs 11 = .bool false) (h12 : cs 12 = .bool false) (hl : LAt body i0 l) (hb : body.length ≤ 3000)
  (t0 : Tk) (ht0 : body[i]? = some t0) (hk1 : (t0.text.toList == [100, 101, 99, 108, 105, 110, 101]) = false) (hk2 : (t0.text.toList == [99, 104, 101, 97, 112, 101, 115, 116]) = ch) (hi : i = if ch then i0 else i0 + 1) :
  Calls Tryz.prog 135 #[.pointer (some ⟨p, 0, none⟩), .pointer (some ⟨X, 0, none⟩)] w (WAPost w p q X (i0 + 2 * l.length) (refPlsF rts 1 f l) cs (l.map (fun t => lastPlace t.text (-1) 0 rts)) false ch) := by
 obtain ⟨ii, hii, hz0, hz1, hz2⟩ := info_parts Tryz.infoInt
 have HP : Hid (WkP w p q i f) := hp
 have HV : Hid (View w p q g X body cv va n vc rts) := hv
 have HX : Hid (XB w X cs) := hx
 have HL : Hid (LAt body i0 l) := hl
 have H1 : Hid (cs 10 = .slice none 0 0 ∧ cs 11 = .bool false ∧ cs 12 = .bool false) := ⟨h10, h11, h12⟩
 have HN : Hid (X ≠ p) := hv.n1.2.2.2.2
 have HPL : Hid (p < w.heap.size) := World.block_lt_of_cell? w _ hp.c0
 have HXL : Hid (X < w.heap.size) := World.block_lt_of_cell? w _ (hx.cell 0 (by omega))
 have HT0 : Hid (body[i]? = some t0) := ht0
 have HI : Hid (i = if ch then i0 else i0 + 1) := hi
 have hib : i < body.length := (List.getElem?_eq_some_iff.1 ht0).1
 have hps := hl.ps
 have hi3 : i0 + 2 * l.length < body.length := by
  obtain ⟨t, ht, _⟩ := hl.en
  exact (List.getElem?_eq_some_iff.1 ht).1
 clear hp hv hx h10 h11 h12 hl ht0 hi
 go_enter Tryz.func135, Tryz.ntmps135
 go_wp2_with fail
 refine (at_any w p q g i f body cv t0 HP.out HV.out.wt HT0.out).mono ?_
 rintro e w1 ⟨rfl, hf⟩
 have HF1 : Hid (Fr (fun _ => False) w w1) := hf
 clear hf
 go_wp2_with fail
 refine (at_any w1 p q g i f body cv t0 (HP.out.fr HF1.out (by simp)) (HV.out.fr HF1.out.no).wt HT0.out).mono ?_
 rintro e w2 ⟨rfl, hf⟩
 have HF2 : Hid (Fr (fun _ => False) w w2) := HF1.out.trans hf
 clear hf HF1
 go_upto_if 22 with fail
 go_cut [] (fun wc => Hid (WkP wc p q (i0 + 1) f) ∧ Hid (XB wc X (upd cs 12 (.bool ch))) ∧ Hid (Fr (fun j => j = p ∨ j = X) w wc))
 case first =>
  cases ch with
  | false =>
   have HP2 : Hid (WkP w2 p q (i0 + 1) f) := by have e := HP.out.fr HF2.out (by simp); rw [HI.out] at e; exact e
   go_wp2_with fail
   go_meet
   case rel => exact ⟨HP2, (HX.out.fr HF2.out (by simp)).congr (fun o _ => by unfold upd; by_cases h : o = 12 <;> simp [h, H1.out.2.2]), HF2.out.no⟩
  | true =>
   have HP2 : Hid (WkP w2 p q i0 f) := by have e := HP.out.fr HF2.out (by simp); rw [HI.out] at e; exact e
   have hs := (HX.out.fr HF2.out (by simp)).set (k := 12) (by omega) (.bool true)
   have HS : Hid (XB (w2.setCell ⟨X, 12, none⟩ (.bool true)) X (upd cs 12 (.bool true)) ∧ Fr (fun j => j = X) w2 (w2.setCell ⟨X, 12, none⟩ (.bool true))) := hs
   have HPS : Hid (WkP (w2.setCell ⟨X, 12, none⟩ (.bool true)) p q i0 f) := HP2.out.fr hs.2 (fun e => HN.out e.symm)
   have x12 := (HX.out.fr HF2.out (by simp)).cell 12 (by omega)
   have xf := (HX.out.fr HF2.out (by simp)).fz
   have c1 := HPS.out.c1
   have fz := HPS.out.fz
   clear hs
   go_wp2_with fail
   go_meet
   case rel =>
    have hm := HPS.out.move (i0 + 1)
    rw [Int.natCast_add] at hm
    exact ⟨hm.1, HS.out.1.fr hm.2 HN.out, (HF2.out.no.trans (HS.out.2.mono (fun k e => Or.inr e))).trans (hm.2.mono (fun k e => Or.inl e))⟩
 case rest =>
  obtain ⟨HPc, HXc, HFc⟩ := hcut
  obtain ⟨ds, hds⟩ : ∃ ds, ds = upd cs 12 (.bool ch) := ⟨_, rfl⟩
  rw [← hds] at HXc
  have HDS : Hid (ds = upd cs 12 (.bool ch)) := hds
  have HD10 : Hid (ds 10 = .slice none 0 0) := by show _ = _; rw [hds]; unfold upd; simp [H1.out.1]
  clear hds
  go_wp2_with fail
  go_loopg [4] l.length (fun m ko wr => ∃ j fj acc vp, j ≤ l.length ∧ m = l.length - j ∧ ko = .int .i64 ((j + 1 : Nat) : Int) ∧ Hid (acc = (l.take j).map (fun t => lastPlace t.text (-1) 0 rts)) ∧ Hid (XB wr X (upd ds 10 vp)) ∧ Hid (wr.ownsRow w.heap.size 3 1 vp j (intRowZ acc)) ∧ Hid (WkP wr p q (if j = 0 then i0 + 1 else i0 + 2 * j) fj) ∧ Hid (Fr (fun j => j = p ∨ j = X) w wr) ∧ Hid (refPlsF rts 1 f l = refPlsF rts (j + 1) fj (l.drop j)))
  case atStart => exact ⟨0, f, [], .slice none 0 0, Nat.zero_le _, rfl, rfl, rfl, HXc.out.congr (fun o _ => by unfold upd; by_cases h : o = 10 <;> simp [h, HD10.out]), World.ownsRow_nil _ _ _ _, HPc, HFc, rfl⟩
  case round =>
   obtain ⟨j, fj, acc, vp, hj, hm0, rfl, HAC, HX1, HO1, HW1, HFr, HR⟩ := hrel
   by_cases hlt : j < l.length
   ·obtain ⟨t, ht⟩ : ∃ t, l[j]? = some t := ⟨_, List.getElem?_eq_getElem hlt⟩
    obtain ⟨x, hx⟩ : ∃ x, x = i0 + 2 * j := ⟨_, rfl⟩
    obtain ⟨kk, hkk⟩ : ∃ kk : Int, kk = ((j + 1 : Nat) : Int) := ⟨_, rfl⟩
    rw [← hkk]
    have HIT : Hid (body[x + 1]? = some t) := by
     have := HL.out.it j t ht
     rw [show i0 + 1 + 2 * j = x + 1 from by omega] at this
     exact this
    have HDR : Hid (l.drop j = t :: l.drop (j + 1)) := drop_of ht
    have HTK : Hid ((l.take (j + 1)).map (fun t => lastPlace t.text (-1) 0 rts) = (l.take j).map (fun t => lastPlace t.text (-1) 0 rts) ++ [lastPlace t.text (-1) 0 rts]) := by
     show _ = _
     rw [List.take_add_one, ht, List.map_append]
     rfl
    have hxb : x + 2 ≤ 3000 := by omega
    have HXE : Hid (x = i0 + 2 * j) := hx
    have HKK : Hid (kk = ((j + 1 : Nat) : Int)) := hkk
    have hwk : IntKind.i64.wrap (kk + 1) = kk + 1 := IntWalk.i64_in _ (by omega)
    by_cases hj0 : j = 0
    ·have hk1 : (kk == 1) = true := by simp; omega
     have hk1' : decide ((1 : Int) < kk) = false := by simp; omega
     have HB4 : Hid (decide (4 < j + 1) = false) := by show _ = _; simp; omega
     have HW2 : Hid (WkP wr p q (x + 1) fj) := by have e := HW1.out; rw [if_pos hj0] at e; rw [HXE.out, hj0]; exact e
     have HF2' := HFr
     have HX2 := HX1
     have HO2 := HO1
     have HV2 : Hid (View wr p q g X body cv va n vc rts) := HV.out.fr HFr.out
     clear hj0 hx hkk ht HF2
     have HF2 := HF2'
     have hd4 : decide ((4 : Int) < kk) = false := d4_of HKK.out HB4.out
     go_wp2_with fail
     refine (fault_any _ p q g (x + 1) fj body cv t false 6 _ HW2.out HV2.out.wt HV.out.n1.1 HV.out.n1.2.1 HIT.out (by decide) (by rfl)).mono ?_
     rintro e w3 ⟨rfl, hP3, hF3⟩
     have HP3 : Hid (WkP w3 p q (x + 1) (noteM fj false 6 t.line)) := hP3
     have HF3 : Hid (Fr (fun j => j = p ∨ j = X) w w3) := HF2.out.trans (hF3.mono (fun k e => Or.inl e))
     have HX3 : Hid (XB w3 X (upd ds 10 vp)) := HX2.out.fr hF3 HN.out
     have HO3 : Hid (w3.ownsRow w.heap.size 3 1 vp j (intRowZ acc)) := ownsRow_fr HO2.out hF3 (fun k e => by rw [e]; exact HPL.out)
     have HV3 : Hid (View w3 p q g X body cv va n vc rts) := HV.out.fr HF3.out
     clear hP3 hF3
     have hn7 : n ≤ 7 := HV3.out.ln.2
     go_wp2_with fail
     go_loopg [5, 6] n (fun m fo ix wi => ∃ b, b ≤ n ∧ m = n - b ∧ ix = .int .i64 (b : Nat) ∧ (∃ lp, fo = .int .i64 lp ∧ Hid (lp = lastPlace t.text (-1) 0 (rts.take b))) ∧ Hid (Fr (fun _ => False) w3 wi))
     case atStart => exact ⟨0, Nat.zero_le _, rfl, rfl, ⟨-1, rfl, rfl⟩, Fr.refl _ _⟩
     case round =>
      obtain ⟨b, hbn, hgk, rfl, ⟨lp, rfl, HLP⟩, HFi⟩ := hrel
      have HPi : Hid (WkP wr p q (x + 1) (noteM fj false 6 t.line)) := HP3.out.fr HFi.out (by simp)
      have HVi : Hid (View wr p q g X body cv va n vc rts) := HV3.out.fr HFi.out.no
      have c0 := HPi.out.c0
      have q1 := HVi.out.q1
      by_cases hlt2 : b < n
      ·obtain ⟨y, hy⟩ : ∃ y, rts[b]? = some y := ⟨_, List.getElem?_eq_getElem (by have := HVi.out.ln.1; omega)⟩
       obtain ⟨g3, hva, hg3, hx3, hl3, r0⟩ := HVi.out.row b y hy
       have HVA : Hid (va = some ⟨g3, 0, none⟩) := hva
       rw [hva] at q1
       have HLN : Hid (lastPlace t.text (-1) 0 (rts.take (b + 1)) = if (y.name.toList == t.text.toList) = true then (b : Int) else lastPlace t.text (-1) 0 (rts.take b)) := lastPlace_take hy
       obtain ⟨bx, hbx⟩ : ∃ bx, (y.name.toList == t.text.toList) = bx := ⟨_, rfl⟩
       have HBX : Hid ((y.name.toList == t.text.toList) = bx) := hbx
       have hki : (b : Int) < (n : Int) := by omega
       have HC0 : Hid (∀ W, Fr (fun _ => False) wr W → W.cell? ⟨p, 0, none⟩ = some (.pointer (some ⟨q, 0, none⟩)) ∧ W.cell? ⟨q, 1, none⟩ = some (.slice (some ⟨g3, 0, none⟩) n vc) ∧ W.cell? ⟨g3, b * 3, none⟩ = some (.string y.name)) := fun W hW => ⟨(HPi.out.fr hW (by simp)).c0, by have e := (HVi.out.fr hW.no).q1; rw [HVA.out] at e; exact e, (hW.cell (p := ⟨g3, b * 3, none⟩) hl3 (by simp)).trans r0⟩
       have HA : Hid (∀ W, Fr (fun _ => False) wr W → Calls Tryz.prog 80 #[.pointer (some ⟨p, 0, none⟩)] W fun e w' => e = .returned (.string t.text) ∧ Fr (fun _ => False) W w') := fun W hW => at_any W p q g (x + 1) _ body cv t (HPi.out.fr hW (by simp)) (HVi.out.fr hW.no).wt HIT.out
       clear hy hva
       go_wp2_with fail
       go_cut [80] from 55 to 81 (fun s wx => s = .bool bx ∧ Hid (Fr (fun _ => False) wr wx))
       case first =>
        go_region_with (go_at_call 80; refine (HA.out _ (by exact (Fr.refl _ _).drew)).mono ?_; rintro e w5 ⟨rfl, hf⟩; have HF5 : Hid (Fr (fun _ => False) wr w5) := ((Fr.refl _ _).drew).trans hf; have k0 := (HC0.out w5 HF5.out).1; have k1 := (HC0.out w5 HF5.out).2.1; have k2 := (HC0.out w5 HF5.out).2.2; clear hf)
        all_goals (go_wp2_with fail; go_meet; exact ⟨rfl, HF5⟩)
       case rest =>
        obtain ⟨rfl, HFx⟩ := hcut
        clear c0 q1 r0
        cases bx with
        | true =>
         go_wp2
         go_roundg (n - (b + 1))
         case measure => omega
         case rel => exact ⟨b + 1, by omega, rfl, by go_num, ⟨b, rfl, by show _ = _; rw [HLN.out, HBX.out]; rfl⟩, HFi.out.trans HFx.out⟩
        | false =>
         go_wp2
         go_roundg (n - (b + 1))
         case measure => omega
         case rel => exact ⟨b + 1, by omega, rfl, by go_num, ⟨lp, rfl, by show _ = _; rw [HLN.out, HBX.out]; exact HLP.out⟩, HFi.out.trans HFx.out⟩
      ·have hki : ¬ (b : Int) < (n : Int) := by omega
       have HLP' : Hid (lp = lastPlace t.text (-1) 0 rts) := by
        have e := HLP.out
        rw [List.take_of_length_le (by have := HVi.out.ln.1; omega)] at e
        exact e
       obtain ⟨bf, hbf⟩ : ∃ bf, decide (lp < 0) = bf := ⟨_, rfl⟩
       have HBF : Hid (decide (lp < 0) = bf) := hbf
       have HFI : Hid (Fr (fun j => j = p ∨ j = X) w wr) := HF3.out.trans HFi.out.no
       have HXi : Hid (XB wr X (upd ds 10 vp)) := HX3.out.fr HFi.out (by simp)
       have HOi : Hid (wr.ownsRow w.heap.size 3 1 vp j (intRowZ acc)) := ownsRow_fr HO3.out HFi.out (by simp)
       clear HLP hgk
       go_wp2_with fail
       refine (fault_any _ p q g (x + 1) _ body cv t bf 4 _ HPi.out HVi.out.wt HV.out.n1.1 HV.out.n1.2.1 HIT.out (by decide) (by rfl)).mono ?_
       rintro e w5 ⟨rfl, hP5, hF5⟩
       have HP5 : Hid (WkP w5 p q (x + 1) (noteM (noteM fj false 6 t.line) bf 4 t.line)) := hP5
       have HF5 : Hid (Fr (fun j => j = p ∨ j = X) w w5) := HFI.out.trans (hF5.mono (fun k e => Or.inl e))
       have HX5 : Hid (XB w5 X (upd ds 10 vp)) := HXi.out.fr hF5 HN.out
       have HO5 : Hid (w5.ownsRow w.heap.size 3 1 vp j (intRowZ acc)) := ownsRow_fr HOi.out hF5 (fun k e => by rw [e]; exact HPL.out)
       have hs5 := HF5.out.size
       have x10 : w5.cell? ⟨X, 10, none⟩ = some vp := by have e := HX5.out.cell 10 (by omega); unfold upd at e; simpa using e
       clear hP5 hF5 c0 q1
       go_wp2_with (at_builtin; refine wpList_append_lies _ rfl (.tmp 90) (.tmp 92) 25 rfl w.heap.size 3 ii _ 1 8 Tryz.underlying25 hii hz0 hz1 hz2 rfl (by decide) vp j (intRowZ acc) rfl ?h1 ⟨w5.heap.size, 0, none⟩ 1 1 [.int .i64 lp] rfl rfl ?h2 ?h3 (by decide) ?h4 ?h5 ?h6 _ rfl ?h7)
       case h1 => exact HO5.out.alloc _
       try case h2 => exact World.news_of_block (heap_alloc_new w5 (.cells #[.int .i64 lp] 3))
       case h3 => simp [Value.oneCell']
       case h4 => unfold maxLen; omega
       case h5 => omega
       case h6 => first | omega | (simp; omega)
       case h7 =>
        intro g2 cap2 w6 hown hgrow _ _
        have hrow : ∀ k, vp.ownBlock = some k → w.heap.size ≤ k := fun k hk => (HO5.out.lt k hk).1
        have hFo : Fr (fun k => vp.ownBlock = some k) w5 w6 := ((Fr.refl (fun k => vp.ownBlock = some k) w5).alloc _).grown hgrow (fun k hk => Or.inl hk)
        have HO6 : Hid (w6.ownsRow w.heap.size 3 1 (.slice (some ⟨g2, 0, none⟩) (j + 1) cap2) (j + 1) (intRowZ acc ++ [.int .i64 lp])) := hown
        have HF6 : Hid (Fr (fun j => j = p ∨ j = X) w w6) := (HF5.out.alloc _).grown hgrow (fun k hk => Or.inr (hrow k hk))
        have HX6 : Hid (XB w6 X (upd ds 10 vp)) := HX5.out.fr hFo (fun e => by have := hrow X e; have := HXL.out; omega)
        have HP6 : Hid (WkP w6 p q (x + 1) (noteM (noteM fj false 6 t.line) bf 4 t.line)) := HP5.out.fr hFo (fun e => by have := hrow p e; have := HPL.out; omega)
        have x10' : w6.cell? ⟨X, 10, none⟩ = some vp := by have e := HX6.out.cell 10 (by omega); unfold upd at e; simpa using e
        have xf := HX6.out.fz
        have hs := HX6.out.set (k := 10) (by omega) (.slice (some ⟨g2, 0, none⟩) (j + 1) cap2)
        rw [upd_twice] at hs
        have HS : Hid (XB (w6.setCell ⟨X, 10, none⟩ (.slice (some ⟨g2, 0, none⟩) (j + 1) cap2)) X (upd ds 10 (.slice (some ⟨g2, 0, none⟩) (j + 1) cap2)) ∧ Fr (fun j => j = X) w6 (w6.setCell ⟨X, 10, none⟩ (.slice (some ⟨g2, 0, none⟩) (j + 1) cap2))) := hs
        have HPS : Hid (WkP (w6.setCell ⟨X, 10, none⟩ (.slice (some ⟨g2, 0, none⟩) (j + 1) cap2)) p q (x + 1) (noteM (noteM fj false 6 t.line) bf 4 t.line)) := HP6.out.fr hs.2 (fun e => HN.out e.symm)
        have c1 := HPS.out.c1
        have fz := HPS.out.fz
        clear hgrow hown hrow hFo hs x10
        go_wp2
        go_roundg (l.length - (j + 1))
        case measure => omega
        case rel =>
         have hm := HPS.out.move (x + 1 + 1)
         rw [Int.natCast_add (x + 1)] at hm
         refine ⟨j + 1, noteM (noteM fj false 6 t.line) bf 4 t.line, acc ++ [lp], .slice (some ⟨g2, 0, none⟩) (j + 1) cap2, by omega, rfl, by rw [HKK.out]; go_num, ?_, ?_, ?_, ?_, ?_, ?_⟩
         ·show _ = _
          rw [HAC.out, HTK.out, HLP'.out]
         ·exact HS.out.1.fr hm.2 HN.out
         ·show World.ownsRow _ _ _ _ _ _ _
          rw [intRowZ_snoc]
          exact ownsRow_fr (ownsRow_setCell_below HO6.out (by have := HXL.out; simpa using this) _) hm.2 (fun k e => by rw [e]; exact HPL.out)
         ·show WkP _ _ _ _ _
          rw [if_neg (by omega), show i0 + 2 * (j + 1) = x + 1 + 1 from by have := HXE.out; omega]
          exact hm.1
         ·exact (HF6.out.trans (HS.out.2.mono (fun k e => Or.inr e))).trans (hm.2.mono (fun k e => Or.inl e))
         ·show _ = _
          rw [HR.out, HDR.out]
          simp only [refPlsF]
          rw [HB4.out, ← HLP'.out, HBF.out]
    ·have hk1 : (kk == 1) = false := by simp; omega
     have hk1' : decide ((1 : Int) < kk) = true := by simp; omega
     obtain ⟨tc, htc, hcm⟩ := HL.out.cm j (by omega) hlt
     rw [← hx] at htc
     have HC : Hid (body[x]? = some tc) := htc
     have HW1' : Hid (WkP wr p q x fj) := by have e := HW1.out; rw [if_neg hj0] at e; rw [HXE.out]; exact e
     have HJP : Hid (0 < j) := by show _ < _; omega
     clear htc hj0 hk1'
     by_cases h4 : 4 < j + 1
     ·have HB4 : Hid (decide (4 < j + 1) = true) := by show _ = _; simp; omega
      clear h4 hx hkk ht HF2
      go_wp2_with fail
      refine (at_any wr p q g x fj body cv tc HW1'.out (HV.out.fr HFr.out).wt HC.out).mono ?_
      rintro e w1 ⟨rfl, hf⟩
      have HWa : Hid (WkP w1 p q x fj) := HW1'.out.fr hf (by simp)
      have HFa : Hid (Fr (fun j => j = p ∨ j = X) w w1) := HFr.out.trans hf.no
      have HXa : Hid (XB w1 X (upd ds 10 vp)) := HX1.out.fr hf (by simp)
      have HOa : Hid (w1.ownsRow w.heap.size 3 1 vp j (intRowZ acc)) := ownsRow_fr HO1.out hf (by simp)
      have c1 := HWa.out.c1
      have fz := HWa.out.fz
      have hm := HWa.out.move (x + 1)
      rw [Int.natCast_add] at hm
      have HW2 : Hid (WkP (w1.setCell ⟨p, 1, none⟩ (.int .i64 ((x : Int) + 1))) p q (x + 1) fj) := hm.1
      have HF2 : Hid (Fr (fun j => j = p ∨ j = X) w (w1.setCell ⟨p, 1, none⟩ (.int .i64 ((x : Int) + 1)))) := HFa.out.trans (hm.2.mono (fun k e => Or.inl e))
      have HX2 : Hid (XB (w1.setCell ⟨p, 1, none⟩ (.int .i64 ((x : Int) + 1))) X (upd ds 10 vp)) := HXa.out.fr hm.2 HN.out
      have HO2 : Hid ((w1.setCell ⟨p, 1, none⟩ (.int .i64 ((x : Int) + 1))).ownsRow w.heap.size 3 1 vp j (intRowZ acc)) := ownsRow_fr HOa.out hm.2 (fun k e => by rw [e]; exact HPL.out)
      have HV2 : Hid (View (w1.setCell ⟨p, 1, none⟩ (.int .i64 ((x : Int) + 1))) p q g X body cv va n vc rts) := HV.out.fr HF2.out
      clear hf hm
      have hk1' : decide ((1 : Int) < kk) = true := by have := HKK.out; have := HJP.out; simp; omega
      have hd4 : decide ((4 : Int) < kk) = true := d4_of HKK.out HB4.out
      go_wp2_with fail
      refine (fault_any _ p q g (x + 1) fj body cv t true 6 _ HW2.out HV2.out.wt HV.out.n1.1 HV.out.n1.2.1 HIT.out (by decide) (by rfl)).mono ?_
      rintro e w3 ⟨rfl, hP3, hF3⟩
      have HP3 : Hid (WkP w3 p q (x + 1) (noteM fj true 6 t.line)) := hP3
      have HF3 : Hid (Fr (fun j => j = p ∨ j = X) w w3) := HF2.out.trans (hF3.mono (fun k e => Or.inl e))
      have HX3 : Hid (XB w3 X (upd ds 10 vp)) := HX2.out.fr hF3 HN.out
      have HO3 : Hid (w3.ownsRow w.heap.size 3 1 vp j (intRowZ acc)) := ownsRow_fr HO2.out hF3 (fun k e => by rw [e]; exact HPL.out)
      have HV3 : Hid (View w3 p q g X body cv va n vc rts) := HV.out.fr HF3.out
      clear hP3 hF3
      have hn7 : n ≤ 7 := HV3.out.ln.2
      go_wp2_with fail
      go_loopg [5, 6] n (fun m fo ix wi => ∃ b, b ≤ n ∧ m = n - b ∧ ix = .int .i64 (b : Nat) ∧ (∃ lp, fo = .int .i64 lp ∧ Hid (lp = lastPlace t.text (-1) 0 (rts.take b))) ∧ Hid (Fr (fun _ => False) w3 wi))
      case atStart => exact ⟨0, Nat.zero_le _, rfl, rfl, ⟨-1, rfl, rfl⟩, Fr.refl _ _⟩
      case round =>
       obtain ⟨b, hbn, hgk, rfl, ⟨lp, rfl, HLP⟩, HFi⟩ := hrel
       have HPi : Hid (WkP wr p q (x + 1) (noteM fj true 6 t.line)) := HP3.out.fr HFi.out (by simp)
       have HVi : Hid (View wr p q g X body cv va n vc rts) := HV3.out.fr HFi.out.no
       have c0 := HPi.out.c0
       have q1 := HVi.out.q1
       by_cases hlt2 : b < n
       ·obtain ⟨y, hy⟩ : ∃ y, rts[b]? = some y := ⟨_, List.getElem?_eq_getElem (by have := HVi.out.ln.1; omega)⟩
        obtain ⟨g3, hva, hg3, hx3, hl3, r0⟩ := HVi.out.row b y hy
        have HVA : Hid (va = some ⟨g3, 0, none⟩) := hva
        rw [hva] at q1
        have HLN : Hid (lastPlace t.text (-1) 0 (rts.take (b + 1)) = if (y.name.toList == t.text.toList) = true then (b : Int) else lastPlace t.text (-1) 0 (rts.take b)) := lastPlace_take hy
        obtain ⟨bx, hbx⟩ : ∃ bx, (y.name.toList == t.text.toList) = bx := ⟨_, rfl⟩
        have HBX : Hid ((y.name.toList == t.text.toList) = bx) := hbx
        have hki : (b : Int) < (n : Int) := by omega
        have HC0 : Hid (∀ W, Fr (fun _ => False) wr W → W.cell? ⟨p, 0, none⟩ = some (.pointer (some ⟨q, 0, none⟩)) ∧ W.cell? ⟨q, 1, none⟩ = some (.slice (some ⟨g3, 0, none⟩) n vc) ∧ W.cell? ⟨g3, b * 3, none⟩ = some (.string y.name)) := fun W hW => ⟨(HPi.out.fr hW (by simp)).c0, by have e := (HVi.out.fr hW.no).q1; rw [HVA.out] at e; exact e, (hW.cell (p := ⟨g3, b * 3, none⟩) hl3 (by simp)).trans r0⟩
        have HA : Hid (∀ W, Fr (fun _ => False) wr W → Calls Tryz.prog 80 #[.pointer (some ⟨p, 0, none⟩)] W fun e w' => e = .returned (.string t.text) ∧ Fr (fun _ => False) W w') := fun W hW => at_any W p q g (x + 1) _ body cv t (HPi.out.fr hW (by simp)) (HVi.out.fr hW.no).wt HIT.out
        clear hy hva
        go_wp2_with fail
        go_cut [80] from 55 to 81 (fun s wx => s = .bool bx ∧ Hid (Fr (fun _ => False) wr wx))
        case first =>
         go_region_with (go_at_call 80; refine (HA.out _ (by exact (Fr.refl _ _).drew)).mono ?_; rintro e w5 ⟨rfl, hf⟩; have HF5 : Hid (Fr (fun _ => False) wr w5) := ((Fr.refl _ _).drew).trans hf; have k0 := (HC0.out w5 HF5.out).1; have k1 := (HC0.out w5 HF5.out).2.1; have k2 := (HC0.out w5 HF5.out).2.2; clear hf)
         all_goals (go_wp2_with fail; go_meet; exact ⟨rfl, HF5⟩)
        case rest =>
         obtain ⟨rfl, HFx⟩ := hcut
         clear c0 q1 r0
         cases bx with
         | true =>
          go_wp2
          go_roundg (n - (b + 1))
          case measure => omega
          case rel => exact ⟨b + 1, by omega, rfl, by go_num, ⟨b, rfl, by show _ = _; rw [HLN.out, HBX.out]; rfl⟩, HFi.out.trans HFx.out⟩
         | false =>
          go_wp2
          go_roundg (n - (b + 1))
          case measure => omega
          case rel => exact ⟨b + 1, by omega, rfl, by go_num, ⟨lp, rfl, by show _ = _; rw [HLN.out, HBX.out]; exact HLP.out⟩, HFi.out.trans HFx.out⟩
       ·have hki : ¬ (b : Int) < (n : Int) := by omega
        have HLP' : Hid (lp = lastPlace t.text (-1) 0 rts) := by
         have e := HLP.out
         rw [List.take_of_length_le (by have := HVi.out.ln.1; omega)] at e
         exact e
        obtain ⟨bf, hbf⟩ : ∃ bf, decide (lp < 0) = bf := ⟨_, rfl⟩
        have HBF : Hid (decide (lp < 0) = bf) := hbf
        have HFI : Hid (Fr (fun j => j = p ∨ j = X) w wr) := HF3.out.trans HFi.out.no
        have HXi : Hid (XB wr X (upd ds 10 vp)) := HX3.out.fr HFi.out (by simp)
        have HOi : Hid (wr.ownsRow w.heap.size 3 1 vp j (intRowZ acc)) := ownsRow_fr HO3.out HFi.out (by simp)
        clear HLP hgk
        go_wp2_with fail
        refine (fault_any _ p q g (x + 1) _ body cv t bf 4 _ HPi.out HVi.out.wt HV.out.n1.1 HV.out.n1.2.1 HIT.out (by decide) (by rfl)).mono ?_
        rintro e w5 ⟨rfl, hP5, hF5⟩
        have HP5 : Hid (WkP w5 p q (x + 1) (noteM (noteM fj true 6 t.line) bf 4 t.line)) := hP5
        have HF5 : Hid (Fr (fun j => j = p ∨ j = X) w w5) := HFI.out.trans (hF5.mono (fun k e => Or.inl e))
        have HX5 : Hid (XB w5 X (upd ds 10 vp)) := HXi.out.fr hF5 HN.out
        have HO5 : Hid (w5.ownsRow w.heap.size 3 1 vp j (intRowZ acc)) := ownsRow_fr HOi.out hF5 (fun k e => by rw [e]; exact HPL.out)
        have hs5 := HF5.out.size
        have x10 : w5.cell? ⟨X, 10, none⟩ = some vp := by have e := HX5.out.cell 10 (by omega); unfold upd at e; simpa using e
        clear hP5 hF5 c0 q1
        go_wp2_with (at_builtin; refine wpList_append_lies _ rfl (.tmp 90) (.tmp 92) 25 rfl w.heap.size 3 ii _ 1 8 Tryz.underlying25 hii hz0 hz1 hz2 rfl (by decide) vp j (intRowZ acc) rfl ?h1 ⟨w5.heap.size, 0, none⟩ 1 1 [.int .i64 lp] rfl rfl ?h2 ?h3 (by decide) ?h4 ?h5 ?h6 _ rfl ?h7)
        case h1 => exact HO5.out.alloc _
        try case h2 => exact World.news_of_block (heap_alloc_new w5 (.cells #[.int .i64 lp] 3))
        case h3 => simp [Value.oneCell']
        case h4 => unfold maxLen; omega
        case h5 => omega
        case h6 => first | omega | (simp; omega)
        case h7 =>
         intro g2 cap2 w6 hown hgrow _ _
         have hrow : ∀ k, vp.ownBlock = some k → w.heap.size ≤ k := fun k hk => (HO5.out.lt k hk).1
         have hFo : Fr (fun k => vp.ownBlock = some k) w5 w6 := ((Fr.refl (fun k => vp.ownBlock = some k) w5).alloc _).grown hgrow (fun k hk => Or.inl hk)
         have HO6 : Hid (w6.ownsRow w.heap.size 3 1 (.slice (some ⟨g2, 0, none⟩) (j + 1) cap2) (j + 1) (intRowZ acc ++ [.int .i64 lp])) := hown
         have HF6 : Hid (Fr (fun j => j = p ∨ j = X) w w6) := (HF5.out.alloc _).grown hgrow (fun k hk => Or.inr (hrow k hk))
         have HX6 : Hid (XB w6 X (upd ds 10 vp)) := HX5.out.fr hFo (fun e => by have := hrow X e; have := HXL.out; omega)
         have HP6 : Hid (WkP w6 p q (x + 1) (noteM (noteM fj true 6 t.line) bf 4 t.line)) := HP5.out.fr hFo (fun e => by have := hrow p e; have := HPL.out; omega)
         have x10' : w6.cell? ⟨X, 10, none⟩ = some vp := by have e := HX6.out.cell 10 (by omega); unfold upd at e; simpa using e
         have xf := HX6.out.fz
         have hs := HX6.out.set (k := 10) (by omega) (.slice (some ⟨g2, 0, none⟩) (j + 1) cap2)
         rw [upd_twice] at hs
         have HS : Hid (XB (w6.setCell ⟨X, 10, none⟩ (.slice (some ⟨g2, 0, none⟩) (j + 1) cap2)) X (upd ds 10 (.slice (some ⟨g2, 0, none⟩) (j + 1) cap2)) ∧ Fr (fun j => j = X) w6 (w6.setCell ⟨X, 10, none⟩ (.slice (some ⟨g2, 0, none⟩) (j + 1) cap2))) := hs
         have HPS : Hid (WkP (w6.setCell ⟨X, 10, none⟩ (.slice (some ⟨g2, 0, none⟩) (j + 1) cap2)) p q (x + 1) (noteM (noteM fj true 6 t.line) bf 4 t.line)) := HP6.out.fr hs.2 (fun e => HN.out e.symm)
         have c1 := HPS.out.c1
         have fz := HPS.out.fz
         clear hgrow hown hrow hFo hs x10
         go_wp2
         go_roundg (l.length - (j + 1))
         case measure => omega
         case rel =>
          have hm := HPS.out.move (x + 1 + 1)
          rw [Int.natCast_add (x + 1)] at hm
          refine ⟨j + 1, noteM (noteM fj true 6 t.line) bf 4 t.line, acc ++ [lp], .slice (some ⟨g2, 0, none⟩) (j + 1) cap2, by omega, rfl, by rw [HKK.out]; go_num, ?_, ?_, ?_, ?_, ?_, ?_⟩
          ·show _ = _
           rw [HAC.out, HTK.out, HLP'.out]
          ·exact HS.out.1.fr hm.2 HN.out
          ·show World.ownsRow _ _ _ _ _ _ _
           rw [intRowZ_snoc]
           exact ownsRow_fr (ownsRow_setCell_below HO6.out (by have := HXL.out; simpa using this) _) hm.2 (fun k e => by rw [e]; exact HPL.out)
          ·show WkP _ _ _ _ _
           rw [if_neg (by omega), show i0 + 2 * (j + 1) = x + 1 + 1 from by have := HXE.out; omega]
           exact hm.1
          ·exact (HF6.out.trans (HS.out.2.mono (fun k e => Or.inr e))).trans (hm.2.mono (fun k e => Or.inl e))
          ·show _ = _
           rw [HR.out, HDR.out]
           simp only [refPlsF]
           rw [HB4.out, ← HLP'.out, HBF.out]
     ·have HB4 : Hid (decide (4 < j + 1) = false) := by show _ = _; simp; omega
      clear h4 hx hkk ht HF2
      go_wp2_with fail
      refine (at_any wr p q g x fj body cv tc HW1'.out (HV.out.fr HFr.out).wt HC.out).mono ?_
      rintro e w1 ⟨rfl, hf⟩
      have HWa : Hid (WkP w1 p q x fj) := HW1'.out.fr hf (by simp)
      have HFa : Hid (Fr (fun j => j = p ∨ j = X) w w1) := HFr.out.trans hf.no
      have HXa : Hid (XB w1 X (upd ds 10 vp)) := HX1.out.fr hf (by simp)
      have HOa : Hid (w1.ownsRow w.heap.size 3 1 vp j (intRowZ acc)) := ownsRow_fr HO1.out hf (by simp)
      have c1 := HWa.out.c1
      have fz := HWa.out.fz
      have hm := HWa.out.move (x + 1)
      rw [Int.natCast_add] at hm
      have HW2 : Hid (WkP (w1.setCell ⟨p, 1, none⟩ (.int .i64 ((x : Int) + 1))) p q (x + 1) fj) := hm.1
      have HF2 : Hid (Fr (fun j => j = p ∨ j = X) w (w1.setCell ⟨p, 1, none⟩ (.int .i64 ((x : Int) + 1)))) := HFa.out.trans (hm.2.mono (fun k e => Or.inl e))
      have HX2 : Hid (XB (w1.setCell ⟨p, 1, none⟩ (.int .i64 ((x : Int) + 1))) X (upd ds 10 vp)) := HXa.out.fr hm.2 HN.out
      have HO2 : Hid ((w1.setCell ⟨p, 1, none⟩ (.int .i64 ((x : Int) + 1))).ownsRow w.heap.size 3 1 vp j (intRowZ acc)) := ownsRow_fr HOa.out hm.2 (fun k e => by rw [e]; exact HPL.out)
      have HV2 : Hid (View (w1.setCell ⟨p, 1, none⟩ (.int .i64 ((x : Int) + 1))) p q g X body cv va n vc rts) := HV.out.fr HF2.out
      clear hf hm
      have hk1' : decide ((1 : Int) < kk) = true := by have := HKK.out; have := HJP.out; simp; omega
      have hd4 : decide ((4 : Int) < kk) = false := d4_of HKK.out HB4.out
      go_wp2_with fail
      refine (fault_any _ p q g (x + 1) fj body cv t false 6 _ HW2.out HV2.out.wt HV.out.n1.1 HV.out.n1.2.1 HIT.out (by decide) (by rfl)).mono ?_
      rintro e w3 ⟨rfl, hP3, hF3⟩
      have HP3 : Hid (WkP w3 p q (x + 1) (noteM fj false 6 t.line)) := hP3
      have HF3 : Hid (Fr (fun j => j = p ∨ j = X) w w3) := HF2.out.trans (hF3.mono (fun k e => Or.inl e))
      have HX3 : Hid (XB w3 X (upd ds 10 vp)) := HX2.out.fr hF3 HN.out
      have HO3 : Hid (w3.ownsRow w.heap.size 3 1 vp j (intRowZ acc)) := ownsRow_fr HO2.out hF3 (fun k e => by rw [e]; exact HPL.out)
      have HV3 : Hid (View w3 p q g X body cv va n vc rts) := HV.out.fr HF3.out
      clear hP3 hF3
      have hn7 : n ≤ 7 := HV3.out.ln.2
      go_wp2_with fail
      go_loopg [5, 6] n (fun m fo ix wi => ∃ b, b ≤ n ∧ m = n - b ∧ ix = .int .i64 (b : Nat) ∧ (∃ lp, fo = .int .i64 lp ∧ Hid (lp = lastPlace t.text (-1) 0 (rts.take b))) ∧ Hid (Fr (fun _ => False) w3 wi))
      case atStart => exact ⟨0, Nat.zero_le _, rfl, rfl, ⟨-1, rfl, rfl⟩, Fr.refl _ _⟩
      case round =>
       obtain ⟨b, hbn, hgk, rfl, ⟨lp, rfl, HLP⟩, HFi⟩ := hrel
       have HPi : Hid (WkP wr p q (x + 1) (noteM fj false 6 t.line)) := HP3.out.fr HFi.out (by simp)
       have HVi : Hid (View wr p q g X body cv va n vc rts) := HV3.out.fr HFi.out.no
       have c0 := HPi.out.c0
       have q1 := HVi.out.q1
       by_cases hlt2 : b < n
       ·obtain ⟨y, hy⟩ : ∃ y, rts[b]? = some y := ⟨_, List.getElem?_eq_getElem (by have := HVi.out.ln.1; omega)⟩
        obtain ⟨g3, hva, hg3, hx3, hl3, r0⟩ := HVi.out.row b y hy
        have HVA : Hid (va = some ⟨g3, 0, none⟩) := hva
        rw [hva] at q1
        have HLN : Hid (lastPlace t.text (-1) 0 (rts.take (b + 1)) = if (y.name.toList == t.text.toList) = true then (b : Int) else lastPlace t.text (-1) 0 (rts.take b)) := lastPlace_take hy
        obtain ⟨bx, hbx⟩ : ∃ bx, (y.name.toList == t.text.toList) = bx := ⟨_, rfl⟩
        have HBX : Hid ((y.name.toList == t.text.toList) = bx) := hbx
        have hki : (b : Int) < (n : Int) := by omega
        have HC0 : Hid (∀ W, Fr (fun _ => False) wr W → W.cell? ⟨p, 0, none⟩ = some (.pointer (some ⟨q, 0, none⟩)) ∧ W.cell? ⟨q, 1, none⟩ = some (.slice (some ⟨g3, 0, none⟩) n vc) ∧ W.cell? ⟨g3, b * 3, none⟩ = some (.string y.name)) := fun W hW => ⟨(HPi.out.fr hW (by simp)).c0, by have e := (HVi.out.fr hW.no).q1; rw [HVA.out] at e; exact e, (hW.cell (p := ⟨g3, b * 3, none⟩) hl3 (by simp)).trans r0⟩
        have HA : Hid (∀ W, Fr (fun _ => False) wr W → Calls Tryz.prog 80 #[.pointer (some ⟨p, 0, none⟩)] W fun e w' => e = .returned (.string t.text) ∧ Fr (fun _ => False) W w') := fun W hW => at_any W p q g (x + 1) _ body cv t (HPi.out.fr hW (by simp)) (HVi.out.fr hW.no).wt HIT.out
        clear hy hva
        go_wp2_with fail
        go_cut [80] from 55 to 81 (fun s wx => s = .bool bx ∧ Hid (Fr (fun _ => False) wr wx))
        case first =>
         go_region_with (go_at_call 80; refine (HA.out _ (by exact (Fr.refl _ _).drew)).mono ?_; rintro e w5 ⟨rfl, hf⟩; have HF5 : Hid (Fr (fun _ => False) wr w5) := ((Fr.refl _ _).drew).trans hf; have k0 := (HC0.out w5 HF5.out).1; have k1 := (HC0.out w5 HF5.out).2.1; have k2 := (HC0.out w5 HF5.out).2.2; clear hf)
         all_goals (go_wp2_with fail; go_meet; exact ⟨rfl, HF5⟩)
        case rest =>
         obtain ⟨rfl, HFx⟩ := hcut
         clear c0 q1 r0
         cases bx with
         | true =>
          go_wp2
          go_roundg (n - (b + 1))
          case measure => omega
          case rel => exact ⟨b + 1, by omega, rfl, by go_num, ⟨b, rfl, by show _ = _; rw [HLN.out, HBX.out]; rfl⟩, HFi.out.trans HFx.out⟩
         | false =>
          go_wp2
          go_roundg (n - (b + 1))
          case measure => omega
          case rel => exact ⟨b + 1, by omega, rfl, by go_num, ⟨lp, rfl, by show _ = _; rw [HLN.out, HBX.out]; exact HLP.out⟩, HFi.out.trans HFx.out⟩
       ·have hki : ¬ (b : Int) < (n : Int) := by omega
        have HLP' : Hid (lp = lastPlace t.text (-1) 0 rts) := by
         have e := HLP.out
         rw [List.take_of_length_le (by have := HVi.out.ln.1; omega)] at e
         exact e
        obtain ⟨bf, hbf⟩ : ∃ bf, decide (lp < 0) = bf := ⟨_, rfl⟩
        have HBF : Hid (decide (lp < 0) = bf) := hbf
        have HFI : Hid (Fr (fun j => j = p ∨ j = X) w wr) := HF3.out.trans HFi.out.no
        have HXi : Hid (XB wr X (upd ds 10 vp)) := HX3.out.fr HFi.out (by simp)
        have HOi : Hid (wr.ownsRow w.heap.size 3 1 vp j (intRowZ acc)) := ownsRow_fr HO3.out HFi.out (by simp)
        clear HLP hgk
        go_wp2_with fail
        refine (fault_any _ p q g (x + 1) _ body cv t bf 4 _ HPi.out HVi.out.wt HV.out.n1.1 HV.out.n1.2.1 HIT.out (by decide) (by rfl)).mono ?_
        rintro e w5 ⟨rfl, hP5, hF5⟩
        have HP5 : Hid (WkP w5 p q (x + 1) (noteM (noteM fj false 6 t.line) bf 4 t.line)) := hP5
        have HF5 : Hid (Fr (fun j => j = p ∨ j = X) w w5) := HFI.out.trans (hF5.mono (fun k e => Or.inl e))
        have HX5 : Hid (XB w5 X (upd ds 10 vp)) := HXi.out.fr hF5 HN.out
        have HO5 : Hid (w5.ownsRow w.heap.size 3 1 vp j (intRowZ acc)) := ownsRow_fr HOi.out hF5 (fun k e => by rw [e]; exact HPL.out)
        have hs5 := HF5.out.size
        have x10 : w5.cell? ⟨X, 10, none⟩ = some vp := by have e := HX5.out.cell 10 (by omega); unfold upd at e; simpa using e
        clear hP5 hF5 c0 q1
        go_wp2_with (at_builtin; refine wpList_append_lies _ rfl (.tmp 90) (.tmp 92) 25 rfl w.heap.size 3 ii _ 1 8 Tryz.underlying25 hii hz0 hz1 hz2 rfl (by decide) vp j (intRowZ acc) rfl ?h1 ⟨w5.heap.size, 0, none⟩ 1 1 [.int .i64 lp] rfl rfl ?h2 ?h3 (by decide) ?h4 ?h5 ?h6 _ rfl ?h7)
        case h1 => exact HO5.out.alloc _
        try case h2 => exact World.news_of_block (heap_alloc_new w5 (.cells #[.int .i64 lp] 3))
        case h3 => simp [Value.oneCell']
        case h4 => unfold maxLen; omega
        case h5 => omega
        case h6 => first | omega | (simp; omega)
        case h7 =>
         intro g2 cap2 w6 hown hgrow _ _
         have hrow : ∀ k, vp.ownBlock = some k → w.heap.size ≤ k := fun k hk => (HO5.out.lt k hk).1
         have hFo : Fr (fun k => vp.ownBlock = some k) w5 w6 := ((Fr.refl (fun k => vp.ownBlock = some k) w5).alloc _).grown hgrow (fun k hk => Or.inl hk)
         have HO6 : Hid (w6.ownsRow w.heap.size 3 1 (.slice (some ⟨g2, 0, none⟩) (j + 1) cap2) (j + 1) (intRowZ acc ++ [.int .i64 lp])) := hown
         have HF6 : Hid (Fr (fun j => j = p ∨ j = X) w w6) := (HF5.out.alloc _).grown hgrow (fun k hk => Or.inr (hrow k hk))
         have HX6 : Hid (XB w6 X (upd ds 10 vp)) := HX5.out.fr hFo (fun e => by have := hrow X e; have := HXL.out; omega)
         have HP6 : Hid (WkP w6 p q (x + 1) (noteM (noteM fj false 6 t.line) bf 4 t.line)) := HP5.out.fr hFo (fun e => by have := hrow p e; have := HPL.out; omega)
         have x10' : w6.cell? ⟨X, 10, none⟩ = some vp := by have e := HX6.out.cell 10 (by omega); unfold upd at e; simpa using e
         have xf := HX6.out.fz
         have hs := HX6.out.set (k := 10) (by omega) (.slice (some ⟨g2, 0, none⟩) (j + 1) cap2)
         rw [upd_twice] at hs
         have HS : Hid (XB (w6.setCell ⟨X, 10, none⟩ (.slice (some ⟨g2, 0, none⟩) (j + 1) cap2)) X (upd ds 10 (.slice (some ⟨g2, 0, none⟩) (j + 1) cap2)) ∧ Fr (fun j => j = X) w6 (w6.setCell ⟨X, 10, none⟩ (.slice (some ⟨g2, 0, none⟩) (j + 1) cap2))) := hs
         have HPS : Hid (WkP (w6.setCell ⟨X, 10, none⟩ (.slice (some ⟨g2, 0, none⟩) (j + 1) cap2)) p q (x + 1) (noteM (noteM fj false 6 t.line) bf 4 t.line)) := HP6.out.fr hs.2 (fun e => HN.out e.symm)
         have c1 := HPS.out.c1
         have fz := HPS.out.fz
         clear hgrow hown hrow hFo hs x10
         go_wp2
         go_roundg (l.length - (j + 1))
         case measure => omega
         case rel =>
          have hm := HPS.out.move (x + 1 + 1)
          rw [Int.natCast_add (x + 1)] at hm
          refine ⟨j + 1, noteM (noteM fj false 6 t.line) bf 4 t.line, acc ++ [lp], .slice (some ⟨g2, 0, none⟩) (j + 1) cap2, by omega, rfl, by rw [HKK.out]; go_num, ?_, ?_, ?_, ?_, ?_, ?_⟩
          ·show _ = _
           rw [HAC.out, HTK.out, HLP'.out]
          ·exact HS.out.1.fr hm.2 HN.out
          ·show World.ownsRow _ _ _ _ _ _ _
           rw [intRowZ_snoc]
           exact ownsRow_fr (ownsRow_setCell_below HO6.out (by have := HXL.out; simpa using this) _) hm.2 (fun k e => by rw [e]; exact HPL.out)
          ·show WkP _ _ _ _ _
           rw [if_neg (by omega), show i0 + 2 * (j + 1) = x + 1 + 1 from by have := HXE.out; omega]
           exact hm.1
          ·exact (HF6.out.trans (HS.out.2.mono (fun k e => Or.inr e))).trans (hm.2.mono (fun k e => Or.inl e))
          ·show _ = _
           rw [HR.out, HDR.out]
           simp only [refPlsF]
           rw [HB4.out, ← HLP'.out, HBF.out]
   ·obtain ⟨te, hte, hcm⟩ := HL.out.en
    have ej : j = l.length := by omega
    rw [← ej] at hte
    have hk1 : ((((j + 1 : Nat) : Int)) == 1) = false := by simp; omega
    have HC : Hid (body[i0 + 2 * j]? = some te) := hte
    have HW1' : Hid (WkP wr p q (i0 + 2 * j) fj) := by have e := HW1.out; rw [if_neg (by omega)] at e; exact e
    clear hte
    obtain ⟨x, hx⟩ : ∃ x, x = i0 + 2 * j := ⟨_, rfl⟩
    obtain ⟨kk, hkk⟩ : ∃ kk : Int, kk = ((j + 1 : Nat) : Int) := ⟨_, rfl⟩
    rw [← hkk] at hk1 ⊢
    rw [← hx] at HC HW1'
    have HXE : Hid (x = i0 + 2 * j) := hx
    clear hx hkk
    go_wp2_with fail
    refine (at_any wr p q g x fj body cv te HW1'.out (HV.out.fr HFr.out).wt HC.out).mono ?_
    rintro e w3 ⟨rfl, hf⟩
    have HF3 : Hid (Fr (fun j => j = p ∨ j = X) w w3) := HFr.out.trans hf.no
    have HW3 : Hid (WkP w3 p q x fj) := HW1'.out.fr hf (by simp)
    have HX3 : Hid (XB w3 X (upd ds 10 vp)) := HX1.out.fr hf (by simp)
    have HO3 : Hid (w3.ownsRow w.heap.size 3 1 vp j (intRowZ acc)) := ownsRow_fr HO1.out hf (by simp)
    clear hf
    go_wp2
    go_end0
    refine ⟨rfl, ?_, ⟨vp, ?_, ?_⟩, HF3.out⟩
    ·have e2 : fj = refPlsF rts 1 f l := by rw [HR.out, List.drop_of_length_le (by omega)]; rfl
     rw [← e2, ← ej, ← HXE.out]
     exact HW3.out
    ·refine HX3.out.congr (fun o _ => ?_)
     rw [HDS.out]
     have h1 := H1.out
     unfold upd
     by_cases e10 : o = 10
     ·simp [e10]
     ·by_cases e12 : o = 12
      ·simp [e12]
      ·by_cases e11 : o = 11
       ·simp [e11, h1.2.1]
       ·simp [e10, e11, e12]
    ·have e := HO3.out
     rw [HAC.out, List.take_of_length_le (by omega)] at e
     rw [List.length_map, ← ej]
     exact e
end Go.Proofs.YtccikgogjfbpeaaGreatDoor
