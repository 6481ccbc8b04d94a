import Derived.Test.YtccikgogjfbpeaaGreatDoorQu
namespace Go.Proofs.YtccikgogjfbpeaaGreatDoor
set_option maxRecDepth 30000
set_option maxHeartbeats 8000000
open Go.RowKit
theorem upd_twice (cs : Nat -> Value) (k : Nat) (u v : Value) : upd (upd cs k u) k v = upd cs k v := by
 funext o
 unfold upd
 by_cases h : o = k <;> simp [h]
theorem waction_names (w : World) (p q g X i i0 : Nat) (body : List Tk) (cv : Nat) (va : Option Addr) (n vc : Nat) (rts : List RouteM) (l : List Tk) (f : Fa) (cs : Nat -> Value) (ch : Bool)
  (hp : WkP w p q i f) (hv : View w p q g X body cv va n vc rts) (hx : XB w X cs) (h10 : cs 10 = .slice none 0 0) (h11 : cs 11 = .bool false) (h12 : cs 12 = .bool false) (hl : LAt body i0 l) (hb : body.length <= 3000)
  (t0 : Tk) (ht0 : body[i]? = some t0) (hk1 : (t0.text.toList == [100, 101, 99, 108, 105, 110, 101]) = false) (hk2 : (t0.text.toList == [99, 104, 101, 97, 112, 101, 115, 116]) = ch) (hi : i = if ch then i0 else i0 + 1) :
  Calls Tryz.prog 135 #[.pointer (some ⟨p, 0, none⟩), .pointer (some ⟨X, 0, none⟩)] w (WAPost w p q X (i0 + 2 * l.length) (refPlsF rts 1 f l) cs (l.map (fun t => lastPlace t.text (-1) 0 rts)) false ch) := by
 obtain ⟨ii, hii, hz0, hz1, hz2⟩ := info_parts Tryz.infoInt;have HP := hid hp;have HV := hid hv;have HX := hid hx;have HL := hid hl;have H1 : Hid (cs 10 = .slice none 0 0 /\ cs 11 = .bool false /\ cs 12 = .bool false) := ⟨h10, h11, h12⟩;have HN := hid hv.n1.2.2.2.2;have HPL := hid (bL w _ hp.c0);have HXL := hid (bL w _ (hx.cell 0 (by omega)));have HT0 := hid ht0;have HI := hid hi;have hib : i < body.length := (iG.1 ht0).1;have hps := hl.ps
 have hi3 : i0 + 2 * l.length < body.length := by
  obtain ⟨t, ht, _⟩ := hl.en;exact (iG.1 ht).1
 clear hp hv hx h10 h11 h12 hl ht0 hi;go_enter Tryz.func135, Tryz.ntmps135;go_wp2_with fail;refine (at_any w p q g i f body cv t0 HP.o HV.o.wt HT0.o).mono ?_;rintro e w1 ⟨rfl, hf⟩;have HF1 := hid hf;clear hf;go_wp2_with fail;refine (at_any w1 p q g i f body cv t0 (HP.o.fr HF1.o (by simp)) (HV.o.fr HF1.o.no).wt HT0.o).mono ?_;rintro e w2 ⟨rfl, hf⟩;have HF2 := hid (HF1.o.trans hf);clear hf HF1
 go_upto_if 22 with fail
 go_cut [] (fun wc => Hid (WkP wc p q (i0 + 1) f) /\ Hid (XB wc X (upd cs 12 (.bool ch))) /\ Hid (Fr (fun j => j = p \/ j = X) w wc))
 case first =>
  cases ch with
  | false =>
   have HP2 : Hid (WkP w2 p q (i0 + 1) f) := by have e := HP.o.fr HF2.o (by simp); rw [HI.o] at e; exact e
   go_wp2_with fail;go_meet
   case rel => exact ⟨HP2, (HX.o.fr HF2.o (by simp)).congr (fun o _ => by unfold upd; by_cases h : o = 12 <;> simp [h, H1.o.2.2]), HF2.o.no⟩
  | true =>
   have HP2 : Hid (WkP w2 p q i0 f) := by have e := HP.o.fr HF2.o (by simp); rw [HI.o] at e; exact e
   have hs := (HX.o.fr HF2.o (by simp)).set (k := 12) (by omega) (.bool true);have HS := hid hs;have HPS := hid (HP2.o.fr hs.2 (fun e => HN.o e.symm));have x12 := (HX.o.fr HF2.o (by simp)).cell 12 (by omega);have xf := (HX.o.fr HF2.o (by simp)).fz;have c1 := HPS.o.c1;have fz := HPS.o.fz;clear hs;go_wp2_with fail;go_meet
   case rel =>
    have hm := HPS.o.move (i0 + 1);rw [Int.natCast_add] at hm;exact ⟨hm.1, HS.o.1.fr hm.2 HN.o, (HF2.o.no.trans (HS.o.2.mono (fun k e => Or.inr e))).trans (hm.2.mono (fun k e => Or.inl e))⟩
 case rest =>
  obtain ⟨HPc, HXc, HFc⟩ := hcut;obtain ⟨ds, hds⟩ : ∃ ds, ds = upd cs 12 (.bool ch) := ⟨_, rfl⟩;rw [<- hds] at HXc;have HDS := hid hds
  have HD10 : Hid (ds 10 = .slice none 0 0) := by show _ = _; rw [hds]; unfold upd; simp [H1.o.1]
  clear hds;go_wp2_with fail
  go_loopg [4] l.length (fun m ko wr => ∃ j fj acc vp, j <= l.length /\ m = l.length - j /\ ko = .int .i64 ((j + 1 : Nat) : Int) /\ Hid (acc = (l.take j).map (fun t => lastPlace t.text (-1) 0 rts)) /\ Hid (XB wr X (upd ds 10 vp)) /\ Hid (wr.ownsRow w.heap.size 3 1 vp j (intRowZ acc)) /\ Hid (WkP wr p q (if j = 0 then i0 + 1 else i0 + 2 * j) fj) /\ Hid (Fr (fun j => j = p \/ j = X) w wr) /\ Hid (refPlsF rts 1 f l = refPlsF rts (j + 1) fj (l.drop j)))
  case atStart => exact ⟨0, f, [], .slice none 0 0, Nat.zero_le _, rfl, rfl, rfl, HXc.o.congr (fun o _ => by unfold upd; by_cases h : o = 10 <;> simp [h, HD10.o]), World.ownsRow_nil _ _ _ _, HPc, HFc, rfl⟩
  case round =>
   obtain ⟨j, fj, acc, vp, hj, hm0, rfl, HAC, HX1, HO1, HW1, HFr, HR⟩ := hrel;by_cases hlt : j < l.length
   ·obtain ⟨t, ht⟩ : ∃ t, l[j]? = some t := ⟨_, gE hlt⟩
    obtain ⟨x, hx⟩ : ∃ x, x = i0 + 2 * j := ⟨_, rfl⟩;obtain ⟨kk, hkk⟩ : ∃ kk : Int, kk = ((j + 1 : Nat) : Int) := ⟨_, rfl⟩;rw [<- hkk]
    have HIT : Hid (body[x + 1]? = some t) := by
     have := HL.o.it j t ht;rw [show i0 + 1 + 2 * j = x + 1 from by omega] at this;exact this
    have HDR := hid (drop_of ht)
    have HTK : Hid ((l.take (j + 1)).map (fun t => lastPlace t.text (-1) 0 rts) = (l.take j).map (fun t => lastPlace t.text (-1) 0 rts) ++ [lastPlace t.text (-1) 0 rts]) := by
     show _ = _
     rw [List.take_add_one, ht, List.map_append];rfl
    have hxb : x + 2 <= 3000 := by omega
    have HXE := hid hx;have HKK := hid hkk;have hwk : IntKind.i64.wrap (kk + 1) = kk + 1 := IntWalk.i64_in _ (by omega);by_cases hj0 : j = 0
    ·have hk1 : (kk == 1) = true := by simp; omega
     have hk1' : decide ((1 : Int) < kk) = false := by simp; omega
     have HB4 : Hid (decide (4 < j + 1) = false) := by show _ = _; simp; omega
     have HW2 : Hid (WkP wr p q (x + 1) fj) := by have e := HW1.o; rw [if_pos hj0] at e; rw [HXE.o, hj0]; exact e
     have HF2' := HFr;have HX2 := HX1;have HO2 := HO1;have HV2 := hid (HV.o.fr HFr.o);clear hj0 hx hkk ht HF2;have HF2 := HF2';have hd4 : decide ((4 : Int) < kk) = false := d4_of HKK.o HB4.o;go_wp2_with fail;refine (fault_any _ p q g (x + 1) fj body cv t false 6 _ HW2.o HV2.o.wt HV.o.n1.1 HV.o.n1.2.1 HIT.o (by decide) (by rfl)).mono ?_;rintro e w3 ⟨rfl, hP3, hF3⟩;have HP3 := hid hP3;have HF3 := hid (HF2.o.trans (hF3.mono (fun k e => Or.inl e)));have HX3 := hid (HX2.o.fr hF3 HN.o);have HO3 := hid (oF HO2.o hF3 (fun k e => by rw [e]; exact HPL.o));have HV3 := hid (HV.o.fr HF3.o);clear hP3 hF3;have hn7 : n <= 7 := HV3.o.ln.2;go_wp2_with fail
     go_loopg [5, 6] n (fun m fo ix wi => ∃ b, b <= n /\ m = n - b /\ ix = .int .i64 (b : Nat) /\ (∃ lp, fo = .int .i64 lp /\ Hid (lp = lastPlace t.text (-1) 0 (rts.take b))) /\ Hid (F0 w3 wi))
     case atStart => exact ⟨0, Nat.zero_le _, rfl, rfl, ⟨-1, rfl, rfl⟩, Fr.refl _ _⟩
     case round =>
      obtain ⟨b, hbn, hgk, rfl, ⟨lp, rfl, HLP⟩, HFi⟩ := hrel;have HPi := hid (HP3.o.fr HFi.o (by simp));have HVi := hid (HV3.o.fr HFi.o.no);have c0 := HPi.o.c0;have q1 := HVi.o.q1;by_cases hlt2 : b < n
      ·obtain ⟨y, hy⟩ : ∃ y, rts[b]? = some y := ⟨_, gE (by have := HVi.o.ln.1; omega)⟩
       obtain ⟨g3, hva, hg3, hx3, hl3, r0⟩ := HVi.o.row b y hy;have HVA := hid hva;rw [hva] at q1;have HLN : Hid (lastPlace t.text (-1) 0 (rts.take (b + 1)) = if (y.name.toList == t.text.toList) = true then (b : Int) else lastPlace t.text (-1) 0 (rts.take b)) := lastPlace_take hy;obtain ⟨bx, hbx⟩ : ∃ bx, (y.name.toList == t.text.toList) = bx := ⟨_, rfl⟩;have HBX := hid hbx
       have hki : (b : Int) < (n : Int) := by omega
       have HC0 : Hid (∀ W, F0 wr W -> W.cell? ⟨p, 0, none⟩ = some (.pointer (some ⟨q, 0, none⟩)) /\ W.cell? ⟨q, 1, none⟩ = some (.slice (some ⟨g3, 0, none⟩) n vc) /\ W.cell? ⟨g3, b * 3, none⟩ = some (.string y.name)) := fun W hW => ⟨(HPi.o.fr hW (by simp)).c0, by have e := (HVi.o.fr hW.no).q1; rw [HVA.o] at e; exact e, (hW.cell (p := ⟨g3, b * 3, none⟩) hl3 (by simp)).trans r0⟩
       have HA : Hid (∀ W, F0 wr W -> Calls Tryz.prog 80 #[.pointer (some ⟨p, 0, none⟩)] W fun e w' => e = .returned (.string t.text) /\ F0 W w') := fun W hW => at_any W p q g (x + 1) _ body cv t (HPi.o.fr hW (by simp)) (HVi.o.fr hW.no).wt HIT.o
       clear hy hva;go_wp2_with fail
       go_cut [80] from 55 to 81 (fun s wx => s = .bool bx /\ Hid (F0 wr wx))
       case first =>
        go_region_with (go_at_call 80; refine (HA.o _ (by exact (Fr.refl _ _).drew)).mono ?_; rintro e w5 ⟨rfl, hf⟩; have HF5 : Hid (F0 wr w5) := ((Fr.refl _ _).drew).trans hf; have k0 := (HC0.o w5 HF5.o).1; have k1 := (HC0.o w5 HF5.o).2.1; have k2 := (HC0.o w5 HF5.o).2.2; clear hf)
        all_goals (go_wp2_with fail; go_meet; exact ⟨rfl, HF5⟩)
       case rest =>
        obtain ⟨rfl, HFx⟩ := hcut;clear c0 q1 r0
        cases bx with
        | true =>
         go_wp2;go_roundg (n - (b + 1))
         case measure => omega
         case rel => exact ⟨b + 1, by omega, rfl, by go_num, ⟨b, rfl, by show _ = _; rw [HLN.o, HBX.o]; rfl⟩, HFi.o.trans HFx.o⟩
        | false =>
         go_wp2;go_roundg (n - (b + 1))
         case measure => omega
         case rel => exact ⟨b + 1, by omega, rfl, by go_num, ⟨lp, rfl, by show _ = _; rw [HLN.o, HBX.o]; exact HLP.o⟩, HFi.o.trans HFx.o⟩
      ·have hki : ¬ (b : Int) < (n : Int) := by omega
       have HLP' : Hid (lp = lastPlace t.text (-1) 0 rts) := by
        have e := HLP.o;rw [List.take_of_length_le (by have := HVi.o.ln.1; omega)] at e;exact e
       obtain ⟨bf, hbf⟩ : ∃ bf, decide (lp < 0) = bf := ⟨_, rfl⟩;have HBF := hid hbf;have HFI := hid (HF3.o.trans HFi.o.no);have HXi := hid (HX3.o.fr HFi.o (by simp));have HOi := hid (oF HO3.o HFi.o (by simp));clear HLP hgk;go_wp2_with fail;refine (fault_any _ p q g (x + 1) _ body cv t bf 4 _ HPi.o HVi.o.wt HV.o.n1.1 HV.o.n1.2.1 HIT.o (by decide) (by rfl)).mono ?_;rintro e w5 ⟨rfl, hP5, hF5⟩;have HP5 := hid hP5;have HF5 := hid (HFI.o.trans (hF5.mono (fun k e => Or.inl e)));have HX5 := hid (HXi.o.fr hF5 HN.o);have HO5 := hid (oF HOi.o hF5 (fun k e => by rw [e]; exact HPL.o));have hs5 := HF5.o.size
       have x10 : w5.cell? ⟨X, 10, none⟩ = some vp := by have e := HX5.o.cell 10 (by omega); unfold upd at e; simpa using e
       clear hP5 hF5 c0 q1
       go_wp2_with (at_builtin; refine wpList_append_lies _ rfl (.tmp 90) (.tmp 92) 25 rfl w.heap.size 3 ii _ 1 8 Tryz.underlying25 hii hz0 hz1 hz2 rfl (by decide) vp j (intRowZ acc) rfl ?h1 ⟨w5.heap.size, 0, none⟩ 1 1 [.int .i64 lp] rfl rfl ?h2 ?h3 (by decide) ?h4 ?h5 ?h6 _ rfl ?h7)
       case h1 => exact HO5.o.alloc _
       try case h2 => exact World.news_of_block (aN w5 (.cells #[.int .i64 lp] 3))
       case h3 => simp [Value.oneCell']
       case h4 => unfold maxLen; omega
       case h5 => omega
       case h6 => first | omega | (simp; omega)
       case h7 =>
        intro g2 cap2 w6 hown hgrow _ _
        have hrow : ∀ k, vp.ownBlock = some k -> w.heap.size <= k := fun k hk => (HO5.o.lt k hk).1
        have hFo : Fr (fun k => vp.ownBlock = some k) w5 w6 := ((Fr.refl (fun k => vp.ownBlock = some k) w5).alloc _).grown hgrow (fun k hk => Or.inl hk);have HO6 := hid hown;have HF6 := hid ((HF5.o.alloc _).grown hgrow (fun k hk => Or.inr (hrow k hk)));have HX6 := hid (HX5.o.fr hFo (fun e => by have := hrow X e; have := HXL.o; omega));have HP6 := hid (HP5.o.fr hFo (fun e => by have := hrow p e; have := HPL.o; omega))
        have x10' : w6.cell? ⟨X, 10, none⟩ = some vp := by have e := HX6.o.cell 10 (by omega); unfold upd at e; simpa using e
        have xf := HX6.o.fz;have hs := HX6.o.set (k := 10) (by omega) (.slice (some ⟨g2, 0, none⟩) (j + 1) cap2);rw [upd_twice] at hs;have HS := hid hs;have HPS := hid (HP6.o.fr hs.2 (fun e => HN.o e.symm));have c1 := HPS.o.c1;have fz := HPS.o.fz;clear hgrow hown hrow hFo hs x10;go_wp2;go_roundg (l.length - (j + 1))
        case measure => omega
        case rel =>
         have hm := HPS.o.move (x + 1 + 1);rw [Int.natCast_add (x + 1)] at hm;refine ⟨j + 1, noteM (noteM fj false 6 t.line) bf 4 t.line, acc ++ [lp], .slice (some ⟨g2, 0, none⟩) (j + 1) cap2, by omega, rfl, by rw [HKK.o]; go_num, ?_, ?_, ?_, ?_, ?_, ?_⟩
         ·show _ = _
          rw [HAC.o, HTK.o, HLP'.o]
         ·exact HS.o.1.fr hm.2 HN.o
         ·show World.ownsRow _ _ _ _ _ _ _
          rw [intRowZ_snoc];exact oF (oB HO6.o (by have := HXL.o; simpa using this) _) hm.2 (fun k e => by rw [e]; exact HPL.o)
         ·show WkP _ _ _ _ _
          rw [if_neg (by omega), show i0 + 2 * (j + 1) = x + 1 + 1 from by have := HXE.o; omega];exact hm.1
         ·exact (HF6.o.trans (HS.o.2.mono (fun k e => Or.inr e))).trans (hm.2.mono (fun k e => Or.inl e))
         ·show _ = _
          rw [HR.o, HDR.o];simp only [refPlsF];rw [HB4.o, <- HLP'.o, HBF.o]
    ·have hk1 : (kk == 1) = false := by simp; omega
     have hk1' : decide ((1 : Int) < kk) = true := by simp; omega
     obtain ⟨tc, htc, hcm⟩ := HL.o.cm j (by omega) hlt;rw [<- hx] at htc;have HC := hid htc
     have HW1' : Hid (WkP wr p q x fj) := by have e := HW1.o; rw [if_neg hj0] at e; rw [HXE.o]; exact e
     have HJP : Hid (0 < j) := by show _ < _; omega
     clear htc hj0 hk1';by_cases h4 : 4 < j + 1
     ·have HB4 : Hid (decide (4 < j + 1) = true) := by show _ = _; simp; omega
      clear h4 hx hkk ht HF2;go_wp2_with fail;refine (at_any wr p q g x fj body cv tc HW1'.o (HV.o.fr HFr.o).wt HC.o).mono ?_;rintro e w1 ⟨rfl, hf⟩;have HWa := hid (HW1'.o.fr hf (by simp));have HFa := hid (HFr.o.trans hf.no);have HXa := hid (HX1.o.fr hf (by simp));have HOa := hid (oF HO1.o hf (by simp));have c1 := HWa.o.c1;have fz := HWa.o.fz;have hm := HWa.o.move (x + 1);rw [Int.natCast_add] at hm;have HW2 := hid hm.1;have HF2 := hid (HFa.o.trans (hm.2.mono (fun k e => Or.inl e)));have HX2 := hid (HXa.o.fr hm.2 HN.o);have HO2 := hid (oF HOa.o hm.2 (fun k e => by rw [e]; exact HPL.o));have HV2 := hid (HV.o.fr HF2.o);clear hf hm
      have hk1' : decide ((1 : Int) < kk) = true := by have := HKK.o; have := HJP.o; simp; omega
      have hd4 : decide ((4 : Int) < kk) = true := d4_of HKK.o HB4.o;go_wp2_with fail;refine (fault_any _ p q g (x + 1) fj body cv t true 6 _ HW2.o HV2.o.wt HV.o.n1.1 HV.o.n1.2.1 HIT.o (by decide) (by rfl)).mono ?_;rintro e w3 ⟨rfl, hP3, hF3⟩;have HP3 := hid hP3;have HF3 := hid (HF2.o.trans (hF3.mono (fun k e => Or.inl e)));have HX3 := hid (HX2.o.fr hF3 HN.o);have HO3 := hid (oF HO2.o hF3 (fun k e => by rw [e]; exact HPL.o));have HV3 := hid (HV.o.fr HF3.o);clear hP3 hF3;have hn7 : n <= 7 := HV3.o.ln.2;go_wp2_with fail
      go_loopg [5, 6] n (fun m fo ix wi => ∃ b, b <= n /\ m = n - b /\ ix = .int .i64 (b : Nat) /\ (∃ lp, fo = .int .i64 lp /\ Hid (lp = lastPlace t.text (-1) 0 (rts.take b))) /\ Hid (F0 w3 wi))
      case atStart => exact ⟨0, Nat.zero_le _, rfl, rfl, ⟨-1, rfl, rfl⟩, Fr.refl _ _⟩
      case round =>
       obtain ⟨b, hbn, hgk, rfl, ⟨lp, rfl, HLP⟩, HFi⟩ := hrel;have HPi := hid (HP3.o.fr HFi.o (by simp));have HVi := hid (HV3.o.fr HFi.o.no);have c0 := HPi.o.c0;have q1 := HVi.o.q1;by_cases hlt2 : b < n
       ·obtain ⟨y, hy⟩ : ∃ y, rts[b]? = some y := ⟨_, gE (by have := HVi.o.ln.1; omega)⟩
        obtain ⟨g3, hva, hg3, hx3, hl3, r0⟩ := HVi.o.row b y hy;have HVA := hid hva;rw [hva] at q1;have HLN : Hid (lastPlace t.text (-1) 0 (rts.take (b + 1)) = if (y.name.toList == t.text.toList) = true then (b : Int) else lastPlace t.text (-1) 0 (rts.take b)) := lastPlace_take hy;obtain ⟨bx, hbx⟩ : ∃ bx, (y.name.toList == t.text.toList) = bx := ⟨_, rfl⟩;have HBX := hid hbx
        have hki : (b : Int) < (n : Int) := by omega
        have HC0 : Hid (∀ W, F0 wr W -> W.cell? ⟨p, 0, none⟩ = some (.pointer (some ⟨q, 0, none⟩)) /\ W.cell? ⟨q, 1, none⟩ = some (.slice (some ⟨g3, 0, none⟩) n vc) /\ W.cell? ⟨g3, b * 3, none⟩ = some (.string y.name)) := fun W hW => ⟨(HPi.o.fr hW (by simp)).c0, by have e := (HVi.o.fr hW.no).q1; rw [HVA.o] at e; exact e, (hW.cell (p := ⟨g3, b * 3, none⟩) hl3 (by simp)).trans r0⟩
        have HA : Hid (∀ W, F0 wr W -> Calls Tryz.prog 80 #[.pointer (some ⟨p, 0, none⟩)] W fun e w' => e = .returned (.string t.text) /\ F0 W w') := fun W hW => at_any W p q g (x + 1) _ body cv t (HPi.o.fr hW (by simp)) (HVi.o.fr hW.no).wt HIT.o
        clear hy hva;go_wp2_with fail
        go_cut [80] from 55 to 81 (fun s wx => s = .bool bx /\ Hid (F0 wr wx))
        case first =>
         go_region_with (go_at_call 80; refine (HA.o _ (by exact (Fr.refl _ _).drew)).mono ?_; rintro e w5 ⟨rfl, hf⟩; have HF5 : Hid (F0 wr w5) := ((Fr.refl _ _).drew).trans hf; have k0 := (HC0.o w5 HF5.o).1; have k1 := (HC0.o w5 HF5.o).2.1; have k2 := (HC0.o w5 HF5.o).2.2; clear hf)
         all_goals (go_wp2_with fail; go_meet; exact ⟨rfl, HF5⟩)
        case rest =>
         obtain ⟨rfl, HFx⟩ := hcut;clear c0 q1 r0
         cases bx with
         | true =>
          go_wp2;go_roundg (n - (b + 1))
          case measure => omega
          case rel => exact ⟨b + 1, by omega, rfl, by go_num, ⟨b, rfl, by show _ = _; rw [HLN.o, HBX.o]; rfl⟩, HFi.o.trans HFx.o⟩
         | false =>
          go_wp2;go_roundg (n - (b + 1))
          case measure => omega
          case rel => exact ⟨b + 1, by omega, rfl, by go_num, ⟨lp, rfl, by show _ = _; rw [HLN.o, HBX.o]; exact HLP.o⟩, HFi.o.trans HFx.o⟩
       ·have hki : ¬ (b : Int) < (n : Int) := by omega
        have HLP' : Hid (lp = lastPlace t.text (-1) 0 rts) := by
         have e := HLP.o;rw [List.take_of_length_le (by have := HVi.o.ln.1; omega)] at e;exact e
        obtain ⟨bf, hbf⟩ : ∃ bf, decide (lp < 0) = bf := ⟨_, rfl⟩;have HBF := hid hbf;have HFI := hid (HF3.o.trans HFi.o.no);have HXi := hid (HX3.o.fr HFi.o (by simp));have HOi := hid (oF HO3.o HFi.o (by simp));clear HLP hgk;go_wp2_with fail;refine (fault_any _ p q g (x + 1) _ body cv t bf 4 _ HPi.o HVi.o.wt HV.o.n1.1 HV.o.n1.2.1 HIT.o (by decide) (by rfl)).mono ?_;rintro e w5 ⟨rfl, hP5, hF5⟩;have HP5 := hid hP5;have HF5 := hid (HFI.o.trans (hF5.mono (fun k e => Or.inl e)));have HX5 := hid (HXi.o.fr hF5 HN.o);have HO5 := hid (oF HOi.o hF5 (fun k e => by rw [e]; exact HPL.o));have hs5 := HF5.o.size
        have x10 : w5.cell? ⟨X, 10, none⟩ = some vp := by have e := HX5.o.cell 10 (by omega); unfold upd at e; simpa using e
        clear hP5 hF5 c0 q1
        go_wp2_with (at_builtin; refine wpList_append_lies _ rfl (.tmp 90) (.tmp 92) 25 rfl w.heap.size 3 ii _ 1 8 Tryz.underlying25 hii hz0 hz1 hz2 rfl (by decide) vp j (intRowZ acc) rfl ?h1 ⟨w5.heap.size, 0, none⟩ 1 1 [.int .i64 lp] rfl rfl ?h2 ?h3 (by decide) ?h4 ?h5 ?h6 _ rfl ?h7)
        case h1 => exact HO5.o.alloc _
        try case h2 => exact World.news_of_block (aN w5 (.cells #[.int .i64 lp] 3))
        case h3 => simp [Value.oneCell']
        case h4 => unfold maxLen; omega
        case h5 => omega
        case h6 => first | omega | (simp; omega)
        case h7 =>
         intro g2 cap2 w6 hown hgrow _ _
         have hrow : ∀ k, vp.ownBlock = some k -> w.heap.size <= k := fun k hk => (HO5.o.lt k hk).1
         have hFo : Fr (fun k => vp.ownBlock = some k) w5 w6 := ((Fr.refl (fun k => vp.ownBlock = some k) w5).alloc _).grown hgrow (fun k hk => Or.inl hk);have HO6 := hid hown;have HF6 := hid ((HF5.o.alloc _).grown hgrow (fun k hk => Or.inr (hrow k hk)));have HX6 := hid (HX5.o.fr hFo (fun e => by have := hrow X e; have := HXL.o; omega));have HP6 := hid (HP5.o.fr hFo (fun e => by have := hrow p e; have := HPL.o; omega))
         have x10' : w6.cell? ⟨X, 10, none⟩ = some vp := by have e := HX6.o.cell 10 (by omega); unfold upd at e; simpa using e
         have xf := HX6.o.fz;have hs := HX6.o.set (k := 10) (by omega) (.slice (some ⟨g2, 0, none⟩) (j + 1) cap2);rw [upd_twice] at hs;have HS := hid hs;have HPS := hid (HP6.o.fr hs.2 (fun e => HN.o e.symm));have c1 := HPS.o.c1;have fz := HPS.o.fz;clear hgrow hown hrow hFo hs x10;go_wp2;go_roundg (l.length - (j + 1))
         case measure => omega
         case rel =>
          have hm := HPS.o.move (x + 1 + 1);rw [Int.natCast_add (x + 1)] at hm;refine ⟨j + 1, noteM (noteM fj true 6 t.line) bf 4 t.line, acc ++ [lp], .slice (some ⟨g2, 0, none⟩) (j + 1) cap2, by omega, rfl, by rw [HKK.o]; go_num, ?_, ?_, ?_, ?_, ?_, ?_⟩
          ·show _ = _
           rw [HAC.o, HTK.o, HLP'.o]
          ·exact HS.o.1.fr hm.2 HN.o
          ·show World.ownsRow _ _ _ _ _ _ _
           rw [intRowZ_snoc];exact oF (oB HO6.o (by have := HXL.o; simpa using this) _) hm.2 (fun k e => by rw [e]; exact HPL.o)
          ·show WkP _ _ _ _ _
           rw [if_neg (by omega), show i0 + 2 * (j + 1) = x + 1 + 1 from by have := HXE.o; omega];exact hm.1
          ·exact (HF6.o.trans (HS.o.2.mono (fun k e => Or.inr e))).trans (hm.2.mono (fun k e => Or.inl e))
          ·show _ = _
           rw [HR.o, HDR.o];simp only [refPlsF];rw [HB4.o, <- HLP'.o, HBF.o]
     ·have HB4 : Hid (decide (4 < j + 1) = false) := by show _ = _; simp; omega
      clear h4 hx hkk ht HF2;go_wp2_with fail;refine (at_any wr p q g x fj body cv tc HW1'.o (HV.o.fr HFr.o).wt HC.o).mono ?_;rintro e w1 ⟨rfl, hf⟩;have HWa := hid (HW1'.o.fr hf (by simp));have HFa := hid (HFr.o.trans hf.no);have HXa := hid (HX1.o.fr hf (by simp));have HOa := hid (oF HO1.o hf (by simp));have c1 := HWa.o.c1;have fz := HWa.o.fz;have hm := HWa.o.move (x + 1);rw [Int.natCast_add] at hm;have HW2 := hid hm.1;have HF2 := hid (HFa.o.trans (hm.2.mono (fun k e => Or.inl e)));have HX2 := hid (HXa.o.fr hm.2 HN.o);have HO2 := hid (oF HOa.o hm.2 (fun k e => by rw [e]; exact HPL.o));have HV2 := hid (HV.o.fr HF2.o);clear hf hm
      have hk1' : decide ((1 : Int) < kk) = true := by have := HKK.o; have := HJP.o; simp; omega
      have hd4 : decide ((4 : Int) < kk) = false := d4_of HKK.o HB4.o;go_wp2_with fail;refine (fault_any _ p q g (x + 1) fj body cv t false 6 _ HW2.o HV2.o.wt HV.o.n1.1 HV.o.n1.2.1 HIT.o (by decide) (by rfl)).mono ?_;rintro e w3 ⟨rfl, hP3, hF3⟩;have HP3 := hid hP3;have HF3 := hid (HF2.o.trans (hF3.mono (fun k e => Or.inl e)));have HX3 := hid (HX2.o.fr hF3 HN.o);have HO3 := hid (oF HO2.o hF3 (fun k e => by rw [e]; exact HPL.o));have HV3 := hid (HV.o.fr HF3.o);clear hP3 hF3;have hn7 : n <= 7 := HV3.o.ln.2;go_wp2_with fail
      go_loopg [5, 6] n (fun m fo ix wi => ∃ b, b <= n /\ m = n - b /\ ix = .int .i64 (b : Nat) /\ (∃ lp, fo = .int .i64 lp /\ Hid (lp = lastPlace t.text (-1) 0 (rts.take b))) /\ Hid (F0 w3 wi))
      case atStart => exact ⟨0, Nat.zero_le _, rfl, rfl, ⟨-1, rfl, rfl⟩, Fr.refl _ _⟩
      case round =>
       obtain ⟨b, hbn, hgk, rfl, ⟨lp, rfl, HLP⟩, HFi⟩ := hrel;have HPi := hid (HP3.o.fr HFi.o (by simp));have HVi := hid (HV3.o.fr HFi.o.no);have c0 := HPi.o.c0;have q1 := HVi.o.q1;by_cases hlt2 : b < n
       ·obtain ⟨y, hy⟩ : ∃ y, rts[b]? = some y := ⟨_, gE (by have := HVi.o.ln.1; omega)⟩
        obtain ⟨g3, hva, hg3, hx3, hl3, r0⟩ := HVi.o.row b y hy;have HVA := hid hva;rw [hva] at q1;have HLN : Hid (lastPlace t.text (-1) 0 (rts.take (b + 1)) = if (y.name.toList == t.text.toList) = true then (b : Int) else lastPlace t.text (-1) 0 (rts.take b)) := lastPlace_take hy;obtain ⟨bx, hbx⟩ : ∃ bx, (y.name.toList == t.text.toList) = bx := ⟨_, rfl⟩;have HBX := hid hbx
        have hki : (b : Int) < (n : Int) := by omega
        have HC0 : Hid (∀ W, F0 wr W -> W.cell? ⟨p, 0, none⟩ = some (.pointer (some ⟨q, 0, none⟩)) /\ W.cell? ⟨q, 1, none⟩ = some (.slice (some ⟨g3, 0, none⟩) n vc) /\ W.cell? ⟨g3, b * 3, none⟩ = some (.string y.name)) := fun W hW => ⟨(HPi.o.fr hW (by simp)).c0, by have e := (HVi.o.fr hW.no).q1; rw [HVA.o] at e; exact e, (hW.cell (p := ⟨g3, b * 3, none⟩) hl3 (by simp)).trans r0⟩
        have HA : Hid (∀ W, F0 wr W -> Calls Tryz.prog 80 #[.pointer (some ⟨p, 0, none⟩)] W fun e w' => e = .returned (.string t.text) /\ F0 W w') := fun W hW => at_any W p q g (x + 1) _ body cv t (HPi.o.fr hW (by simp)) (HVi.o.fr hW.no).wt HIT.o
        clear hy hva;go_wp2_with fail
        go_cut [80] from 55 to 81 (fun s wx => s = .bool bx /\ Hid (F0 wr wx))
        case first =>
         go_region_with (go_at_call 80; refine (HA.o _ (by exact (Fr.refl _ _).drew)).mono ?_; rintro e w5 ⟨rfl, hf⟩; have HF5 : Hid (F0 wr w5) := ((Fr.refl _ _).drew).trans hf; have k0 := (HC0.o w5 HF5.o).1; have k1 := (HC0.o w5 HF5.o).2.1; have k2 := (HC0.o w5 HF5.o).2.2; clear hf)
         all_goals (go_wp2_with fail; go_meet; exact ⟨rfl, HF5⟩)
        case rest =>
         obtain ⟨rfl, HFx⟩ := hcut;clear c0 q1 r0
         cases bx with
         | true =>
          go_wp2;go_roundg (n - (b + 1))
          case measure => omega
          case rel => exact ⟨b + 1, by omega, rfl, by go_num, ⟨b, rfl, by show _ = _; rw [HLN.o, HBX.o]; rfl⟩, HFi.o.trans HFx.o⟩
         | false =>
          go_wp2;go_roundg (n - (b + 1))
          case measure => omega
          case rel => exact ⟨b + 1, by omega, rfl, by go_num, ⟨lp, rfl, by show _ = _; rw [HLN.o, HBX.o]; exact HLP.o⟩, HFi.o.trans HFx.o⟩
       ·have hki : ¬ (b : Int) < (n : Int) := by omega
        have HLP' : Hid (lp = lastPlace t.text (-1) 0 rts) := by
         have e := HLP.o;rw [List.take_of_length_le (by have := HVi.o.ln.1; omega)] at e;exact e
        obtain ⟨bf, hbf⟩ : ∃ bf, decide (lp < 0) = bf := ⟨_, rfl⟩;have HBF := hid hbf;have HFI := hid (HF3.o.trans HFi.o.no);have HXi := hid (HX3.o.fr HFi.o (by simp));have HOi := hid (oF HO3.o HFi.o (by simp));clear HLP hgk;go_wp2_with fail;refine (fault_any _ p q g (x + 1) _ body cv t bf 4 _ HPi.o HVi.o.wt HV.o.n1.1 HV.o.n1.2.1 HIT.o (by decide) (by rfl)).mono ?_;rintro e w5 ⟨rfl, hP5, hF5⟩;have HP5 := hid hP5;have HF5 := hid (HFI.o.trans (hF5.mono (fun k e => Or.inl e)));have HX5 := hid (HXi.o.fr hF5 HN.o);have HO5 := hid (oF HOi.o hF5 (fun k e => by rw [e]; exact HPL.o));have hs5 := HF5.o.size
        have x10 : w5.cell? ⟨X, 10, none⟩ = some vp := by have e := HX5.o.cell 10 (by omega); unfold upd at e; simpa using e
        clear hP5 hF5 c0 q1
        go_wp2_with (at_builtin; refine wpList_append_lies _ rfl (.tmp 90) (.tmp 92) 25 rfl w.heap.size 3 ii _ 1 8 Tryz.underlying25 hii hz0 hz1 hz2 rfl (by decide) vp j (intRowZ acc) rfl ?h1 ⟨w5.heap.size, 0, none⟩ 1 1 [.int .i64 lp] rfl rfl ?h2 ?h3 (by decide) ?h4 ?h5 ?h6 _ rfl ?h7)
        case h1 => exact HO5.o.alloc _
        try case h2 => exact World.news_of_block (aN w5 (.cells #[.int .i64 lp] 3))
        case h3 => simp [Value.oneCell']
        case h4 => unfold maxLen; omega
        case h5 => omega
        case h6 => first | omega | (simp; omega)
        case h7 =>
         intro g2 cap2 w6 hown hgrow _ _
         have hrow : ∀ k, vp.ownBlock = some k -> w.heap.size <= k := fun k hk => (HO5.o.lt k hk).1
         have hFo : Fr (fun k => vp.ownBlock = some k) w5 w6 := ((Fr.refl (fun k => vp.ownBlock = some k) w5).alloc _).grown hgrow (fun k hk => Or.inl hk);have HO6 := hid hown;have HF6 := hid ((HF5.o.alloc _).grown hgrow (fun k hk => Or.inr (hrow k hk)));have HX6 := hid (HX5.o.fr hFo (fun e => by have := hrow X e; have := HXL.o; omega));have HP6 := hid (HP5.o.fr hFo (fun e => by have := hrow p e; have := HPL.o; omega))
         have x10' : w6.cell? ⟨X, 10, none⟩ = some vp := by have e := HX6.o.cell 10 (by omega); unfold upd at e; simpa using e
         have xf := HX6.o.fz;have hs := HX6.o.set (k := 10) (by omega) (.slice (some ⟨g2, 0, none⟩) (j + 1) cap2);rw [upd_twice] at hs;have HS := hid hs;have HPS := hid (HP6.o.fr hs.2 (fun e => HN.o e.symm));have c1 := HPS.o.c1;have fz := HPS.o.fz;clear hgrow hown hrow hFo hs x10;go_wp2;go_roundg (l.length - (j + 1))
         case measure => omega
         case rel =>
          have hm := HPS.o.move (x + 1 + 1);rw [Int.natCast_add (x + 1)] at hm;refine ⟨j + 1, noteM (noteM fj false 6 t.line) bf 4 t.line, acc ++ [lp], .slice (some ⟨g2, 0, none⟩) (j + 1) cap2, by omega, rfl, by rw [HKK.o]; go_num, ?_, ?_, ?_, ?_, ?_, ?_⟩
          ·show _ = _
           rw [HAC.o, HTK.o, HLP'.o]
          ·exact HS.o.1.fr hm.2 HN.o
          ·show World.ownsRow _ _ _ _ _ _ _
           rw [intRowZ_snoc];exact oF (oB HO6.o (by have := HXL.o; simpa using this) _) hm.2 (fun k e => by rw [e]; exact HPL.o)
          ·show WkP _ _ _ _ _
           rw [if_neg (by omega), show i0 + 2 * (j + 1) = x + 1 + 1 from by have := HXE.o; omega];exact hm.1
          ·exact (HF6.o.trans (HS.o.2.mono (fun k e => Or.inr e))).trans (hm.2.mono (fun k e => Or.inl e))
          ·show _ = _
           rw [HR.o, HDR.o];simp only [refPlsF];rw [HB4.o, <- HLP'.o, HBF.o]
   ·obtain ⟨te, hte, hcm⟩ := HL.o.en
    have ej : j = l.length := by omega
    rw [<- ej] at hte
    have hk1 : ((((j + 1 : Nat) : Int)) == 1) = false := by simp; omega
    have HC := hid hte
    have HW1' : Hid (WkP wr p q (i0 + 2 * j) fj) := by have e := HW1.o; rw [if_neg (by omega)] at e; exact e
    clear hte;obtain ⟨x, hx⟩ : ∃ x, x = i0 + 2 * j := ⟨_, rfl⟩;obtain ⟨kk, hkk⟩ : ∃ kk : Int, kk = ((j + 1 : Nat) : Int) := ⟨_, rfl⟩;rw [<- hkk] at hk1 ⊢;rw [<- hx] at HC HW1';have HXE := hid hx;clear hx hkk;go_wp2_with fail;refine (at_any wr p q g x fj body cv te HW1'.o (HV.o.fr HFr.o).wt HC.o).mono ?_;rintro e w3 ⟨rfl, hf⟩;have HF3 := hid (HFr.o.trans hf.no);have HW3 := hid (HW1'.o.fr hf (by simp));have HX3 := hid (HX1.o.fr hf (by simp));have HO3 := hid (oF HO1.o hf (by simp));clear hf;go_wp2
    go_end0
    refine ⟨rfl, ?_, ⟨vp, ?_, ?_⟩, HF3.o⟩
    ·have e2 : fj = refPlsF rts 1 f l := by rw [HR.o, dL (by omega)]; rfl
     rw [<- e2, <- ej, <- HXE.o];exact HW3.o
    ·refine HX3.o.congr (fun o _ => ?_)
     rw [HDS.o];have h1 := H1.o;unfold upd;by_cases e10 : o = 10
     ·simp [e10]
     ·by_cases e12 : o = 12
      ·simp [e12]
      ·by_cases e11 : o = 11
       ·simp [e11, h1.2.1]
       ·simp [e10, e11, e12]
    ·have e := HO3.o
     rw [HAC.o, List.take_of_length_le (by omega)] at e;rw [List.length_map, <- ej];exact e
