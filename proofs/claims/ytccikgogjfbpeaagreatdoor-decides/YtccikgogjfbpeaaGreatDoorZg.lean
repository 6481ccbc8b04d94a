import Derived.Test.YtccikgogjfbpeaaGreatDoorZf
namespace Go.Proofs.YtccikgogjfbpeaaGreatDoor
set_option maxRecDepth 30000
set_option maxHeartbeats 8000000
open Go.RowKit
theorem wrule_any (w : World) (B B2 p q g i : Nat) (f : Fa) (body : List Tk) (cv : Nat) (vr vl : Value) (rts : List RouteM) (rrs : List RuleR) (xs : List Value) (r : RuleE) (j5 : Nat) (h : RSt w B B2 p q g i f body cv vr vl rts rrs xs) (hb : body.length <= 3000) (h7 : rts.length <= 7) (h8 : rrs.length <= 8) (hr : RuleAt body i r j5) :
  Calls Tryz.prog 82 #[.pointer (some ⟨p, 0, none⟩)] w fun e w' => e = .returned (.tuple #[]) /\ (∃ vl' c, RSt w' B B2 p q g j5 (refRuleF rts (rrs.map RuleR.name) f r) body cv vr vl' rts (rrs ++ [refRule rts r]) (xs ++ c)) /\ Fr (fun j => B <= j) w w' := by
 obtain ⟨ii, hi, hz0, hz1, hz2⟩ := info_parts Tryz.infoRRule;have HS0 := hid h;have HA := hid hr;have HQ : Hid (q ≠ p /\ g ≠ p) := ⟨h.ne, by have := h.gB; have := h.pB; omega⟩
 have HTW : Hid (∀ W, Fr (fun j => j = p) w W -> WkT W q g body cv) := fun W hW => h.wt.fr hW h.ne (by have := h.gB; have := h.pB; omega)
 have hib : i + 7 < body.length := (iG.1 hr.b2).1;obtain ⟨la, lc, hvl, hrow⟩ := ownsRow_rr h.lo;have HVL := hid hvl
 have HROW : Hid (∀ j y, rrs[j]? = some y -> ∃ g3, la = some ⟨g3, 0, none⟩ /\ g3 ≠ p /\ g3 < w.heap.size /\ w.cell? ⟨g3, j * 13, none⟩ = some (.string y.name)) := fun j y hj => by
  obtain ⟨g3, e, h1, h2, h3⟩ := hrow j _ (iG.1 hj).1 (rr_name h.ru hj);exact ⟨g3, e, by have := h.pB; omega, h2, h3⟩
 obtain ⟨n, hn⟩ : ∃ n, rrs.length = n := ⟨_, rfl⟩;have HN := hid hn;obtain ⟨b8, hb8⟩ : ∃ b, decide (8 <= n) = b := ⟨_, rfl⟩
 have hb8' : decide ((8 : Int) <= (n : Int)) = b8 := by rw [<- hb8]; by_cases hq : 8 <= n <;> simp [hq] <;> omega
 have HB8 := hid hb8
 have hn8 : n <= 8 := by omega
 have HPL := hid (bL w _ h.wp.c0);have c0 := h.wp.c0;have c1 := h.wp.c1;have fz := h.wp.fz;have hm0 := h.wp.move (i + 1);rw [Int.natCast_add] at hm0;have HM0 := hid hm0
 have q2' : (w.setCell ⟨p, 1, none⟩ (.int .i64 ((i : Int) + 1))).cell? ⟨q, 2, none⟩ = some (.slice la n lc) := by have e := (h.step hm0.1 hm0.2).q2; rw [hvl, hn] at e; exact e
 clear h hr hrow hvl hn hm0;go_enter Tryz.func82, Tryz.ntmps82;go_wp2_with fail;refine (fault_any _ p q g (i + 1) f body cv r.name b8 6 _ HM0.o.1 (HTW.o _ HM0.o.2) HQ.o.1 HQ.o.2 HA.o.nm (by decide) (by rfl)).mono ?_;rintro e w3 ⟨rfl, hP3, hF3⟩;have HP3 := hid hP3;have HF3 := hid (HM0.o.2.trans hF3);clear hP3 hF3 c0 c1 fz q2';go_wp2_with fail;refine (at_any w3 p q g (i + 1) _ body cv r.name HP3.o (HTW.o _ HF3.o) HA.o.nm).mono ?_;rintro e w4 ⟨rfl, hf⟩;have HP4 := hid (HP3.o.fr hf (by simp));have HF4 := hid (HF3.o.trans hf.no);clear hf;go_wp2_with fail
 have HL0 : Hid (RLs w (w4.alloc (.cells #[.string r.name.text, .int .i64 0, .int .i64 0, .int .i64 0, .int .i64 0, .slice none 0 0, .slice none 0 0, .bool false, .int .i64 0, .int .i64 0, .slice none 0 0, .bool false, .bool false] 170)) p q w4.heap.size (i + 1) (noteM f b8 6 r.name.line) (cs0 r.name.text)) :=
  ⟨HP4.o.fr ((Fr.refl (fun _ => False) w4).alloc _) (by simp), xb_new w4 _, HF4.o.alloc _, HF4.o.size, by have := HPL.o; have := HF4.o.size; omega⟩
 generalize w4.alloc (.cells #[.string r.name.text, .int .i64 0, .int .i64 0, .int .i64 0, .int .i64 0, .slice none 0 0, .slice none 0 0, .bool false, .int .i64 0, .int .i64 0, .slice none 0 0, .bool false, .bool false] 170) = w5 at *;generalize w4.heap.size = X at *
 go_loopg [4] n (fun m o wr => ∃ j, j <= n /\ m = n - j /\ o = .int .i64 (j : Nat) /\ Hid (RLs w wr p q X (i + 1) (refNames r.name.text r.name.line (noteM f b8 6 r.name.line) ((rrs.map RuleR.name).take j)) (cs0 r.name.text)))
 case atStart => exact ⟨0, Nat.zero_le _, rfl, rfl, HL0⟩
 case round =>
  obtain ⟨j, hj, rfl, rfl, HR⟩ := hrel
  have q2 : wr.cell? ⟨q, 2, none⟩ = some (.slice la n lc) := by have e := (HS0.o.step HR.o.wp HR.o.fr).q2; rw [HVL.o, HN.o] at e; exact e
  by_cases hlt : j < n
  ·obtain ⟨y, hy⟩ : ∃ y, rrs[j]? = some y := ⟨_, gE (by have := HN.o; omega)⟩
   obtain ⟨g3, hla, hg3, hl3, r0⟩ := HROW.o j y hy;rw [<- HR.o.fr.cell (p := ⟨g3, j * 13, none⟩) hl3 (by simpa using hg3)] at r0
   have HNX : Hid ((rrs.map RuleR.name)[j]? = some y.name) := by show _ = _; rw [List.getElem?_map, hy]; rfl
   have x0 : wr.cell? ⟨X, 0, none⟩ = some (.string r.name.text) := HR.o.xb.cell 0 (by omega);rw [hla] at q2;obtain ⟨bx, hbx⟩ : ∃ b, (y.name.toList == r.name.text.toList) = b := ⟨_, rfl⟩;have HBX := hid hbx
   have hki : (j : Int) < (n : Int) := by omega
   have HFA : Hid (∀ W, F0 wr W -> Calls Tryz.prog 131 #[.pointer (some ⟨p, 0, none⟩), .bool bx, .int .i64 4] W (FPost W p q (i + 1) (noteM (refNames r.name.text r.name.line (noteM f b8 6 r.name.line) ((rrs.map RuleR.name).take j)) bx 4 r.name.line))) := fun W hW => fault_any W p q g (i + 1) _ body cv r.name bx 4 4 (HR.o.wp.fr hW (by simp)) (HTW.o _ (HR.o.fr.trans hW.no)) HQ.o.1 HQ.o.2 HA.o.nm (by decide) rfl
   clear hy hla;go_wp2_with fail
   go_region_with (go_at_call 131; refine (HFA.o _ (by exact (Fr.refl _ _).drew)).mono ?_; rintro e w6 ⟨rfl, hP6, hF6⟩; have HZ : Hid (RLs w w6 p q X (i + 1) (noteM (refNames r.name.text r.name.line (noteM f b8 6 r.name.line) ((rrs.map RuleR.name).take j)) bx 4 r.name.line) (cs0 r.name.text)) := HR.o.call hP6 (((Fr.refl _ _).drew).trans hF6); clear hP6 hF6)
   all_goals
    clear q2 r0 x0;go_wp2;go_roundg (n - (j + 1))
    case measure => omega
    case rel =>
     refine ⟨j + 1, by omega, rfl, by go_num, ?_⟩
     show RLs _ _ _ _ _ _ _ _
     rw [refNames_take HNX.o, HBX.o];exact HZ.o
  ·have hki : ¬ (j : Int) < (n : Int) := by omega
   have HR' : Hid (RLs w wr p q X (i + 1) (refNames r.name.text r.name.line (noteM f b8 6 r.name.line) (rrs.map RuleR.name)) (cs0 r.name.text)) := by
    have e := HR.o;rw [List.take_of_length_le (by rw [List.length_map]; have := HN.o; omega)] at e;exact e
   obtain ⟨fn, hfn⟩ : ∃ fn, fn = refNames r.name.text r.name.line (noteM f b8 6 r.name.line) (rrs.map RuleR.name) := ⟨_, rfl⟩;rw [<- hfn] at HR';have HFN := hid hfn;obtain ⟨x, hx⟩ : ∃ x, x = i + 1 := ⟨_, rfl⟩;rw [<- hx] at HR';have HXE := hid hx
   have hxb : x + 7 <= 3000 := by omega
   have c1 := HR'.o.wp.c1;have fz := HR'.o.wp.fz;clear hx hfn HR hki hj
   have HR2 : Hid (RLs w (wr.setCell ⟨p, 1, none⟩ (.int .i64 ((x : Int) + 1))) p q X (x + 1) fn (cs0 r.name.text)) := by have e := HR'.o.move (x + 1); rw [Int.natCast_add] at e; exact e
   have HK2 : Hid (body[x + 1]? = some r.rank) := by have e := HA.o.rk; rw [HXE.o]; exact e
   go_wp2_with fail;refine (up_any _ p q g (x + 1) fn body cv r.rank 1000 _ _ HR2.o.wp (HTW.o _ HR2.o.fr) HQ.o.1 HQ.o.2 HK2.o HA.o.dg.1 (by omega) (by rfl) (by rfl)).mono ?_;rintro e w6 ⟨rfl, hP6, hF6⟩;obtain ⟨f6, hf6⟩ : ∃ f6, f6 = noteM fn (decide (1000 < valOf r.rank)) 5 r.rank.line := ⟨_, rfl⟩;obtain ⟨y, hy⟩ : ∃ y, y = x + 1 + 1 := ⟨_, rfl⟩;rw [<- hf6, <- hy] at hP6;have HF6 := hid hf6;have HY := hid hy
   have hyb : y + 5 <= 3000 := by have := HXE.o; omega
   have HR6 := hid (HR2.o.call hP6 hF6);obtain ⟨v1, hv1⟩ : ∃ v1, v1 = valOf r.rank := ⟨_, rfl⟩;rw [<- hv1];have HV1 := hid hv1;obtain ⟨cs1, hcs1⟩ : ∃ cs1, cs1 = upd (cs0 r.name.text) 1 (.int .i64 v1) := ⟨_, rfl⟩;have HCS1 := hid hcs1
   have HR7 : Hid (RLs w (w6.setCell ⟨X, 1, none⟩ (.int .i64 v1)) p q X y f6 cs1) := by rw [hcs1]; exact HR6.o.set (by omega) _
   have HR8 : Hid (RLs w ((w6.setCell ⟨X, 1, none⟩ (.int .i64 v1)).setCell ⟨p, 1, none⟩ (.int .i64 ((y : Int) + 2))) p q X (y + 2) f6 cs1) := by have e := HR7.o.move (y + 2); rw [Int.natCast_add] at e; exact e
   have x1 := HR6.o.xb.cell 1 (by omega);have xf := HR6.o.xb.fz;clear c1 fz;have c1 := HR7.o.wp.c1;have fz := HR7.o.wp.fz;clear hP6 hF6 hf6 hy hv1 hcs1 HR' HR2;go_wp2_with fail
   have HKb1 : Hid (body[y + 2]? = some r.bin.1) := by have e := HA.o.b1; rw [HY.o, HXE.o]; exact e
   refine (at_any _ p q g (y + 2) f6 body cv r.bin.1 HR8.o.wp (HTW.o _ HR8.o.fr) HKb1.o).mono ?_;rintro e w9 ⟨rfl, hf⟩;have HR9 := hid (HR8.o.look hf);clear hf c1 fz x1 xf HR8 HR7 HR6;obtain ⟨cs2, hcs2⟩ : ∃ cs2, cs2 = upd cs1 2 (.int .i64 r.bin.1.text.size) := ⟨_, rfl⟩;have HCS2 := hid hcs2
   have HR10 : Hid (RLs w (w9.setCell ⟨X, 2, none⟩ (.int .i64 r.bin.1.text.size)) p q X (y + 2) f6 cs2) := by rw [hcs2]; exact HR9.o.set (by omega) _
   have x2 := HR9.o.xb.cell 2 (by omega);have xf := HR9.o.xb.fz;obtain ⟨s1, hs1⟩ : ∃ s1, s1 = r.bin.1.text.size := ⟨_, rfl⟩;have HS1 := hid hs1;rw [<- hs1] at HR10 HCS2;have hs1' : r.bin.1.text.size = s1 := hs1.symm
   have hs19 : s1 <= 9 := by have := HA.o.dg.2.1.1; omega
   obtain ⟨b6, hb6⟩ : ∃ b, decide (6 < s1) = b := ⟨_, rfl⟩
   have hb6' : decide ((6 : Int) < (s1 : Int)) = b6 := by rw [<- hb6]; by_cases hq : 6 < s1 <;> simp [hq] <;> omega
   have HB6 := hid hb6;clear hcs2 hs1;go_wp2_with fail;refine (fault_any _ p q g (y + 2) f6 body cv r.bin.1 b6 5 _ HR10.o.wp (HTW.o _ HR10.o.fr) HQ.o.1 HQ.o.2 HKb1.o (by decide) (by rfl)).mono ?_;rintro e w11 ⟨rfl, hP11, hF11⟩;obtain ⟨f11, hf11⟩ : ∃ f11, f11 = noteM f6 b6 5 r.bin.1.line := ⟨_, rfl⟩;rw [<- hf11] at hP11;have HF11 := hid hf11;have HR11 := hid (HR10.o.call hP11 hF11);clear hP11 hF11 hf11 x2 xf hb6 hb6' HR10 HR9;go_wp2_with fail;refine (at_any _ p q g (y + 2) f11 body cv r.bin.1 HR11.o.wp (HTW.o _ HR11.o.fr) HKb1.o).mono ?_;rintro e w12 ⟨rfl, hf⟩;have HR12 := hid (HR11.o.look hf);clear hf HR11;go_wp2_with fail;refine (number_any r.bin.1.text w12 HA.o.dg.2.1).mono ?_;rintro e w13 ⟨rfl, he⟩;replace he := he.symm;subst he;obtain ⟨v3, hv3⟩ : ∃ v3, v3 = valOf r.bin.1 := ⟨_, rfl⟩;rw [show numOf r.bin.1.text.data.toList = v3 from hv3.symm];have HV3 := hid hv3;obtain ⟨cs3, hcs3⟩ : ∃ cs3, cs3 = upd cs2 3 (.int .i64 v3) := ⟨_, rfl⟩;have HCS3 := hid hcs3;obtain ⟨z, hz⟩ : ∃ z, z = y + 2 := ⟨_, rfl⟩;rw [<- hz] at HR12;have HZ := hid hz
   have hzb : z + 3 <= 3000 := by omega
   have HR13 : Hid (RLs w (w12.setCell ⟨X, 3, none⟩ (.int .i64 v3)) p q X z f11 cs3) := by rw [hcs3]; exact HR12.o.set (by omega) _
   have HR14 : Hid (RLs w ((w12.setCell ⟨X, 3, none⟩ (.int .i64 v3)).setCell ⟨p, 1, none⟩ (.int .i64 ((z : Int) + 2))) p q X (z + 2) f11 cs3) := by have e := HR13.o.move (z + 2); rw [Int.natCast_add] at e; exact e
   have x3 := HR12.o.xb.cell 3 (by omega);have xf := HR12.o.xb.fz;have c1 := HR13.o.wp.c1;have fz := HR13.o.wp.fz;clear hv3 hcs3 hz;go_wp2_with fail
   have HKb2 : Hid (body[z + 2]? = some r.bin.2) := by have e := HA.o.b2; rw [HZ.o, HY.o, HXE.o]; exact e
   refine (at_any _ p q g (z + 2) f11 body cv r.bin.2 HR14.o.wp (HTW.o _ HR14.o.fr) HKb2.o).mono ?_;rintro e w15 ⟨rfl, hf⟩;have HR15 := hid (HR14.o.look hf);clear hf c1 fz x3 xf HR14 HR13 HR12;go_wp2_with fail;refine (number_any r.bin.2.text w15 HA.o.dg.2.2.1).mono ?_;rintro e w16 ⟨rfl, he⟩;replace he := he.symm;subst he;obtain ⟨v4, hv4⟩ : ∃ v4, v4 = valOf r.bin.2 := ⟨_, rfl⟩;rw [show numOf r.bin.2.text.data.toList = v4 from hv4.symm];have HV4 := hid hv4;obtain ⟨cs4, hcs4⟩ : ∃ cs4, cs4 = upd cs3 4 (.int .i64 v4) := ⟨_, rfl⟩;have HCS4 := hid hcs4
   have HR16 : Hid (RLs w (w15.setCell ⟨X, 4, none⟩ (.int .i64 v4)) p q X (z + 2) f11 cs4) := by rw [hcs4]; exact HR15.o.set (by omega) _
   have x4 := HR15.o.xb.cell 4 (by omega);have xf := HR15.o.xb.fz;clear hv4 hcs4 HR15;go_wp2_with fail;generalize w15.setCell ⟨X, 4, none⟩ (.int .i64 v4) = w17 at *;clear x4 xf
   have HCL : Hid (∀ W i' f', RLs w W p q X i' f' cs4 -> W.cell? ⟨X, 2, none⟩ = some (.int .i64 s1) /\ W.cell? ⟨X, 3, none⟩ = some (.int .i64 v3) /\ W.cell? ⟨X, 4, none⟩ = some (.int .i64 v4)) := fun W i' f' hW => by
    have e2 := hW.xb.cell 2 (by omega);have e3 := hW.xb.cell 3 (by omega);have e4 := hW.xb.cell 4 (by omega);rw [HCS4.o, HCS3.o, HCS2.o] at e2 e3 e4;exact ⟨e2, e3, e4⟩
   have HC : Hid (∀ W, F0 w17 W -> W.cell? ⟨X, 2, none⟩ = some (.int .i64 s1) /\ W.cell? ⟨X, 3, none⟩ = some (.int .i64 v3) /\ W.cell? ⟨X, 4, none⟩ = some (.int .i64 v4)) := fun W hW => by
    exact HCL.o W _ _ (HR16.o.look hW)
   have HAT : Hid (∀ W, F0 w17 W -> Calls Tryz.prog 80 #[.pointer (some ⟨p, 0, none⟩)] W fun e w' => e = .returned (.string r.bin.2.text) /\ F0 W w') := fun W hW => at_any W p q g (z + 2) f11 body cv r.bin.2 (HR16.o.look hW).wp (HTW.o _ (HR16.o.look hW).fr) HKb2.o
   have HFT : Hid (∀ b W, F0 w17 W -> Calls Tryz.prog 131 #[.pointer (some ⟨p, 0, none⟩), .bool b, .int .i64 5] W fun e w' => e = .returned (.tuple #[]) /\ RLs w w' p q X (z + 2) (noteM f11 b 5 r.bin.2.line) cs4 /\ w'.cell? ⟨X, 2, none⟩ = some (.int .i64 s1) /\ w'.cell? ⟨X, 3, none⟩ = some (.int .i64 v3) /\ w'.cell? ⟨X, 4, none⟩ = some (.int .i64 v4)) := fun b W hW => (fault_any W p q g (z + 2) f11 body cv r.bin.2 b 5 5 (HR16.o.look hW).wp (HTW.o _ (HR16.o.look hW).fr) HQ.o.1 HQ.o.2 HKb2.o (by decide) rfl).mono fun e w' h => ⟨h.1, (HR16.o.look hW).call h.2.1 h.2.2, HCL.o _ _ _ ((HR16.o.look hW).call h.2.1 h.2.2)⟩
   obtain ⟨s2, hs2⟩ : ∃ s2, r.bin.2.text.size = s2 := ⟨_, rfl⟩;have HS2 := hid hs2.symm
   have hs29 : s2 <= 9 := by have := HA.o.dg.2.2.1.1; omega
   obtain ⟨k2, k3, k4⟩ := HC.o w17 (Fr.refl _ _)
   go_cut [] (fun wx => Hid (RLs w wx p q X (z + 2) (noteM f11 (decide (6 < s2) || decide (s2 ≠ s1) || decide (v4 < v3)) 5 r.bin.2.line) cs4))
   case first =>
    clear k2 k3 k4;by_cases g1 : 6 < s2
    ·have d1 : decide (6 < s2) = true := by simpa using g1
     have d1' : decide ((6 : Int) < (s2 : Int)) = true := by simp; omega
     have HW : Hid ((decide (6 < s2) || decide (s2 ≠ s1) || decide (v4 < v3)) = true) := by show _ = _; simp [g1]
     clear g1;refine wp_region_held_drew (S := fun W => W.cell? ⟨X, 2, none⟩ = some (.int .i64 s1) /\ W.cell? ⟨X, 3, none⟩ = some (.int .i64 v3) /\ W.cell? ⟨X, 4, none⟩ = some (.int .i64 v4)) (by kernel_rfl) ?_ (fun hH => ?_)
     ·exact HC.o _ (Fr.refl _ _).drew
     have HFa : Hid (F0 w17 w17.drew) := (Fr.refl _ _).drew;refine htk 0 (v := ?v0A) ?y0A hH ?r0A
     case y0A => intro w hw; obtain ⟨k2, k3, k4⟩ := hw; go_simp; with_reducible rfl
     try go_frame
     refine htk 1 (v := ?v1A) ?y1A hH ?r1A
     case y1A => intro w hw; obtain ⟨k2, k3, k4⟩ := hw; go_simp; with_reducible rfl
     try go_frame
     refine wpAnyH_ready (rs := [2]) (by kernel_rfl) (by simp) ?_;refine held_cons rfl (fun K hK => ?_) AllReadyH.nil;go_simp;refine at_step HAT.o HFa.o ?_;intro w182 hFa;refine hK.out _ _ (HC.o _ hFa) (fun hH => ?_);clear hK K HFa;have HFa := hid hFa;clear hFa
     try go_frame
     refine htk 3 (v := ?v3A) ?y3A hH ?r3A
     case y3A => intro w hw; obtain ⟨k2, k3, k4⟩ := hw; go_simp; with_reducible rfl
     try go_frame
     refine htk 4 (v := ?v4A) ?y4A hH ?r4A
     case y4A => intro w hw; obtain ⟨k2, k3, k4⟩ := hw; go_simp; with_reducible rfl
     try go_frame
     refine htk 5 (v := ?v5A) ?y5A hH ?r5A
     case y5A => intro w hw; obtain ⟨k2, k3, k4⟩ := hw; go_simp; with_reducible rfl
     try go_frame
     refine held_skip 6 rfl (by kernel_rfl) (by kernel_rfl) (by kernel_rfl) (fun _ _ _ h => h) rfl hH ?_
     try go_frame
     refine held_skip 7 rfl (by kernel_rfl) (by kernel_rfl) (by kernel_rfl) (fun _ _ _ h => h) rfl hH ?_
     try go_frame
     refine held_skip 8 rfl (by kernel_rfl) (by kernel_rfl) (by kernel_rfl) (fun _ _ _ h => h) rfl hH ?_
     try go_frame
     refine held_skip 9 rfl (by kernel_rfl) (by kernel_rfl) (by kernel_rfl) (fun _ _ _ h => h) rfl hH ?_
     try go_frame
     refine held_skip 10 rfl (by kernel_rfl) (by kernel_rfl) (by kernel_rfl) (fun _ _ _ h => h) rfl hH ?_
     try go_frame
     refine held_skip 11 rfl (by kernel_rfl) (by kernel_rfl) (by kernel_rfl) (fun _ _ _ h => h) rfl hH ?_
     try go_frame
     refine htk 12 (v := ?v12A) ?y12A hH ?r12A
     case y12A => intro w hw; obtain ⟨k2, k3, k4⟩ := hw; go_simp; with_reducible rfl
     try go_frame
     refine htk 13 (v := ?v13A) ?y13A hH ?r13A
     case y13A => intro w hw; obtain ⟨k2, k3, k4⟩ := hw; go_simp; with_reducible rfl
     try go_frame
     refine held_skip 14 rfl (by kernel_rfl) (by kernel_rfl) (by kernel_rfl) (fun _ _ _ h => h) rfl hH ?_
     try go_frame
     refine held_skip 15 rfl (by kernel_rfl) (by kernel_rfl) (by kernel_rfl) (fun _ _ _ h => h) rfl hH ?_
     try go_frame
     refine held_skip 16 rfl (by kernel_rfl) (by kernel_rfl) (by kernel_rfl) (fun _ _ _ h => h) rfl hH ?_
     try go_frame
     refine held_skip 17 rfl (by kernel_rfl) (by kernel_rfl) (by kernel_rfl) (fun _ _ _ h => h) rfl hH ?_
     try go_frame
     refine held_skip 18 rfl (by kernel_rfl) (by kernel_rfl) (by kernel_rfl) (fun _ _ _ h => h) rfl hH ?_
     try go_frame
     refine htk 19 (v := ?v19A) ?y19A hH ?r19A
     case y19A => intro w hw; obtain ⟨k2, k3, k4⟩ := hw; go_simp; with_reducible rfl
     try go_frame
     refine wpAnyH_ready (rs := [20]) (by kernel_rfl) (by simp) ?_;refine held_cons rfl (fun K hK => ?_) AllReadyH.nil;go_simp;refine (HFT.o true _ HFa.o).mono ?_;rintro e w19 ⟨rfl, hL, m2, m3, m4⟩;refine hK.out _ _ ⟨m2, m3, m4⟩ (fun hH => ?_);have HL := hid hL;clear hK K hL m2 m3 m4
     try go_frame
     refine wpAnyH_done (by kernel_rfl) ?_ _;go_wp2_with fail;go_meet;rw [HW.o];exact HL
    ·have d1 : decide (6 < s2) = false := by simpa using g1
     have d1' : decide ((6 : Int) < (s2 : Int)) = false := by simp; omega
     by_cases g2 : s2 = s1
     ·have d2 : ((s2 : Int) != (s1 : Int)) = false := by simp [g2]
      have d2' : ((s2 : Int) == (s1 : Int)) = true := by simp [g2]
      by_cases g3 : v4 < v3
      ·have d3 : decide (v4 < v3) = true := by simpa using g3
       have d3' : decide ((v4 : Int) < (v3 : Int)) = true := by simp; omega
       have HW : Hid ((decide (6 < s2) || decide (s2 ≠ s1) || decide (v4 < v3)) = true) := by show _ = _; simp [g3]
       clear g1 g2 g3;refine wp_region_held_drew (S := fun W => W.cell? ⟨X, 2, none⟩ = some (.int .i64 s1) /\ W.cell? ⟨X, 3, none⟩ = some (.int .i64 v3) /\ W.cell? ⟨X, 4, none⟩ = some (.int .i64 v4)) (by kernel_rfl) ?_ (fun hH => ?_)
       ·exact HC.o _ (Fr.refl _ _).drew
       have HFa : Hid (F0 w17 w17.drew) := (Fr.refl _ _).drew;refine htk 0 (v := ?v0C) ?y0C hH ?r0C
       case y0C => intro w hw; obtain ⟨k2, k3, k4⟩ := hw; go_simp; with_reducible rfl
       try go_frame
       refine htk 1 (v := ?v1C) ?y1C hH ?r1C
       case y1C => intro w hw; obtain ⟨k2, k3, k4⟩ := hw; go_simp; with_reducible rfl
       try go_frame
       refine wpAnyH_ready (rs := [2]) (by kernel_rfl) (by simp) ?_;refine held_cons rfl (fun K hK => ?_) AllReadyH.nil;go_simp;refine at_step HAT.o HFa.o ?_;intro w182 hFa;refine hK.out _ _ (HC.o _ hFa) (fun hH => ?_);clear hK K HFa;have HFa := hid hFa;clear hFa
       try go_frame
       refine htk 3 (v := ?v3C) ?y3C hH ?r3C
       case y3C => intro w hw; obtain ⟨k2, k3, k4⟩ := hw; go_simp; with_reducible rfl
       try go_frame
       refine htk 4 (v := ?v4C) ?y4C hH ?r4C
       case y4C => intro w hw; obtain ⟨k2, k3, k4⟩ := hw; go_simp; with_reducible rfl
       try go_frame
       refine htk 5 (v := ?v5C) ?y5C hH ?r5C
       case y5C => intro w hw; obtain ⟨k2, k3, k4⟩ := hw; go_simp; with_reducible rfl
       try go_frame
       refine htk 6 (v := ?v6C) ?y6C hH ?r6C
       case y6C => intro w hw; obtain ⟨k2, k3, k4⟩ := hw; go_simp; with_reducible rfl
       try go_frame
       refine htk 9 (v := ?v9C) ?y9C hH ?r9C
       case y9C => intro w hw; obtain ⟨k2, k3, k4⟩ := hw; go_simp; with_reducible rfl
       try go_frame
       refine htk 10 (v := ?v10C) ?y10C hH ?r10C
       case y10C => intro w hw; obtain ⟨k2, k3, k4⟩ := hw; go_simp; with_reducible rfl
       try go_frame
       refine wpAnyH_ready (rs := [7]) (by kernel_rfl) (by simp) ?_;refine held_cons rfl (fun K hK => ?_) AllReadyH.nil;go_simp;refine at_step HAT.o HFa.o ?_;intro w187 hFa;refine hK.out _ _ (HC.o _ hFa) (fun hH => ?_);clear hK K HFa;have HFa := hid hFa;clear hFa
       try go_frame
       refine htk 8 (v := ?v8C) ?y8C hH ?r8C
       case y8C => intro w hw; obtain ⟨k2, k3, k4⟩ := hw; go_simp; with_reducible rfl
       try go_frame
       refine htk 11 (v := ?v11C) ?y11C hH ?r11C
       case y11C => intro w hw; obtain ⟨k2, k3, k4⟩ := hw; go_simp; with_reducible rfl
       try go_frame
       refine htk 12 (v := ?v12C) ?y12C hH ?r12C
       case y12C => intro w hw; obtain ⟨k2, k3, k4⟩ := hw; go_simp; with_reducible rfl
       try go_frame
       refine htk 13 (v := ?v13C) ?y13C hH ?r13C
       case y13C => intro w hw; obtain ⟨k2, k3, k4⟩ := hw; go_simp; with_reducible rfl
       try go_frame
       refine htk 14 (v := ?v14C) ?y14C hH ?r14C
       case y14C => intro w hw; obtain ⟨k2, k3, k4⟩ := hw; go_simp; with_reducible rfl
       try go_frame
       refine htk 15 (v := ?v15C) ?y15C hH ?r15C
       case y15C => intro w hw; obtain ⟨k2, k3, k4⟩ := hw; go_simp; with_reducible rfl
       try go_frame
       refine htk 16 (v := ?v16C) ?y16C hH ?r16C
       case y16C => intro w hw; obtain ⟨k2, k3, k4⟩ := hw; go_simp; with_reducible rfl
       try go_frame
       refine htk 17 (v := ?v17C) ?y17C hH ?r17C
       case y17C => intro w hw; obtain ⟨k2, k3, k4⟩ := hw; go_simp; with_reducible rfl
       try go_frame
       refine htk 18 (v := ?v18C) ?y18C hH ?r18C
       case y18C => intro w hw; obtain ⟨k2, k3, k4⟩ := hw; go_simp; with_reducible rfl
       try go_frame
       refine htk 19 (v := ?v19C) ?y19C hH ?r19C
       case y19C => intro w hw; obtain ⟨k2, k3, k4⟩ := hw; go_simp; with_reducible rfl
       try go_frame
       refine wpAnyH_ready (rs := [20]) (by kernel_rfl) (by simp) ?_;refine held_cons rfl (fun K hK => ?_) AllReadyH.nil;go_simp;refine (HFT.o true _ HFa.o).mono ?_;rintro e w19 ⟨rfl, hL, m2, m3, m4⟩;refine hK.out _ _ ⟨m2, m3, m4⟩ (fun hH => ?_);have HL := hid hL;clear hK K hL m2 m3 m4
       try go_frame
       refine wpAnyH_done (by kernel_rfl) ?_ _;go_wp2_with fail;go_meet;rw [HW.o];exact HL
      ·have d3 : decide (v4 < v3) = false := by simpa using g3
       have d3' : decide ((v4 : Int) < (v3 : Int)) = false := by simp; omega
       have HW : Hid ((decide (6 < s2) || decide (s2 ≠ s1) || decide (v4 < v3)) = false) := by show _ = _; simp [g2, g3]; omega
       clear g1 g2 g3;refine wp_region_held_drew (S := fun W => W.cell? ⟨X, 2, none⟩ = some (.int .i64 s1) /\ W.cell? ⟨X, 3, none⟩ = some (.int .i64 v3) /\ W.cell? ⟨X, 4, none⟩ = some (.int .i64 v4)) (by kernel_rfl) ?_ (fun hH => ?_)
       ·exact HC.o _ (Fr.refl _ _).drew
       have HFa : Hid (F0 w17 w17.drew) := (Fr.refl _ _).drew;refine htk 0 (v := ?v0D) ?y0D hH ?r0D
       case y0D => intro w hw; obtain ⟨k2, k3, k4⟩ := hw; go_simp; with_reducible rfl
       try go_frame
       refine htk 1 (v := ?v1D) ?y1D hH ?r1D
       case y1D => intro w hw; obtain ⟨k2, k3, k4⟩ := hw; go_simp; with_reducible rfl
       try go_frame
       refine wpAnyH_ready (rs := [2]) (by kernel_rfl) (by simp) ?_;refine held_cons rfl (fun K hK => ?_) AllReadyH.nil;go_simp;refine at_step HAT.o HFa.o ?_;intro w182 hFa;refine hK.out _ _ (HC.o _ hFa) (fun hH => ?_);clear hK K HFa;have HFa := hid hFa;clear hFa
       try go_frame
       refine htk 3 (v := ?v3D) ?y3D hH ?r3D
       case y3D => intro w hw; obtain ⟨k2, k3, k4⟩ := hw; go_simp; with_reducible rfl
       try go_frame
       refine htk 4 (v := ?v4D) ?y4D hH ?r4D
       case y4D => intro w hw; obtain ⟨k2, k3, k4⟩ := hw; go_simp; with_reducible rfl
       try go_frame
       refine htk 5 (v := ?v5D) ?y5D hH ?r5D
       case y5D => intro w hw; obtain ⟨k2, k3, k4⟩ := hw; go_simp; with_reducible rfl
       try go_frame
       refine htk 6 (v := ?v6D) ?y6D hH ?r6D
       case y6D => intro w hw; obtain ⟨k2, k3, k4⟩ := hw; go_simp; with_reducible rfl
       try go_frame
       refine htk 9 (v := ?v9D) ?y9D hH ?r9D
       case y9D => intro w hw; obtain ⟨k2, k3, k4⟩ := hw; go_simp; with_reducible rfl
       try go_frame
       refine htk 10 (v := ?v10D) ?y10D hH ?r10D
       case y10D => intro w hw; obtain ⟨k2, k3, k4⟩ := hw; go_simp; with_reducible rfl
       try go_frame
       refine wpAnyH_ready (rs := [7]) (by kernel_rfl) (by simp) ?_;refine held_cons rfl (fun K hK => ?_) AllReadyH.nil;go_simp;refine at_step HAT.o HFa.o ?_;intro w187 hFa;refine hK.out _ _ (HC.o _ hFa) (fun hH => ?_);clear hK K HFa;have HFa := hid hFa;clear hFa
       try go_frame
       refine htk 8 (v := ?v8D) ?y8D hH ?r8D
       case y8D => intro w hw; obtain ⟨k2, k3, k4⟩ := hw; go_simp; with_reducible rfl
       try go_frame
       refine htk 11 (v := ?v11D) ?y11D hH ?r11D
       case y11D => intro w hw; obtain ⟨k2, k3, k4⟩ := hw; go_simp; with_reducible rfl
       try go_frame
       refine htk 12 (v := ?v12D) ?y12D hH ?r12D
       case y12D => intro w hw; obtain ⟨k2, k3, k4⟩ := hw; go_simp; with_reducible rfl
       try go_frame
       refine htk 13 (v := ?v13D) ?y13D hH ?r13D
       case y13D => intro w hw; obtain ⟨k2, k3, k4⟩ := hw; go_simp; with_reducible rfl
       try go_frame
       refine htk 14 (v := ?v14D) ?y14D hH ?r14D
       case y14D => intro w hw; obtain ⟨k2, k3, k4⟩ := hw; go_simp; with_reducible rfl
       try go_frame
       refine htk 15 (v := ?v15D) ?y15D hH ?r15D
       case y15D => intro w hw; obtain ⟨k2, k3, k4⟩ := hw; go_simp; with_reducible rfl
       try go_frame
       refine htk 16 (v := ?v16D) ?y16D hH ?r16D
       case y16D => intro w hw; obtain ⟨k2, k3, k4⟩ := hw; go_simp; with_reducible rfl
       try go_frame
       refine htk 17 (v := ?v17D) ?y17D hH ?r17D
       case y17D => intro w hw; obtain ⟨k2, k3, k4⟩ := hw; go_simp; with_reducible rfl
       try go_frame
       refine htk 18 (v := ?v18D) ?y18D hH ?r18D
       case y18D => intro w hw; obtain ⟨k2, k3, k4⟩ := hw; go_simp; with_reducible rfl
       try go_frame
       refine htk 19 (v := ?v19D) ?y19D hH ?r19D
       case y19D => intro w hw; obtain ⟨k2, k3, k4⟩ := hw; go_simp; with_reducible rfl
       try go_frame
       refine wpAnyH_ready (rs := [20]) (by kernel_rfl) (by simp) ?_;refine held_cons rfl (fun K hK => ?_) AllReadyH.nil;go_simp;refine (HFT.o false _ HFa.o).mono ?_;rintro e w19 ⟨rfl, hL, m2, m3, m4⟩;refine hK.out _ _ ⟨m2, m3, m4⟩ (fun hH => ?_);have HL := hid hL;clear hK K hL m2 m3 m4
       try go_frame
       refine wpAnyH_done (by kernel_rfl) ?_ _;go_wp2_with fail;go_meet;rw [HW.o];exact HL
     ·have d2 : ((s2 : Int) != (s1 : Int)) = true := by simp; omega
      have d2' : ((s2 : Int) == (s1 : Int)) = false := by simp; omega
      have HW : Hid ((decide (6 < s2) || decide (s2 ≠ s1) || decide (v4 < v3)) = true) := by show _ = _; simp [g2]
      clear g1 g2;refine wp_region_held_drew (S := fun W => W.cell? ⟨X, 2, none⟩ = some (.int .i64 s1) /\ W.cell? ⟨X, 3, none⟩ = some (.int .i64 v3) /\ W.cell? ⟨X, 4, none⟩ = some (.int .i64 v4)) (by kernel_rfl) ?_ (fun hH => ?_)
      ·exact HC.o _ (Fr.refl _ _).drew
      have HFa : Hid (F0 w17 w17.drew) := (Fr.refl _ _).drew;refine htk 0 (v := ?v0B) ?y0B hH ?r0B
      case y0B => intro w hw; obtain ⟨k2, k3, k4⟩ := hw; go_simp; with_reducible rfl
      try go_frame
      refine htk 1 (v := ?v1B) ?y1B hH ?r1B
      case y1B => intro w hw; obtain ⟨k2, k3, k4⟩ := hw; go_simp; with_reducible rfl
      try go_frame
      refine wpAnyH_ready (rs := [2]) (by kernel_rfl) (by simp) ?_;refine held_cons rfl (fun K hK => ?_) AllReadyH.nil;go_simp;refine at_step HAT.o HFa.o ?_;intro w182 hFa;refine hK.out _ _ (HC.o _ hFa) (fun hH => ?_);clear hK K HFa;have HFa := hid hFa;clear hFa
      try go_frame
      refine htk 3 (v := ?v3B) ?y3B hH ?r3B
      case y3B => intro w hw; obtain ⟨k2, k3, k4⟩ := hw; go_simp; with_reducible rfl
      try go_frame
      refine htk 4 (v := ?v4B) ?y4B hH ?r4B
      case y4B => intro w hw; obtain ⟨k2, k3, k4⟩ := hw; go_simp; with_reducible rfl
      try go_frame
      refine htk 5 (v := ?v5B) ?y5B hH ?r5B
      case y5B => intro w hw; obtain ⟨k2, k3, k4⟩ := hw; go_simp; with_reducible rfl
      try go_frame
      refine htk 6 (v := ?v6B) ?y6B hH ?r6B
      case y6B => intro w hw; obtain ⟨k2, k3, k4⟩ := hw; go_simp; with_reducible rfl
      try go_frame
      refine htk 9 (v := ?v9B) ?y9B hH ?r9B
      case y9B => intro w hw; obtain ⟨k2, k3, k4⟩ := hw; go_simp; with_reducible rfl
      try go_frame
      refine htk 10 (v := ?v10B) ?y10B hH ?r10B
      case y10B => intro w hw; obtain ⟨k2, k3, k4⟩ := hw; go_simp; with_reducible rfl
      try go_frame
      refine wpAnyH_ready (rs := [7]) (by kernel_rfl) (by simp) ?_;refine held_cons rfl (fun K hK => ?_) AllReadyH.nil;go_simp;refine at_step HAT.o HFa.o ?_;intro w187 hFa;refine hK.out _ _ (HC.o _ hFa) (fun hH => ?_);clear hK K HFa;have HFa := hid hFa;clear hFa
      try go_frame
      refine htk 8 (v := ?v8B) ?y8B hH ?r8B
      case y8B => intro w hw; obtain ⟨k2, k3, k4⟩ := hw; go_simp; with_reducible rfl
      try go_frame
      refine htk 11 (v := ?v11B) ?y11B hH ?r11B
      case y11B => intro w hw; obtain ⟨k2, k3, k4⟩ := hw; go_simp; with_reducible rfl
      try go_frame
      refine htk 12 (v := ?v12B) ?y12B hH ?r12B
      case y12B => intro w hw; obtain ⟨k2, k3, k4⟩ := hw; go_simp; with_reducible rfl
      try go_frame
      refine htk 13 (v := ?v13B) ?y13B hH ?r13B
      case y13B => intro w hw; obtain ⟨k2, k3, k4⟩ := hw; go_simp; with_reducible rfl
      try go_frame
      refine held_skip 14 rfl (by kernel_rfl) (by kernel_rfl) (by kernel_rfl) (fun _ _ _ h => h) rfl hH ?_
      try go_frame
      refine held_skip 15 rfl (by kernel_rfl) (by kernel_rfl) (by kernel_rfl) (fun _ _ _ h => h) rfl hH ?_
      try go_frame
      refine held_skip 16 rfl (by kernel_rfl) (by kernel_rfl) (by kernel_rfl) (fun _ _ _ h => h) rfl hH ?_
      try go_frame
      refine held_skip 17 rfl (by kernel_rfl) (by kernel_rfl) (by kernel_rfl) (fun _ _ _ h => h) rfl hH ?_
      try go_frame
      refine held_skip 18 rfl (by kernel_rfl) (by kernel_rfl) (by kernel_rfl) (fun _ _ _ h => h) rfl hH ?_
      try go_frame
      refine htk 19 (v := ?v19B) ?y19B hH ?r19B
      case y19B => intro w hw; obtain ⟨k2, k3, k4⟩ := hw; go_simp; with_reducible rfl
      try go_frame
      refine wpAnyH_ready (rs := [20]) (by kernel_rfl) (by simp) ?_;refine held_cons rfl (fun K hK => ?_) AllReadyH.nil;go_simp;refine (HFT.o true _ HFa.o).mono ?_;rintro e w19 ⟨rfl, hL, m2, m3, m4⟩;refine hK.out _ _ ⟨m2, m3, m4⟩ (fun hH => ?_);have HL := hid hL;clear hK K hL m2 m3 m4
      try go_frame
      refine wpAnyH_done (by kernel_rfl) ?_ _;go_wp2_with fail;go_meet;rw [HW.o];exact HL
   case rest =>
    clear k2 k3 k4
    apply_assumption
    exact wrule_tail17 w B B2 p q g i f body cv vr vl rts rrs xs r j5 hb h7 HS0 HA HQ HTW la lc HVL n HN b8 HB8 hn8 HPL X fn HFN x HXE f6 y HF6 HY v1 HV1 cs1 HCS1 cs2 s1 HCS2 HS1 b6 HB6 f11 HF11 v3 HV3 cs3 HCS3 z HZ hzb v4 HV4 cs4 HCS4 s2 HS2 wc hcut _ _ _ _ _ _ _ _ _ _ _ _ _ _ _ _ _ _ _ _ _ _ _ _ _ _ _ _ _ _ _ _ _ _ _ _ _ _ _ _ _ _ _ _ _ _ _ _ _ _ _ _ _ _ _ _ _ _ _ _ _ _ _ _ _ _ _ _ _ _ _ _ _ _ _ _ _ _ _ _ _ _ _ _ _ _ _ _ _ _ _ _ _ _ _ _ _ _ _ _ _ _ _ _ _ _ _ _ _ _ _ _ _ _ _ _ _ _ _ _ _ _ _ _ _ _ _ _ _ _ _ _ _ _ _ _ _ _ _ _ _ _ _ _ _ _ _ _ _ _ _ _ _ _ _ _ _ _ _ _ _ _ _ _ _ _ _ _ _ _ _ _ _ _ _ _ _ _ _ _ _ _ _ _ _ _ _ _ _ _ _ _
