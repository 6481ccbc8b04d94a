/- An image whole. Bits that are turned in a row; plain. -/
import Derived.Test.YtccikgogjfbpeaaGreatDoorCHa
import Derived.Test.YtccikgogjfbpeaaGreatDoorCJd
import Derived.Test.YtccikgogjfbpeaaGreatDoorCJb
namespace Go.Proofs.YtccikgogjfbpeaaGreatDoor
open Go.RowKit
structure TmAt (w : World) (TT : Nat) (t : TrD) (ra : Option Addr) (rc : Nat) (na : Option Addr) (nc : Nat) (pa : Option Addr) (pc : Nat) (xp : Option Addr) (yp lo : Nat) : Prop where
 bx : w.heap[TT]? = some (.cells #[.slice ra t.rts.length rc, .slice na t.nms.length nc, .slice pa t.prs.length pc, .pointer xp, .int .i64 (yp : Nat)] 135)
 rt : ∀ i r, t.rts[i]? = some r → ∃ g, ra = some ⟨g, 0, none⟩ ∧ w.cell? ⟨g, i * 3, none⟩ = some (.string r.name) ∧ w.cell? ⟨g, i * 3 + 1, none⟩ = some (.int .i64 (r.base : Nat)) ∧ w.cell? ⟨g, i * 3 + 2, none⟩ = some (.int .i64 (r.rate : Nat))
 nm : ∀ i s, t.nms[i]? = some s → ∃ g, na = some ⟨g, 0, none⟩ ∧ w.cell? ⟨g, i, none⟩ = some (.string s)
 pr : ∀ i l, t.prs[i]? = some l → ∃ g qa qc, pa = some ⟨g, 0, none⟩ ∧ w.cell? ⟨g, i, none⟩ = some (.slice qa l.length qc) ∧ PgAt w w.heap.size qa l
 tr : TrAt w lo t.root (.agg #[.pointer xp, .int .i64 (yp : Nat)])
theorem TgAt.tm {zb : Nat} {w : World} {TT : Nat} {t : TrD} {ra : Option Addr} {rc : Nat} (h : TgAt zb w TT t.rts ra rc t.nms t.prs t.root) : ∃ na nc pa pc xp yp, TmAt w TT t ra rc na nc pa pc xp yp zb := by
 obtain ⟨vn, vp, a, b, h1, h2, ⟨xs, h3, h4⟩, h5⟩ := h.bx
 obtain ⟨na, nc, rfl⟩ := ownsRow_len h2
 obtain ⟨pa, pc, rfl⟩ := ownsRow_len h3
 obtain ⟨xp, yp, rfl, rfl⟩ := trAt_shape h5
 refine ⟨na, nc, pa, pc, xp, yp, h1, fun i r hi => ?_, fun i s hi => ?_, fun i l hi => ?_, h5⟩
 ·have hl := (List.getElem?_eq_some_iff.1 hi).1
  obtain ⟨g, cap, e, _, _, hc⟩ := ownsRow_rt h.ro (by omega)
  injection e with e _ _
  exact ⟨g, e, hc i r hi⟩
 ·have hl := (List.getElem?_eq_some_iff.1 hi).1
  obtain ⟨g, cap, e, _, _⟩ := h2.form (by omega)
  injection e with e _ _
  subst e
  have hx := h2.cells (g := g) rfl i (.string s) (by rw [List.getElem?_map, hi]; rfl)
  rw [addr_add', Nat.zero_add] at hx
  exact ⟨g, rfl, hx⟩
 ·have hl := (List.getElem?_eq_some_iff.1 hi).1
  obtain ⟨g, cap, e, _, _⟩ := h3.form (by omega)
  injection e with e _ _
  subst e
  obtain ⟨vj, e1, e2⟩ := h4 i l hi
  obtain ⟨ys, o1, o2⟩ := e2
  obtain ⟨qa, qc, rfl⟩ := ownsRow_len o1
  have hx := h3.cells (g := g) rfl i _ e1
  rw [addr_add', Nat.zero_add] at hx
  exact ⟨g, qa, qc, rfl, hx, PgAt.of ⟨ys, o1, o2⟩ (Nat.le_refl _)⟩
def uptoW {α : Type} (L : List UInt8) (W : α → List UInt8) (xs : List α) (i : Nat) : List UInt8 := (L ++ numW 1 xs.length) ++ (xs.take i).flatMap W
theorem upto_zero {α : Type} (L : List UInt8) (W : α → List UInt8) (xs : List α) : uptoW L W xs 0 = L ++ numW 1 xs.length := by simp [uptoW]
theorem upto_succ {α : Type} {L : List UInt8} {W : α → List UInt8} {xs : List α} {i : Nat} {x : α} (h : xs[i]? = some x) : uptoW L W xs (i + 1) = uptoW L W xs i ++ W x := by
 unfold uptoW
 rw [flat_snoc W h]
 simp only [List.append_assoc]
theorem upto_all {α : Type} {L : List UInt8} {W : α → List UInt8} {xs : List α} {i : Nat} (h : xs.length = i) : uptoW L W xs i = L ++ (numW 1 xs.length ++ xs.flatMap W) := by
 unfold uptoW
 rw [List.take_of_length_le (by omega), List.append_assoc]
theorem upto_len {α : Type} {L : List UInt8} {W : α → List UInt8} {xs : List α} {i : Nat} {x : α} (h : xs[i]? = some x) : (uptoW L W xs i ++ W x).length ≤ (L ++ (numW 1 xs.length ++ xs.flatMap W)).length := by
 rw [← upto_succ h]
 unfold uptoW
 have := flat_take W xs (i + 1)
 simp only [List.length_append]
 omega
set_option maxRecDepth 30000 in
set_option maxHeartbeats 4000000 in
theorem tImage_any (w : World) (TT : Nat) (t : TrD) (ra : Option Addr) (rc : Nat) (na : Option Addr) (nc : Nat) (pa : Option Addr) (pc : Nat) (xp : Option Addr) (yp lo : Nat) (h : TmAt w TT t ra rc na nc pa pc xp yp lo) (hw : t.Wr) (hl : (bodyW t).length ≤ 199992) (hH : Hal w) :
  Calls Tryz.prog 40 #[.pointer (some ⟨TT, 0, none⟩)] w fun e w' => e = .returned (.string ⟨(closeM (bodyW t)).toArray⟩) ∧ Fr (fun _ => False) w w' := by
 have hr6 := hw.r6
 have hn8 := hw.n8
 have hp := hw.pl.2
 obtain ⟨L1, hL1⟩ : ∃ L1, numW 1 t.rts.length ++ t.rts.flatMap routeW = L1 := ⟨_, rfl⟩
 obtain ⟨L2, hL2⟩ : ∃ L2, L1 ++ (numW 1 t.nms.length ++ t.nms.flatMap nameW) = L2 := ⟨_, rfl⟩
 obtain ⟨L3, hL3⟩ : ∃ L3, L2 ++ (numW 1 t.prs.length ++ t.prs.flatMap progW) = L3 := ⟨_, rfl⟩
 have hB : bodyW t = L3 ++ t.root.wr := by unfold bodyW; rw [← hL3, ← hL2, ← hL1]; simp only [List.append_assoc]
 have hl3 : L3.length ≤ 199992 := by rw [hB, List.length_append] at hl; omega
 have hl2 : L2.length ≤ 199992 := by rw [← hL3, List.length_append] at hl3; omega
 have hl1 : L1.length ≤ 199992 := by rw [← hL2, List.length_append] at hl2; omega
 obtain ⟨B, hBs⟩ : ∃ B, w.heap.size = B := ⟨_, rfl⟩
 have HTw : Hid (TT < B) := by show _ < _; rw [← hBs]; exact (Array.getElem?_eq_some_iff.1 h.bx).1
 have HF0 : Hid (Fr (fun _ => False) w (w.alloc (.cells #[.slice none 0 0] 145))) := (Fr.refl _ _).alloc _
 have HW0 : Hid (WtAt (w.alloc (.cells #[.slice none 0 0] 145)) B []) := ⟨⟨_, by rw [← hBs]; exact heap_alloc_new w _, World.ownsRow_nil _ _ _ _⟩, by simp⟩
 have HH := hid h
 have HWr := hid hw
 have HHl := hid hH
 have HBY := hid hB
 have HL1 := hid hL1
 have HL2 := hid hL2
 have HL3 := hid hL3
 have HBs := hid hBs
 have HC : Hid (∀ W, Fr (fun k => B ≤ k) w W → W.cell? ⟨TT, 0, none⟩ = some (.slice ra t.rts.length rc) ∧ W.cell? ⟨TT, 1, none⟩ = some (.slice na t.nms.length nc) ∧ W.cell? ⟨TT, 2, none⟩ = some (.slice pa t.prs.length pc) ∧ W.cell? ⟨TT, 3, none⟩ = some (.pointer xp) ∧ W.cell? ⟨TT, 4, none⟩ = some (.int .i64 (yp : Nat))) := fun W hf => by
  have e := hf.whole h.bx (by have := HTw.out; show ¬ B ≤ TT; omega)
  exact ⟨block_cell e 0 _ rfl, block_cell e 1 _ rfl, block_cell e 2 _ rfl, block_cell e 3 _ rfl, block_cell e 4 _ rfl⟩
 obtain ⟨n1, hn1⟩ : ∃ n, t.rts.length = n := ⟨_, rfl⟩
 obtain ⟨n2, hn2⟩ : ∃ n, t.nms.length = n := ⟨_, rfl⟩
 obtain ⟨n3, hn3⟩ : ∃ n, t.prs.length = n := ⟨_, rfl⟩
 rw [hn1, hn2, hn3] at HC
 rw [hn1] at hr6
 rw [hn2] at hn8
 rw [hn3] at hp
 have HN1 := hid hn1
 have HN2 := hid hn2
 have HN3 := hid hn3
 clear h hw hH hB hL1 hL2 hL3 hn1 hn2 hn3
 go_enter Tryz.func40, Tryz.ntmps40
 go_upto_region 2 with fail
 generalize w.alloc _ = w1 at *
 clear hBs
 have HF1 : Hid (Fr (fun k => B ≤ k) w w1) := HF0.out.mono (by simp)
 obtain ⟨c0, c1, c2, c3, c4⟩ := HC.out _ HF1.out
 go_wp2_with fail
 refine (wnumber_any w1 B [] 1 n1 _ _ HW0.out (by omega) rfl rfl (by simp)).mono ?_
 rintro e w2 ⟨rfl, hW2, hf2⟩
 have HW2 := hid hW2
 have HF2 := hid (HF1.out.trans (Wf.up hf2))
 clear hW2 hf2 c0 c1 c2 c3 c4
 obtain ⟨c0, c1, c2, c3, c4⟩ := HC.out _ HF2.out
 go_wp2_with fail
 go_loopg [24] n1 (fun mm iv wr => ∃ i : Nat, i ≤ n1 ∧ mm = n1 - i ∧ iv = .int .i64 (i : Nat) ∧ Hid (WtAt wr B (uptoW [] routeW t.rts i)) ∧ Hid (Fr (fun k => B ≤ k) w wr))
 case atStart => exact ⟨0, Nat.zero_le _, rfl, rfl, by show WtAt _ _ _; rw [upto_zero, HN1.out]; exact HW2.out, HF2⟩
 case round =>
  obtain ⟨i, hik, rfl, rfl, HWd, HFr⟩ := hrel
  by_cases hlt : i < n1
  ·have hki : (i : Int) < (n1 : Int) := by omega
   obtain ⟨r, hx⟩ : ∃ r, t.rts[i]? = some r := ⟨_, List.getElem?_eq_getElem (by rw [HN1.out]; exact hlt)⟩
   obtain ⟨g, e1, d0, d1, d2⟩ := HH.out.rt i r hx
   subst e1
   have b0 := cell_up (Nat.le_of_eq HBs.out) HFr.out d0
   have b1 := cell_up (Nat.le_of_eq HBs.out) HFr.out d1
   have b2 := cell_up (Nat.le_of_eq HBs.out) HFr.out d2
   have HK := hid (fun W (hf : Fr (fun _ => False) wr W) => wroute_any W B _ r (HWd.out.fr hf) (Nat.le_trans (upto_len hx) (by rw [List.nil_append, HL1.out]; omega)))
   have HS := hid (upto_succ (L := []) (W := routeW) hx)
   unfold rtV at HK
   have hgb : g < wr.heap.size := World.block_lt_of_cell? wr _ b0
   clear d0 d1 d2 hx
   go_wp2_with fail
   refine (HK.out _ ((Fr.refl _ _).alloc _)).mono ?_
   rintro e w3 ⟨rfl, hW3, hf3⟩
   have HF3 : Hid (Fr (fun k => B ≤ k) w w3) := HFr.out.trans (Fr.trans (Wf.up (Wf.of ((Fr.refl _ _).alloc _))) (Wf.up hf3))
   have HW3 : Hid (WtAt w3 B (uptoW [] routeW t.rts (i + 1))) := by
    show WtAt _ _ _
    rw [HS.out]
    exact hW3
   clear hW3 hf3
   go_wp2_with fail
   go_roundg (n1 - (i + 1))
   case measure => omega
   case rel => exact ⟨i + 1, by omega, rfl, by go_num, HW3, HF3⟩
  ·have e : i = n1 := by omega
   subst e
   have hki : ¬ (i : Int) < (i : Int) := by omega
   have HW4 : Hid (WtAt wr B L1) := by
    have e := HWd.out
    rw [upto_all HN1.out, List.nil_append, HL1.out] at e
    exact e
   obtain ⟨c0, c1, c2, c3, c4⟩ := HC.out _ HFr.out
   clear HWd
   generalize wr = w4 at *
   have HF4 := hid HFr.out
   clear HFr
   go_wp2_with fail
   refine (wnumber_any w4 B L1 1 n2 _ _ HW4.out (by omega) rfl rfl (by omega)).mono ?_
   rintro e w5 ⟨rfl, hW5, hf5⟩
   have HW5 := hid hW5
   have HF5 := hid (HF4.out.trans (Wf.up hf5))
   clear hW5 hf5 c0 c1 c2 c3 c4
   obtain ⟨c0, c1, c2, c3, c4⟩ := HC.out _ HF5.out
   go_wp2_with fail
   go_loopg [44] n2 (fun mm iv wr => ∃ i : Nat, i ≤ n2 ∧ mm = n2 - i ∧ iv = .int .i64 (i : Nat) ∧ Hid (WtAt wr B (uptoW L1 nameW t.nms i)) ∧ Hid (Fr (fun k => B ≤ k) w wr))
   case atStart => exact ⟨0, Nat.zero_le _, rfl, rfl, by show WtAt _ _ _; rw [upto_zero, HN2.out]; exact HW5.out, HF5⟩
   case round =>
    obtain ⟨i, hik, rfl, rfl, HWd, HFr⟩ := hrel
    by_cases hlt : i < n2
    ·have hki : (i : Int) < (n2 : Int) := by omega
     obtain ⟨s, hx⟩ : ∃ r, t.nms[i]? = some r := ⟨_, List.getElem?_eq_getElem (by rw [HN2.out]; exact hlt)⟩
     obtain ⟨g, e1, d0⟩ := HH.out.nm i s hx
     subst e1
     have b0 := cell_up (Nat.le_of_eq HBs.out) HFr.out d0
     have HK := hid (wname_any wr B _ s HWd.out (Nat.le_trans (upto_len hx) (by rw [HL2.out]; omega)))
     have HS := hid (upto_succ (L := L1) (W := nameW) hx)
     clear d0 hx
     go_wp2_with fail
     refine HK.out.mono ?_
     rintro e w3 ⟨rfl, hW3, hf3⟩
     have HF3 : Hid (Fr (fun k => B ≤ k) w w3) := HFr.out.trans (Wf.up hf3)
     have HW3 : Hid (WtAt w3 B (uptoW L1 nameW t.nms (i + 1))) := by
      show WtAt _ _ _
      rw [HS.out]
      exact hW3
     clear hW3 hf3
     go_wp2_with fail
     go_roundg (n2 - (i + 1))
     case measure => omega
     case rel => exact ⟨i + 1, by omega, rfl, by go_num, HW3, HF3⟩
    ·have e : i = n2 := by omega
     subst e
     have hki : ¬ (i : Int) < (i : Int) := by omega
     have HW6 : Hid (WtAt wr B L2) := by
      have e := HWd.out
      rw [upto_all HN2.out, HL2.out] at e
      exact e
     obtain ⟨c0, c1, c2, c3, c4⟩ := HC.out _ HFr.out
     clear HWd
     generalize wr = w6 at *
     have HF6 := hid HFr.out
     clear HFr
     go_wp2_with fail
     refine (wnumber_any w6 B L2 1 n3 _ _ HW6.out (by omega) rfl rfl (by omega)).mono ?_
     rintro e w7 ⟨rfl, hW7, hf7⟩
     have HW7 := hid hW7
     have HF7 := hid (HF6.out.trans (Wf.up hf7))
     clear hW7 hf7 c0 c1 c2 c3 c4
     obtain ⟨c0, c1, c2, c3, c4⟩ := HC.out _ HF7.out
     go_wp2_with fail
     go_loopg [64] n3 (fun mm iv wr => ∃ i : Nat, i ≤ n3 ∧ mm = n3 - i ∧ iv = .int .i64 (i : Nat) ∧ Hid (WtAt wr B (uptoW L2 progW t.prs i)) ∧ Hid (Fr (fun k => B ≤ k) w wr))
     case atStart => exact ⟨0, Nat.zero_le _, rfl, rfl, by show WtAt _ _ _; rw [upto_zero, HN3.out]; exact HW7.out, HF7⟩
     case round =>
      obtain ⟨i, hik, rfl, rfl, HWd, HFr⟩ := hrel
      by_cases hlt : i < n3
      ·have hki : (i : Int) < (n3 : Int) := by omega
       obtain ⟨p, hx⟩ : ∃ r, t.prs[i]? = some r := ⟨_, List.getElem?_eq_getElem (by rw [HN3.out]; exact hlt)⟩
       obtain ⟨g, qa, qc, e1, d0, dp⟩ := HH.out.pr i p hx
       subst e1
       have b0 := cell_up (Nat.le_of_eq HBs.out) HFr.out d0
       have hpo := HWr.out.pr p (List.mem_of_getElem? hx)
       obtain ⟨pn, hpn⟩ : ∃ n, p.length = n := ⟨_, rfl⟩
       rw [hpn] at b0
       have HK := hid (wprogram_any w wr B _ _ qa pn qc t.rts.length t.nms.length p (Nat.le_of_eq HBs.out) HFr.out dp hpo.2.2.1 hpn (by omega) HWd.out (Nat.le_trans (upto_len hx) (by rw [HL3.out]; omega)))
       have HS := hid (upto_succ (L := L2) (W := progW) hx)
       clear d0 hx dp hpo hpn
       go_wp2_with fail
       refine HK.out.mono ?_
       rintro e w3 ⟨rfl, hW3, hf3⟩
       have HF3 : Hid (Fr (fun k => B ≤ k) w w3) := HFr.out.trans (Wf.up hf3)
       have HW3 : Hid (WtAt w3 B (uptoW L2 progW t.prs (i + 1))) := by
        show WtAt _ _ _
        rw [HS.out]
        exact hW3
       clear hW3 hf3
       go_wp2_with fail
       go_roundg (n3 - (i + 1))
       case measure => omega
       case rel => exact ⟨i + 1, by omega, rfl, by go_num, HW3, HF3⟩
      ·have e : i = n3 := by omega
       subst e
       have hki : ¬ (i : Int) < (i : Int) := by omega
       have HW8 : Hid (WtAt wr B L3) := by
        have e := HWd.out
        rw [upto_all HN3.out, HL3.out] at e
        exact e
       obtain ⟨c0, c1, c2, c3, c4⟩ := HC.out _ HFr.out
       clear HWd
       generalize wr = w8 at *
       have HF8 := hid HFr.out
       clear HFr
       have HK := hid (wnode_any w B lo t.prs.length (Nat.le_of_eq HBs.out) HWr.out.pl.2 t.root w8 L3 _ HWr.out.lf HH.out.tr HF8.out HW8.out (by rw [← HBY.out]; omega))
       rw [← HBY.out] at HK
       go_wp2_with fail
       refine HK.out.mono ?_
       rintro e w9 ⟨rfl, hW9, hf9⟩
       obtain ⟨v, hb, ho⟩ := hW9.bx
       obtain ⟨m, hm⟩ : ∃ m, (bodyW t).length = m := ⟨_, rfl⟩
       rw [hm] at ho
       obtain ⟨oa, oc, e⟩ := ownsRow_len ho
       subst e
       have z0 := block_cell hb 0 _ rfl
       have HF9 := hid (HF8.out.trans (Wf.up hf9))
       have HO := hid ho
       have HM := hid hm
       clear hW9 hf9 hb ho hm HK c0 c1 c2 c3 c4
       have hcv : (convert 50 9 (.slice oa m oc)).run Tryz.prog w9 = .ok (.string ⟨(bodyW t).toArray⟩) w9 := by
        have hm := HM.out
        have h0 : 0 < m := by
         rw [← hm]
         unfold bodyW
         simp only [List.length_append, numW_len]
         omega
        obtain ⟨g, cap, e, _, _⟩ := HO.out.form h0
        injection e with e _ _
        subst e
        subst hm
        refine run_convert_bytes_back w9 50 9 5 ⟨g, 0, none⟩ oc (bodyW t) Tryz.underlying50 Tryz.underlying5 Tryz.underlying9 (fun j hj => ?_)
        exact HO.out.cells (g := g) rfl j _ (by unfold byRow; rw [List.getElem?_map, List.getElem?_eq_getElem hj]; rfl)
       have HFx : Hid (Fr (fun _ => False) w w9) := (Fr.refl _ w).monoNew HF9.out (fun k hk => .inr (by rw [HBs.out]; exact hk))
       go_wp2_with fail
       refine (sClose_any ⟨(bodyW t).toArray⟩ w9 (by show (bodyW t).length ≤ _; omega) (HHl.out.fr HFx.out)).mono ?_
       rintro e w10 ⟨rfl, hf10⟩
       have HFy := hid (HFx.out.trans hf10)
       clear hf10 hcv z0
       go_wp2_with fail
       go_ret
       exact ⟨rfl, HFy.out⟩
def TiAt (w : World) (T : Nat) (t : TrD) : Prop := ∃ TT zb ra rc, w.cell? ⟨T, 1, none⟩ = some (.pointer (some ⟨TT, 0, none⟩)) ∧ TgAt zb w TT t.rts ra rc t.nms t.prs t.root
set_option maxHeartbeats 400000 in
theorem Image_any (w : World) (T : Nat) (t : TrD) (h : TiAt w T t) (hw : t.Wr) (hl : (bodyW t).length ≤ 199992) (hH : Hal w) :
  Calls Tryz.prog 23 #[.pointer (some ⟨T, 0, none⟩)] w fun e w' => e = .returned (.string ⟨(closeM (bodyW t)).toArray⟩) ∧ Fr (fun _ => False) w w' := by
 obtain ⟨TT, zb, ra, rc, hc, hg⟩ := h
 obtain ⟨na, nc, pa, pc, xp, yp, hm⟩ := hg.tm
 have HI := hid (tImage_any w TT t ra rc na nc pa pc xp yp zb hm hw hl hH)
 clear hg hm hw hl hH
 go_enter Tryz.func23, Tryz.ntmps23
 go_wp2_with fail
 refine HI.out.mono ?_
 rintro e w1 ⟨rfl, hf⟩
 have HF := hid hf
 clear hf
 go_wp2_with fail
 go_ret
 exact ⟨rfl, HF.out⟩
end Go.Proofs.YtccikgogjfbpeaaGreatDoor

namespace Go.Proofs.YtccikgogjfbpeaaGreatDoor
theorem mul_xor (n a b : Nat) : 2 ^ n * (a ^^^ b) = 2 ^ n * a ^^^ 2 ^ n * b := by
 have h := Nat.shiftLeft_xor_distrib (a := a) (b := b) (i := n)
 simp only [Nat.shiftLeft_eq] at h
 rw [Nat.mul_comm, h, Nat.mul_comm a, Nat.mul_comm b]
theorem leN_set : ∀ (C : List UInt8) (j b : Nat) (x : UInt8), C[j]? = some x → b < 8 → leN (C.set j (UInt8.ofNat (x.toNat ^^^ 2 ^ b))) = leN C ^^^ 2 ^ (8 * j + b)
 | [], _, _, _, h, _ => by simp at h
 | c :: r, 0, b, x, h, hb => by
  simp at h
  subst h
  have hc : c.toNat < 2 ^ 8 := c.toNat_lt
  have hp : 2 ^ b < 2 ^ 8 := Nat.pow_lt_pow_right (by decide) hb
  have hx : c.toNat ^^^ 2 ^ b < 2 ^ 8 := Nat.xor_lt_two_pow hc hp
  show (UInt8.ofNat (c.toNat ^^^ 2 ^ b)).toNat + 256 * leN r = (c.toNat + 256 * leN r) ^^^ 2 ^ (8 * 0 + b)
  have e1 : (c.toNat ^^^ 2 ^ b) + 2 ^ 8 * leN r = (c.toNat ^^^ 2 ^ b) ^^^ 2 ^ 8 * leN r := (add_xor hx).symm
  have e2 : c.toNat + 2 ^ 8 * leN r = c.toNat ^^^ 2 ^ 8 * leN r := (add_xor hc).symm
  rw [UInt8.toNat_ofNat', Nat.mod_eq_of_lt hx, show 8 * 0 + b = b from by omega, show (256 : Nat) = 2 ^ 8 from by decide, e1, e2, Nat.xor_assoc, Nat.xor_assoc, Nat.xor_comm (2 ^ b)]
 | c :: r, j + 1, b, x, h, hb => by
  have hc : c.toNat < 2 ^ 8 := c.toNat_lt
  have ih := leN_set r j b x (by simpa using h) hb
  show c.toNat + 256 * leN (r.set j _) = (c.toNat + 256 * leN r) ^^^ 2 ^ (8 * (j + 1) + b)
  have e2 : c.toNat + 2 ^ 8 * leN r = c.toNat ^^^ 2 ^ 8 * leN r := (add_xor hc).symm
  have e3 : c.toNat + 2 ^ 8 * (leN r ^^^ 2 ^ (8 * j + b)) = c.toNat ^^^ 2 ^ 8 * (leN r ^^^ 2 ^ (8 * j + b)) := (add_xor hc).symm
  rw [ih, show (256 : Nat) = 2 ^ 8 from by decide, e2, e3, mul_xor, ← Nat.pow_add, show 8 + (8 * j + b) = 8 * (j + 1) + b from by omega, Nat.xor_assoc]
def mskN (m : Int) : Nat := (m % 4294967296).toNat
theorem mskN_bit (m : Int) (k : Nat) (hk : k < 32) : (m / 2 ^ k) % 2 = ((mskN m / 2 ^ k % 2 : Nat) : Int) := by
 have h0 : (mskN m : Int) = m % 4294967296 := Int.toNat_of_nonneg (Int.emod_nonneg _ (by decide))
 rw [Int.natCast_emod, Int.natCast_ediv, Int.natCast_pow, h0]
 show m / 2 ^ k % 2 = m % 4294967296 / 2 ^ k % 2
 have e : m = m % 4294967296 + 2 ^ k * (2 * (2 ^ (31 - k) * (m / 4294967296))) := by
  have h1 := Int.emod_add_mul_ediv m 4294967296
  have h2 : (2 : Int) ^ k * (2 * (2 ^ (31 - k) * (m / 4294967296))) = 4294967296 * (m / 4294967296) := by
   rw [← Int.mul_assoc 2, ← Int.mul_assoc, ← Int.pow_succ', ← Int.pow_add, show k + (31 - k + 1) = 32 from by omega]
   rfl
  omega
 conv => lhs; rw [e, Int.add_mul_ediv_left _ _ (Int.pow_ne_zero (by decide))]
 omega
theorem and_one (x : Int) : bits .and .i64 x 1 = x % 2 := by
 have h2 : (BitVec.ofInt 64 x &&& BitVec.ofInt 64 1).toNat = (x % 2).toNat := by
  rw [BitVec.toNat_and, show (BitVec.ofInt 64 1).toNat = 2 ^ 1 - 1 from by decide, Nat.and_two_pow_sub_one_eq_mod, BitVec.toNat_ofInt]
  omega
 show IntKind.i64.wrap ((BitVec.ofInt 64 x &&& BitVec.ofInt 64 1).toNat : Int) = _
 rw [h2]
 have : ((x % 2).toNat : Int) = x % 2 := Int.toNat_of_nonneg (Int.emod_nonneg _ (by decide))
 rw [this]
 exact IntWalk.i64_in _ (by constructor <;> omega)
theorem xor_u8 (x : UInt8) (b : Nat) (hb : b < 8) : bits .xor .u8 (x.toNat : Int) ((2 ^ b : Nat) : Int) = (((UInt8.ofNat (x.toNat ^^^ 2 ^ b)).toNat : Nat) : Int) := by
 have hx : x.toNat < 2 ^ 8 := x.toNat_lt
 have hp : 2 ^ b < 2 ^ 8 := Nat.pow_lt_pow_right (by decide) hb
 have hq : x.toNat ^^^ 2 ^ b < 2 ^ 8 := Nat.xor_lt_two_pow hx hp
 have h1 : (BitVec.ofInt 8 (x.toNat : Int)).toNat = x.toNat := by
  rw [BitVec.ofInt_natCast, BitVec.toNat_ofNat]; exact Nat.mod_eq_of_lt hx
 have h2 : (BitVec.ofInt 8 ((2 ^ b : Nat) : Int)).toNat = 2 ^ b := by
  rw [BitVec.ofInt_natCast, BitVec.toNat_ofNat]; exact Nat.mod_eq_of_lt hp
 show IntKind.u8.wrap ((BitVec.ofInt 8 (x.toNat : Int) ^^^ BitVec.ofInt 8 ((2 ^ b : Nat) : Int)).toNat : Int) = _
 rw [BitVec.toNat_xor, h1, h2, u8_wrap]
theorem msk_step (l : List UInt8) (at' M k : Nat) : leN l ^^^ 2 ^ at' * (M % 2 ^ (k + 1)) = if M / 2 ^ k % 2 = 1 then (leN l ^^^ 2 ^ at' * (M % 2 ^ k)) ^^^ 2 ^ (at' + k) else leN l ^^^ 2 ^ at' * (M % 2 ^ k) := by
 rw [Nat.mod_pow_succ]
 have h2 : M / 2 ^ k % 2 = 0 ∨ M / 2 ^ k % 2 = 1 := by omega
 rcases h2 with h | h
 ·rw [h, if_neg (by omega), Nat.mul_zero, Nat.add_zero]
 ·rw [h, if_pos rfl, Nat.xor_assoc, Nat.pow_add, ← mul_xor]
  congr 2
  have := add_xor (n := k) (a := 1) (Nat.mod_lt M (Nat.pow_pos (by decide) : 0 < 2 ^ k))
  rw [Nat.mul_one] at this ⊢
  exact this.symm
theorem msk_zero (M k : Nat) : (M % 2 ^ (k + 1) = 0) ↔ (M % 2 ^ k = 0 ∧ ¬ M / 2 ^ k % 2 = 1) := by
 rw [Nat.mod_pow_succ]
 have h2 : M / 2 ^ k % 2 = 0 ∨ M / 2 ^ k % 2 = 1 := by omega
 have hp : 0 < 2 ^ k := Nat.pow_pos (by decide)
 rcases h2 with h | h <;> rw [h] <;> omega
end Go.Proofs.YtccikgogjfbpeaaGreatDoor
