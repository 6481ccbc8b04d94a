/- An image whole. -/
import Derived.Test.YtccikgogjfbpeabGreatDoorWHa
import Derived.Test.YtccikgogjfbpeabGreatDoorWJd
namespace Go.Proofs.YtccikgogjfbpeabGreatDoor
open Go.RowKit
structure TmAt (w : World) (TT : Nat) (t : TrD) (ra : Option Addr) (rc : Nat) (na : Option Addr) (nc : Nat) (pa : Option Addr) (pc : Nat) (xp : Option Addr) (yp lo : Nat) : Prop where
 bx : w.heap[TT]? = some (.cells #[.slice ra t.rts.length rc, .slice na t.nms.length nc, .slice pa t.prs.length pc, .pointer xp, .int .i64 (yp : Nat)] 92)
 rt : ∀ i r, t.rts[i]? = some r -> ∃ g, ra = some ⟨g, 0, none⟩ /\ w.cell? ⟨g, i * 3, none⟩ = some (.string r.name) /\ w.cell? ⟨g, i * 3 + 1, none⟩ = some (.int .i64 (r.base : Nat)) /\ w.cell? ⟨g, i * 3 + 2, none⟩ = some (.int .i64 (r.rate : Nat))
 nm : ∀ i s, t.nms[i]? = some s -> ∃ g, na = some ⟨g, 0, none⟩ /\ w.cell? ⟨g, i, none⟩ = some (.string s)
 pr : ∀ i l, t.prs[i]? = some l -> ∃ g qa qc, pa = some ⟨g, 0, none⟩ /\ w.cell? ⟨g, i, none⟩ = some (.slice qa l.length qc) /\ PgAt w w.heap.size qa l
 tr : TrAt w lo t.root (.agg #[.pointer xp, .int .i64 (yp : Nat)])
theorem TgAt.tm {zb : Nat} {w : World} {TT : Nat} {t : TrD} {ra : Option Addr} {rc : Nat} (h : TgAt zb w TT t.rts ra rc t.nms t.prs t.root) : ∃ na nc pa pc xp yp, TmAt w TT t ra rc na nc pa pc xp yp zb := by
 obtain ⟨vn, vp, a, b, h1, h2, ⟨xs, h3, h4⟩, h5⟩ := h.bx
 obtain ⟨na, nc, rfl⟩ := ownsRow_len h2
 obtain ⟨pa, pc, rfl⟩ := ownsRow_len h3
 obtain ⟨xp, yp, rfl, rfl⟩ := trAt_shape h5
 refine ⟨na, nc, pa, pc, xp, yp, h1, fun i r hi => ?_, fun i s hi => ?_, fun i l hi => ?_, h5⟩
 ·have hl := (List.getElem?_eq_some_iff.1 hi).1
  obtain ⟨g, cap, e, _, _, hc⟩ := ownsRow_rt h.ro (by omega)
  injection e with e _ _
  exact ⟨g, e, hc i r hi⟩
 ·have hl := (List.getElem?_eq_some_iff.1 hi).1
  obtain ⟨g, cap, e, _, _⟩ := h2.form (by omega)
  injection e with e _ _
  subst e
  have hx := h2.cells (g := g) rfl i (.string s) (by rw [List.getElem?_map, hi]; rfl)
  rw [addr_add', Nat.zero_add] at hx
  exact ⟨g, rfl, hx⟩
 ·have hl := (List.getElem?_eq_some_iff.1 hi).1
  obtain ⟨g, cap, e, _, _⟩ := h3.form (by omega)
  injection e with e _ _
  subst e
  obtain ⟨vj, e1, e2⟩ := h4 i l hi
  obtain ⟨ys, o1, o2⟩ := e2
  obtain ⟨qa, qc, rfl⟩ := ownsRow_len o1
  have hx := h3.cells (g := g) rfl i _ e1
  rw [addr_add', Nat.zero_add] at hx
  exact ⟨g, qa, qc, rfl, hx, PgAt.of ⟨ys, o1, o2⟩ (Nat.le_refl _)⟩
def uptoW {α : Type} (L : List UInt8) (W : α -> List UInt8) (xs : List α) (i : Nat) : List UInt8 := (L ++ numW 1 xs.length) ++ (xs.take i).flatMap W
theorem upto_zero {α : Type} (L : List UInt8) (W : α -> List UInt8) (xs : List α) : uptoW L W xs 0 = L ++ numW 1 xs.length := by simp [uptoW]
theorem upto_succ {α : Type} {L : List UInt8} {W : α -> List UInt8} {xs : List α} {i : Nat} {x : α} (h : xs[i]? = some x) : uptoW L W xs (i + 1) = uptoW L W xs i ++ W x := by
 unfold uptoW
 rw [flat_snoc W h]
 simp only [List.append_assoc]
theorem upto_all {α : Type} {L : List UInt8} {W : α -> List UInt8} {xs : List α} {i : Nat} (h : xs.length = i) : uptoW L W xs i = L ++ (numW 1 xs.length ++ xs.flatMap W) := by
 unfold uptoW
 rw [List.take_of_length_le (by omega), List.append_assoc]
theorem upto_len {α : Type} {L : List UInt8} {W : α -> List UInt8} {xs : List α} {i : Nat} {x : α} (h : xs[i]? = some x) : (uptoW L W xs i ++ W x).length <= (L ++ (numW 1 xs.length ++ xs.flatMap W)).length := by
 rw [<- upto_succ h]
 unfold uptoW
 have := flat_take W xs (i + 1)
 simp only [List.length_append]
 omega
set_option maxRecDepth 30000 in
set_option maxHeartbeats 4000000 in
theorem tImage_any (w : World) (TT : Nat) (t : TrD) (ra : Option Addr) (rc : Nat) (na : Option Addr) (nc : Nat) (pa : Option Addr) (pc : Nat) (xp : Option Addr) (yp lo : Nat) (h : TmAt w TT t ra rc na nc pa pc xp yp lo) (hw : t.Wr) (hl : (bodyW t).length <= 199992) (hH : Hal w) :
  Calls Tryz.prog 42 #[.pointer (some ⟨TT, 0, none⟩)] w fun e w' => e = .returned (.string ⟨(closeM (bodyW t)).toArray⟩) /\ F0 w w' := by
 have hr6 := hw.r6
 have hn8 := hw.n8
 have hp := hw.pl.2
 obtain ⟨L1, hL1⟩ : ∃ L1, numW 1 t.rts.length ++ t.rts.flatMap routeW = L1 := ⟨_, rfl⟩
 obtain ⟨L2, hL2⟩ : ∃ L2, L1 ++ (numW 1 t.nms.length ++ t.nms.flatMap nameW) = L2 := ⟨_, rfl⟩
 obtain ⟨L3, hL3⟩ : ∃ L3, L2 ++ (numW 1 t.prs.length ++ t.prs.flatMap progW) = L3 := ⟨_, rfl⟩
 have hB : bodyW t = L3 ++ t.root.wr := by unfold bodyW; rw [<- hL3, <- hL2, <- hL1]; simp only [List.append_assoc]
 have hl3 : L3.length <= 199992 := by rw [hB, List.length_append] at hl; omega
 have hl2 : L2.length <= 199992 := by rw [<- hL3, List.length_append] at hl3; omega
 have hl1 : L1.length <= 199992 := by rw [<- hL2, List.length_append] at hl2; omega
 obtain ⟨B, hBs⟩ : ∃ B, w.heap.size = B := ⟨_, rfl⟩
 have HTw : Hid (TT < B) := by show _ < _; rw [<- hBs]; exact (Array.getElem?_eq_some_iff.1 h.bx).1
 have HF0 : Hid (F0 w (w.alloc (.cells #[.slice none 0 0] 141))) := (Fr.refl _ _).alloc _
 have HW0 : Hid (WtAt (w.alloc (.cells #[.slice none 0 0] 141)) B []) := ⟨⟨_, by rw [<- hBs]; exact heap_alloc_new w _, World.ownsRow_nil _ _ _ _⟩, by simp⟩
 have HH := hid h
 have HWr := hid hw
 have HHl := hid hH
 have HBY := hid hB
 have HL1 := hid hL1
 have HL2 := hid hL2
 have HL3 := hid hL3
 have HBs := hid hBs
 have HC : Hid (∀ W, Fr (fun k => B <= k) w W -> W.cell? ⟨TT, 0, none⟩ = some (.slice ra t.rts.length rc) /\ W.cell? ⟨TT, 1, none⟩ = some (.slice na t.nms.length nc) /\ W.cell? ⟨TT, 2, none⟩ = some (.slice pa t.prs.length pc) /\ W.cell? ⟨TT, 3, none⟩ = some (.pointer xp) /\ W.cell? ⟨TT, 4, none⟩ = some (.int .i64 (yp : Nat))) := fun W hf => by
  have e := hf.whole h.bx (by have := HTw.o; show ¬ B <= TT; omega)
  exact ⟨block_cell e 0 _ rfl, block_cell e 1 _ rfl, block_cell e 2 _ rfl, block_cell e 3 _ rfl, block_cell e 4 _ rfl⟩
 obtain ⟨n1, hn1⟩ : ∃ n, t.rts.length = n := ⟨_, rfl⟩
 obtain ⟨n2, hn2⟩ : ∃ n, t.nms.length = n := ⟨_, rfl⟩
 obtain ⟨n3, hn3⟩ : ∃ n, t.prs.length = n := ⟨_, rfl⟩
 rw [hn1, hn2, hn3] at HC
 rw [hn1] at hr6
 rw [hn2] at hn8
 rw [hn3] at hp
 have HN1 := hid hn1
 have HN2 := hid hn2
 have HN3 := hid hn3
 clear h hw hH hB hL1 hL2 hL3 hn1 hn2 hn3
 go_enter Tryz.func42, Tryz.ntmps42
 go_upto_region 2 with fail
 generalize w.alloc _ = w1 at *
 clear hBs
 have HF1 : Hid (Fr (fun k => B <= k) w w1) := HF0.o.mono (by simp)
 obtain ⟨c0, c1, c2, c3, c4⟩ := HC.o _ HF1.o
 go_wp2_with fail
 refine (wnumber_any w1 B [] 1 n1 _ _ HW0.o (by omega) rfl rfl (by simp)).mono ?_
 rintro e w2 ⟨rfl, hW2, hf2⟩
 have HW2 := hid hW2
 have HF2 := hid (HF1.o.trans (Wf.up hf2))
 clear hW2 hf2 c0 c1 c2 c3 c4
 obtain ⟨c0, c1, c2, c3, c4⟩ := HC.o _ HF2.o
 go_wp2_with fail
 go_loopg [24] n1 (fun mm iv wr => ∃ i : Nat, i <= n1 /\ mm = n1 - i /\ iv = .int .i64 (i : Nat) /\ Hid (WtAt wr B (uptoW [] routeW t.rts i)) /\ Hid (Fr (fun k => B <= k) w wr))
 case atStart => exact ⟨0, Nat.zero_le _, rfl, rfl, by show WtAt _ _ _; rw [upto_zero, HN1.o]; exact HW2.o, HF2⟩
 case round =>
  obtain ⟨i, hik, rfl, rfl, HWd, HFr⟩ := hrel
  by_cases hlt : i < n1
  ·have hki : (i : Int) < (n1 : Int) := by omega
   obtain ⟨r, hx⟩ : ∃ r, t.rts[i]? = some r := ⟨_, List.getElem?_eq_getElem (by rw [HN1.o]; exact hlt)⟩
   obtain ⟨g, e1, d0, d1, d2⟩ := HH.o.rt i r hx
   subst e1
   have b0 := cell_up (Nat.le_of_eq HBs.o) HFr.o d0
   have b1 := cell_up (Nat.le_of_eq HBs.o) HFr.o d1
   have b2 := cell_up (Nat.le_of_eq HBs.o) HFr.o d2
   have HK := hid (fun W (hf : F0 wr W) => wroute_any W B _ r (HWd.o.fr hf) (Nat.le_trans (upto_len hx) (by rw [List.nil_append, HL1.o]; omega)))
   have HS := hid (upto_succ (L := []) (W := routeW) hx)
   unfold rtV at HK
   have hgb : g < wr.heap.size := World.block_lt_of_cell? wr _ b0
   clear d0 d1 d2 hx
   go_wp2_with fail
   refine (HK.o _ ((Fr.refl _ _).alloc _)).mono ?_
   rintro e w3 ⟨rfl, hW3, hf3⟩
   have HF3 : Hid (Fr (fun k => B <= k) w w3) := HFr.o.trans (Fr.trans (Wf.up (Wf.of ((Fr.refl _ _).alloc _))) (Wf.up hf3))
   have HW3 : Hid (WtAt w3 B (uptoW [] routeW t.rts (i + 1))) := by
    show WtAt _ _ _
    rw [HS.o]
    exact hW3
   clear hW3 hf3
   go_wp2_with fail
   go_roundg (n1 - (i + 1))
   case measure => omega
   case rel => exact ⟨i + 1, by omega, rfl, by go_num, HW3, HF3⟩
  ·have e : i = n1 := by omega
   subst e
   have hki : ¬ (i : Int) < (i : Int) := by omega
   have HW4 : Hid (WtAt wr B L1) := by
    have e := HWd.o
    rw [upto_all HN1.o, List.nil_append, HL1.o] at e
    exact e
   obtain ⟨c0, c1, c2, c3, c4⟩ := HC.o _ HFr.o
   clear HWd
   generalize wr = w4 at *
   have HF4 := hid HFr.o
   clear HFr
   go_wp2_with fail
   refine (wnumber_any w4 B L1 1 n2 _ _ HW4.o (by omega) rfl rfl (by omega)).mono ?_
   rintro e w5 ⟨rfl, hW5, hf5⟩
   have HW5 := hid hW5
   have HF5 := hid (HF4.o.trans (Wf.up hf5))
   clear hW5 hf5 c0 c1 c2 c3 c4
   obtain ⟨c0, c1, c2, c3, c4⟩ := HC.o _ HF5.o
   go_wp2_with fail
   go_loopg [44] n2 (fun mm iv wr => ∃ i : Nat, i <= n2 /\ mm = n2 - i /\ iv = .int .i64 (i : Nat) /\ Hid (WtAt wr B (uptoW L1 nameW t.nms i)) /\ Hid (Fr (fun k => B <= k) w wr))
   case atStart => exact ⟨0, Nat.zero_le _, rfl, rfl, by show WtAt _ _ _; rw [upto_zero, HN2.o]; exact HW5.o, HF5⟩
   case round =>
    obtain ⟨i, hik, rfl, rfl, HWd, HFr⟩ := hrel
    by_cases hlt : i < n2
    ·have hki : (i : Int) < (n2 : Int) := by omega
     obtain ⟨s, hx⟩ : ∃ r, t.nms[i]? = some r := ⟨_, List.getElem?_eq_getElem (by rw [HN2.o]; exact hlt)⟩
     obtain ⟨g, e1, d0⟩ := HH.o.nm i s hx
     subst e1
     have b0 := cell_up (Nat.le_of_eq HBs.o) HFr.o d0
     have HK := hid (wname_any wr B _ s HWd.o (Nat.le_trans (upto_len hx) (by rw [HL2.o]; omega)))
     have HS := hid (upto_succ (L := L1) (W := nameW) hx)
     clear d0 hx
     go_wp2_with fail
     refine HK.o.mono ?_
     rintro e w3 ⟨rfl, hW3, hf3⟩
     have HF3 : Hid (Fr (fun k => B <= k) w w3) := HFr.o.trans (Wf.up hf3)
     have HW3 : Hid (WtAt w3 B (uptoW L1 nameW t.nms (i + 1))) := by
      show WtAt _ _ _
      rw [HS.o]
      exact hW3
     clear hW3 hf3
     go_wp2_with fail
     go_roundg (n2 - (i + 1))
     case measure => omega
     case rel => exact ⟨i + 1, by omega, rfl, by go_num, HW3, HF3⟩
    ·have e : i = n2 := by omega
     subst e
     have hki : ¬ (i : Int) < (i : Int) := by omega
     have HW6 : Hid (WtAt wr B L2) := by
      have e := HWd.o
      rw [upto_all HN2.o, HL2.o] at e
      exact e
     obtain ⟨c0, c1, c2, c3, c4⟩ := HC.o _ HFr.o
     clear HWd
     generalize wr = w6 at *
     have HF6 := hid HFr.o
     clear HFr
     go_wp2_with fail
     refine (wnumber_any w6 B L2 1 n3 _ _ HW6.o (by omega) rfl rfl (by omega)).mono ?_
     rintro e w7 ⟨rfl, hW7, hf7⟩
     have HW7 := hid hW7
     have HF7 := hid (HF6.o.trans (Wf.up hf7))
     clear hW7 hf7 c0 c1 c2 c3 c4
     obtain ⟨c0, c1, c2, c3, c4⟩ := HC.o _ HF7.o
     go_wp2_with fail
     go_loopg [64] n3 (fun mm iv wr => ∃ i : Nat, i <= n3 /\ mm = n3 - i /\ iv = .int .i64 (i : Nat) /\ Hid (WtAt wr B (uptoW L2 progW t.prs i)) /\ Hid (Fr (fun k => B <= k) w wr))
     case atStart => exact ⟨0, Nat.zero_le _, rfl, rfl, by show WtAt _ _ _; rw [upto_zero, HN3.o]; exact HW7.o, HF7⟩
     case round =>
      obtain ⟨i, hik, rfl, rfl, HWd, HFr⟩ := hrel
      by_cases hlt : i < n3
      ·have hki : (i : Int) < (n3 : Int) := by omega
       obtain ⟨p, hx⟩ : ∃ r, t.prs[i]? = some r := ⟨_, List.getElem?_eq_getElem (by rw [HN3.o]; exact hlt)⟩
       obtain ⟨g, qa, qc, e1, d0, dp⟩ := HH.o.pr i p hx
       subst e1
       have b0 := cell_up (Nat.le_of_eq HBs.o) HFr.o d0
       have hpo := HWr.o.pr p (List.mem_of_getElem? hx)
       obtain ⟨pn, hpn⟩ : ∃ n, p.length = n := ⟨_, rfl⟩
       rw [hpn] at b0
       have HK := hid (wprogram_any w wr B _ _ qa pn qc t.rts.length t.nms.length p (Nat.le_of_eq HBs.o) HFr.o dp hpo.2.2.1 hpn (by omega) HWd.o (Nat.le_trans (upto_len hx) (by rw [HL3.o]; omega)))
       have HS := hid (upto_succ (L := L2) (W := progW) hx)
       clear d0 hx dp hpo hpn
       go_wp2_with fail
       refine HK.o.mono ?_
       rintro e w3 ⟨rfl, hW3, hf3⟩
       have HF3 : Hid (Fr (fun k => B <= k) w w3) := HFr.o.trans (Wf.up hf3)
       have HW3 : Hid (WtAt w3 B (uptoW L2 progW t.prs (i + 1))) := by
        show WtAt _ _ _
        rw [HS.o]
        exact hW3
       clear hW3 hf3
       go_wp2_with fail
       go_roundg (n3 - (i + 1))
       case measure => omega
       case rel => exact ⟨i + 1, by omega, rfl, by go_num, HW3, HF3⟩
      ·have e : i = n3 := by omega
       subst e
       have hki : ¬ (i : Int) < (i : Int) := by omega
       have HW8 : Hid (WtAt wr B L3) := by
        have e := HWd.o
        rw [upto_all HN3.o, HL3.o] at e
        exact e
       obtain ⟨c0, c1, c2, c3, c4⟩ := HC.o _ HFr.o
       clear HWd
       generalize wr = w8 at *
       have HF8 := hid HFr.o
       clear HFr
       have HK := hid (wnode_any w B lo t.prs.length (Nat.le_of_eq HBs.o) HWr.o.pl.2 t.root w8 L3 _ HWr.o.lf HH.o.tr HF8.o HW8.o (by rw [<- HBY.o]; omega))
       rw [<- HBY.o] at HK
       go_wp2_with fail
       refine HK.o.mono ?_
       rintro e w9 ⟨rfl, hW9, hf9⟩
       obtain ⟨v, hb, ho⟩ := hW9.bx
       obtain ⟨m, hm⟩ : ∃ m, (bodyW t).length = m := ⟨_, rfl⟩
       rw [hm] at ho
       obtain ⟨oa, oc, e⟩ := ownsRow_len ho
       subst e
       have z0 := block_cell hb 0 _ rfl
       have HF9 := hid (HF8.o.trans (Wf.up hf9))
       have HO := hid ho
       have HM := hid hm
       clear hW9 hf9 hb ho hm HK c0 c1 c2 c3 c4
       have hcv : (convert 104 9 (.slice oa m oc)).run Tryz.prog w9 = .ok (.string ⟨(bodyW t).toArray⟩) w9 := by
        have hm := HM.o
        have h0 : 0 < m := by
         rw [<- hm]
         unfold bodyW
         simp only [List.length_append, numW_len]
         omega
        obtain ⟨g, cap, e, _, _⟩ := HO.o.form h0
        injection e with e _ _
        subst e
        subst hm
        refine run_convert_bytes_back w9 104 9 5 ⟨g, 0, none⟩ oc (bodyW t) Tryz.underlying104 Tryz.underlying5 Tryz.underlying9 (fun j hj => ?_)
        exact HO.o.cells (g := g) rfl j _ (by unfold byRow; rw [List.getElem?_map, List.getElem?_eq_getElem hj]; rfl)
       have HFx : Hid (F0 w w9) := (Fr.refl _ w).monoNew HF9.o (fun k hk => .inr (by rw [HBs.o]; exact hk))
       go_wp2_with fail
       refine (sClose_any ⟨(bodyW t).toArray⟩ w9 (by show (bodyW t).length <= _; omega) (HHl.o.fr HFx.o)).mono ?_
       rintro e w10 ⟨rfl, hf10⟩
       have HFy := hid (HFx.o.trans hf10)
       clear hf10 hcv z0
       go_wp2_with fail
       go_ret
       exact ⟨rfl, HFy.o⟩
def TiAt (w : World) (T : Nat) (t : TrD) : Prop := ∃ TT zb ra rc, w.cell? ⟨T, 1, none⟩ = some (.pointer (some ⟨TT, 0, none⟩)) /\ TgAt zb w TT t.rts ra rc t.nms t.prs t.root
set_option maxHeartbeats 400000 in
theorem Image_any (w : World) (T : Nat) (t : TrD) (h : TiAt w T t) (hw : t.Wr) (hl : (bodyW t).length <= 199992) (hH : Hal w) :
  Calls Tryz.prog 20 #[.pointer (some ⟨T, 0, none⟩)] w fun e w' => e = .returned (.string ⟨(closeM (bodyW t)).toArray⟩) /\ F0 w w' := by
 obtain ⟨TT, zb, ra, rc, hc, hg⟩ := h
 obtain ⟨na, nc, pa, pc, xp, yp, hm⟩ := hg.tm
 have HI := hid (tImage_any w TT t ra rc na nc pa pc xp yp zb hm hw hl hH)
 clear hg hm hw hl hH
 go_enter Tryz.func20, Tryz.ntmps20
 go_wp2_with fail
 refine HI.o.mono ?_
 rintro e w1 ⟨rfl, hf⟩
 have HF := hid hf
 clear hf
 go_wp2_with fail
 go_ret
 exact ⟨rfl, HF.o⟩
end Go.Proofs.YtccikgogjfbpeabGreatDoor
