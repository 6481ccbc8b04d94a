/- The tree: Grow. -/
import Derived.Test.YtccikgogjfbpeabGreatDoorWHa
import Derived.Test.YtccikgogjfbpeabGreatDoorWGg
namespace Go.Proofs.YtccikgogjfbpeabGreatDoor
open Go.RowKit Go.Maps
theorem Tryz.infoStrG : (Tryz.prog.info? 9).map (fun i => (i.zero, i.size, i.bytes)) = some (some (.string ByteArray.empty), 1, 16) := by kernel_rfl
def rankF (R : List RuleM) (i : Nat) : Nat := (R[i]?.map RuleM.rank).getD 0
structure NmS (wc : World) (T : Nat) (vr : Value) (l : List ByteArray) (vn : Value) (wx : World) : Prop where
 fr : F0 wc wx
 bx : wx.heap[T]? = some (.cells #[vr, vn, .slice none 0 0, .pointer none, .int .i64 0] 92)
 nm : wx.ownsRow (T + 1) 9 1 vn l.length (l.map Value.string)
theorem NmS.more {wc wx wr w6 w7 : World} {T : Nat} {vr : Value} {l : List ByteArray} {la : Option Addr} {lc g cap : Nat} {nm : ByteArray} (h : NmS wc T vr l (.slice la l.length lc) wx) (hT : wc.heap.size <= T) (hf1 : F0 wx wr) (hf : F0 wr w6)
  (hown : w7.ownsRow (T + 1) 9 1 (.slice (some ⟨g, 0, none⟩) (l.length + 1) cap) (l.length + 1) (l.map Value.string ++ [.string nm])) (hgrow : w6.grownBy w7 (Value.slice la l.length lc).ownBlock) :
  NmS wc T vr (l ++ [nm]) (.slice (some ⟨g, 0, none⟩) (l.length + 1) cap) (w7.setCell ⟨T, 1, none⟩ (.slice (some ⟨g, 0, none⟩) (l.length + 1) cap)) /\ w7.cell? ⟨T, 1, none⟩ = some (.slice la l.length lc) /\ w7.frozen? ⟨T, 1, none⟩ = false /\ (∀ X o v, X < wr.heap.size -> wx.heap.size <= X -> wr.cell? ⟨X, o, none⟩ = some v -> w7.cell? ⟨X, o, none⟩ = some v) := by
 have f16 := hf1.trans hf
 have hlt : ∀ k, (Value.slice la l.length lc).ownBlock = some k -> T + 1 <= k /\ k < wx.heap.size := fun k hk => h.nm.lt k hk
 have F67 : Fr (fun k => (Value.slice la l.length lc).ownBlock = some k) w6 w7 := (Fr.refl _ w6).grown hgrow (fun k hk => Or.inl hk)
 have bx7 := F67.whole (f16.whole h.bx (by simp)) (fun e => by have := hlt T e; omega)
 refine ⟨⟨?_, ?_, ?_⟩, block_cell bx7 1 _ rfl, block_frozen bx7 1, fun X o v hX hX2 hv => ?_⟩
 ·exact ((h.fr.trans f16).grown hgrow (fun k hk => Or.inr (by have := hlt k hk; omega))).setCell (p := ⟨T, 1, none⟩) (Or.inr hT) _
 ·have e := heap_setCell_same w7 T 1 _ _ (.slice (some ⟨g, 0, none⟩) (l.length + 1) cap) bx7
  simpa using e
 ·rw [List.length_append, List.map_append]
  exact ownsRow_setCell_below hown (by simp) _
 ·exact (F67.cell (p := ⟨X, o, none⟩) (Nat.lt_of_lt_of_le hX hf.size) (fun e => by have := hlt X e; omega)).trans ((hf.cell (p := ⟨X, o, none⟩) hX (by simp)).trans hv)
set_option maxRecDepth 30000 in
set_option maxHeartbeats 4000000 in
theorem all_bits (i : Nat) (h : i <= 8) : IntKind.u64.wrap (IntKind.u64.wrap (2 ^ i) - 1) = ((2 ^ i - 1 : Nat) : Int) := by
 have : i = 0 \/ i = 1 \/ i = 2 \/ i = 3 \/ i = 4 \/ i = 5 \/ i = 6 \/ i = 7 \/ i = 8 := by omega
 rcases this with rfl | rfl | rfl | rfl | rfl | rfl | rfl | rfl | rfl <;> decide
set_option maxRecDepth 30000 in
set_option maxHeartbeats 4000000 in
theorem Grow_any {zb : Nat} (w : World) (Bk : Nat) (ra : Option Addr) (rn rc : Nat) (va : Option Addr) (n c : Nat) (R : List RuleM) (hN : R.length = n) (hn : n <= 8) (hst : ∀ k, k < n -> stageF (rankF R) n k < n) (hsz : ∀ r, r ∈ R -> r.mcc.length <= 4000 /\ r.cur.length <= 4000) (hbin : ∀ r, r ∈ R -> BinOk r /\ r.lo <= 1000000) (hz : zb <= w.heap.size) (hb0 : w.cell? ⟨Bk, 0, none⟩ = some (.slice ra rn rc)) (hb1 : w.cell? ⟨Bk, 1, none⟩ = some (.slice va n c))
    (hrl : ∀ i r, R[i]? = some r -> ∃ g ma mc ca cc pa pc, va = some ⟨g, 0, none⟩ /\ g < w.heap.size /\
      (∀ o v, [Value.string r.name, .int .i64 r.rank, .int .i64 r.digits, .int .i64 r.lo, .int .i64 r.hi, .slice ma r.mcc.length mc, .bool r.am.isSome, .int .i64 (r.am.getD (0, 0)).1, .int .i64 (r.am.getD (0, 0)).2, .slice ca r.cur.length cc, .bool r.decline, .bool r.cheapest, .slice pa r.routes.length pc, .int .i64 r.ahead][o]? = some v -> w.cell? ⟨g, i * 14 + o, none⟩ = some v) /\
      w.ownsRow zb 3 1 (.slice ma r.mcc.length mc) r.mcc.length (intRow r.mcc) /\ w.ownsRow zb 3 1 (.slice ca r.cur.length cc) r.cur.length (intRow r.cur) /\ w.ownsRow zb 3 1 (.slice pa r.routes.length pc) r.routes.length (intRow r.routes)) :
    Calls Tryz.prog 34 #[.pointer (some ⟨Bk, 0, none⟩)] w fun e w' => (∃ T, e = .returned (.pointer (some ⟨T, 0, none⟩)) /\ w.heap.size <= T /\ TreeAt zb w' T (.slice ra rn rc) R (stageF (rankF R) n)) /\ F0 w w' := by
  have HRL : Hid (∀ i r, R[i]? = some r -> ∃ g ma mc ca cc pa pc, va = some ⟨g, 0, none⟩ /\ g < w.heap.size /\
      (∀ o v, [Value.string r.name, .int .i64 r.rank, .int .i64 r.digits, .int .i64 r.lo, .int .i64 r.hi, .slice ma r.mcc.length mc, .bool r.am.isSome, .int .i64 (r.am.getD (0, 0)).1, .int .i64 (r.am.getD (0, 0)).2, .slice ca r.cur.length cc, .bool r.decline, .bool r.cheapest, .slice pa r.routes.length pc, .int .i64 r.ahead][o]? = some v -> w.cell? ⟨g, i * 14 + o, none⟩ = some v) /\
      w.ownsRow zb 3 1 (.slice ma r.mcc.length mc) r.mcc.length (intRow r.mcc) /\ w.ownsRow zb 3 1 (.slice ca r.cur.length cc) r.cur.length (intRow r.cur) /\ w.ownsRow zb 3 1 (.slice pa r.routes.length pc) r.routes.length (intRow r.routes)) := hrl
  have HN := hid hN
  obtain ⟨rk, hrk⟩ : ∃ rk : Nat -> Nat, rk = rankF R := ⟨_, rfl⟩
  have HRK := hid hrk
  rw [<- hrk] at hst
  have hr : ∀ i, i < n -> ∃ g, va = some ⟨g, 0, none⟩ /\ g < w.heap.size /\ w.cell? ⟨g, i * 14 + 1, none⟩ = some (.int .i64 (rk i)) := by
    intro i hi
    have e : R[i]? = some R[i] := List.getElem?_eq_getElem (by omega)
    obtain ⟨g, ma, mc, ca, cc, pa, pc, e1, e2, e3, _⟩ := hrl i _ e
    refine ⟨g, e1, e2, ?_⟩
    rw [hrk, rankF, e]
    exact e3 1 _ rfl
  have HBR : Hid (∀ W, F0 w W -> Calls Tryz.prog 60 #[.slice va n c] W fun e w' => (∃ oa oc, e = .returned (.slice oa n oc) /\ Hid (OrderAt w' W.heap.size oa n (stageF rk n))) /\ Hid (F0 W w')) := by
    intro W hW
    refine byRank_any W va n c rk hn (fun i hi => ?_)
    obtain ⟨g, e1, e2, e3⟩ := hr i hi
    exact ⟨g, e1, Nat.lt_of_lt_of_le e2 hW.size, (hW.cell (p := ⟨g, i * 14 + 1, none⟩) e2 (by simp)).trans e3⟩
  have hmm := @run_makeMap Tryz.prog
  obtain ⟨ii, hi', hz0, hz1, hz2⟩ := info_parts Tryz.infoStrG
  have HZ := hid hz
  clear hr hrl hN hrk hz
  go_enter Tryz.func34, Tryz.ntmps34
  go_upto_region 1 with fail
  go_cut [3] (fun v w1 => ∃ G M oa oc, v = .pointer (some ⟨G, 0, none⟩) /\ Hid (Gr1 w va n c (stageF rk n) G M oa oc w1))
  case first =>
    refine wp_region_held_drew (S := fun W => W.cell? ⟨Bk, 1, none⟩ = some (.slice va n c)) (by kernel_rfl) hb1 (fun hH => ?_)
    have HSB : Hid (∀ W, F0 w W -> W.cell? ⟨Bk, 1, none⟩ = some (.slice va n c)) := fun W hW => (hW.cell (p := ⟨Bk, 1, none⟩) (World.block_lt_of_cell? w _ hb1) (by simp)).trans hb1
    clear hb0
    refine htk 0 (v := ?v0z) ?y0z hH ?r0z
    case y0z => intro w hw; go_simp; with_reducible rfl
    try go_frame
    refine htk 1 (v := ?v1z) ?y1z hH ?r1z
    case y1z => intro w hw; go_simp; with_reducible rfl
    try go_frame
    refine htk 2 (v := ?v2z) ?y2z hH ?r2z
    case y2z => intro w hw; go_simp; with_reducible rfl
    try go_frame
    refine htk 3 (v := ?v3z) ?y3z hH ?r3z
    case y3z => intro w hw; go_simp; with_reducible rfl
    try go_frame
    refine htk 4 (v := ?v4z) ?y4z hH ?r4z
    case y4z => intro w hw; go_simp; with_reducible rfl
    try go_frame
    refine htk 5 (v := ?v5z) ?y5z hH ?r5z
    case y5z => intro w hw; go_simp; with_reducible rfl
    try go_frame
    refine htk 6 (v := ?v6z) ?y6z hH ?r6z
    case y6z => intro w hw; go_simp; with_reducible rfl
    try go_frame
    refine htk 7 (v := ?v7z) ?y7z hH ?r7z
    case y7z => intro w hw; go_simp; with_reducible rfl
    try go_frame
    refine wpAnyH_ready (rs := [8, 9]) (by kernel_rfl) (by simp) ?_
    refine held_cons rfl (fun K2 hK => ?_) ?_
    · go_simp
      refine (HBR.o _ (Fr.refl _ _).drew).mono ?_
      rintro e w5 ⟨⟨oa, oc, rfl, HOA⟩, HF5⟩
      have HF6 := hid (((Fr.refl _ _).drew).trans HF5.o)
      refine hK.out _ _ (HSB.o _ HF6.o) (fun hH => ?_)
      clear hK K2
      try go_frame
      refine wpAnyH_ready (rs := [9]) (by kernel_rfl) (by simp) ?_
      refine held_cons rfl (fun K2 hK => ?_) AllReadyH.nil
      try rw [if_pos (by rfl)]
      go_simp
      refine hK.out _ _ (HSB.o _ (HF6.o.alloc _)) (fun hH => ?_)
      clear hK K2
      try go_frame
      refine htk 10 (v := ?v10A) ?y10A hH ?r10A
      case y10A => intro w hw; go_simp; with_reducible rfl
      try go_frame
      refine wpAnyH_ready (rs := [11]) (by kernel_rfl) (by simp) ?_
      refine held_cons rfl (fun K2 hK => ?_) AllReadyH.nil
      try rw [if_pos (by rfl)]
      go_simp
      refine hK.out _ _ (HSB.o _ ((HF6.o.alloc _).alloc _)) (fun hH => ?_)
      clear hK K2
      try go_frame
      refine htk 12 (v := ?v12A) ?y12A hH ?r12A
      case y12A => intro w hw; go_simp; with_reducible rfl
      try go_frame
      refine wpAnyH_done (by kernel_rfl) ?_ _
      go_wp2_with fail
      go_meet
      refine ⟨w5.heap.size + 1, w5.heap.size, oa, oc, by simp, ⟨(HF6.o.alloc _).alloc _, ?_, ?_, fun k hk => ?_, ?_⟩⟩
      · have e := heap_alloc_new (w5.alloc (.map #[] 0)) (.cells #[.slice va n c, .slice oa n oc, .slice none 0 0, .map (some w5.heap.size)] 128)
        rw [show (w5.alloc (.map #[] 0)).heap.size = w5.heap.size + 1 from by simp] at e
        exact e
      · exact ((Fr.refl (fun _ => False) _).alloc _).whole (heap_alloc_new w5 _) (by simp)
      · obtain ⟨og, e1, e2, e3, e4⟩ := HOA.o (by omega)
        refine ⟨og, e1, by simp; omega, by omega, by omega, ?_⟩
        exact ((((Fr.refl (fun _ => False) w5).alloc _).alloc _).cell (p := ⟨og, k, none⟩) e3 (by simp)).trans (e4.1 k hk)
      · have := HF6.o.size
        omega
    · refine held_cons rfl (fun K2 hK => ?_) AllReadyH.nil
      try rw [if_pos (by rfl)]
      go_simp
      refine hK.out _ _ (HSB.o _ (((Fr.refl _ _).drew).alloc _)) (fun hH => ?_)
      clear hK K2
      try go_frame
      refine wpAnyH_ready (rs := [8]) (by kernel_rfl) (by simp) ?_
      refine held_cons rfl (fun K2 hK => ?_) AllReadyH.nil
      go_simp
      refine (HBR.o _ (((Fr.refl _ _).drew).alloc _)).mono ?_
      rintro e w5 ⟨⟨oa, oc, rfl, HOA⟩, HF5⟩
      have HF6 := hid ((((Fr.refl (fun _ => False) w).drew).alloc (.map #[] 0)).trans HF5.o)
      refine hK.out _ _ (HSB.o _ HF6.o) (fun hH => ?_)
      clear hK K2
      try go_frame
      refine htk 10 (v := ?v10B) ?y10B hH ?r10B
      case y10B => intro w hw; go_simp; with_reducible rfl
      try go_frame
      refine wpAnyH_ready (rs := [11]) (by kernel_rfl) (by simp) ?_
      refine held_cons rfl (fun K2 hK => ?_) AllReadyH.nil
      try rw [if_pos (by rfl)]
      go_simp
      refine hK.out _ _ (HSB.o _ (HF6.o.alloc _)) (fun hH => ?_)
      clear hK K2
      try go_frame
      refine htk 12 (v := ?v12B) ?y12B hH ?r12B
      case y12B => intro w hw; go_simp; with_reducible rfl
      try go_frame
      refine wpAnyH_done (by kernel_rfl) ?_ _
      go_wp2_with fail
      go_meet
      have hMb : w5.heap[w.heap.size]? = some (.map #[] 0) := HF5.o.whole (heap_alloc_new w.drew (.map #[] 0)) (by simp)
      have hM5 := (Array.getElem?_eq_some_iff.1 hMb).1
      refine ⟨w5.heap.size, w.heap.size, oa, oc, rfl, ⟨HF6.o.alloc _, heap_alloc_new w5 _, ((Fr.refl (fun _ => False) _).alloc _).whole hMb (by simp), fun k hk => ?_, ?_⟩⟩
      · obtain ⟨og, e1, e2, e3, e4⟩ := HOA.o (by omega)
        have e5 : w.heap.size + 1 <= og := by simpa using e2
        refine ⟨og, e1, by simp; omega, by omega, by omega, ?_⟩
        exact (((Fr.refl (fun _ => False) w5).alloc _).cell (p := ⟨og, k, none⟩) e3 (by simp)).trans (e4.1 k hk)
      · omega
  case rest =>
    obtain ⟨G, M, oa, oc, rfl, HG1⟩ := hcut
    have b0 : wc.cell? ⟨Bk, 0, none⟩ = some (.slice ra rn rc) := (HG1.o.fr.cell (p := ⟨Bk, 0, none⟩) (World.block_lt_of_cell? w _ hb0) (by simp)).trans hb0
    have b1 : wc.cell? ⟨Bk, 1, none⟩ = some (.slice va n c) := (HG1.o.fr.cell (p := ⟨Bk, 1, none⟩) (World.block_lt_of_cell? w _ hb1) (by simp)).trans hb1
    have HT0 : Hid (NmS wc wc.heap.size _ [] _ (wc.alloc (.cells #[.slice ra rn rc, .slice none 0 0, .slice none 0 0, .pointer none, .int .i64 0] 92))) := ⟨(Fr.refl _ _).alloc _, heap_alloc_new wc _, World.ownsRow_nil _ _ _ _⟩
    clear hb0 hb1
    go_upto_region 3 with fail
    generalize wc.alloc (.cells #[.slice ra rn rc, .slice none 0 0, .slice none 0 0, .pointer none, .int .i64 0] 92) = W1 at *
    obtain ⟨T, hT⟩ : ∃ T, wc.heap.size = T := ⟨_, rfl⟩
    have HT := hid hT
    rw [hT] at HT0 ⊢
    clear hT
    have b1' : W1.cell? ⟨Bk, 1, none⟩ = some (.slice va n c) := (HT0.o.fr.cell (p := ⟨Bk, 1, none⟩) (World.block_lt_of_cell? wc _ b1) (by simp)).trans b1
    have HBk := hid b1
    clear b0 b1
    go_wp2_with fail
    go_loopg [30] n (fun m kv wx => ∃ i vn, i <= n /\ m = n - i /\ kv = .int .i64 (i : Nat) /\ Hid (NmS wc T (.slice ra rn rc) ((R.take i).map RuleM.name) vn wx))
    case atStart => exact ⟨0, _, Nat.zero_le _, rfl, rfl, HT0⟩
    case round =>
      obtain ⟨i, vn, hi, rfl, rfl, HM⟩ := hrel
      by_cases hlt : i < n
      · have hki : (i : Int) < (n : Int) := by omega
        obtain ⟨r, hr⟩ : ∃ r, R[i]? = some r := ⟨_, List.getElem?_eq_getElem (by have := HN.o; omega)⟩
        have HRi := hid hr
        obtain ⟨g, ma, mc, ca, cc, pa, pc, eg, hgl, hcell', _⟩ := HRL.o i r hr
        subst eg
        have hcell : ∀ o v, [Value.string r.name, .int .i64 r.rank, .int .i64 r.digits, .int .i64 r.lo, .int .i64 r.hi, .slice ma r.mcc.length mc, .bool r.am.isSome, .int .i64 (r.am.getD (0, 0)).1, .int .i64 (r.am.getD (0, 0)).2, .slice ca r.cur.length cc, .bool r.decline, .bool r.cheapest, .slice pa r.routes.length pc, .int .i64 r.ahead][o]? = some v -> wr.cell? ⟨g, i * 14 + o, none⟩ = some v := fun o v ho => ((HG1.o.fr.trans HM.o.fr).cell (p := ⟨g, i * 14 + o, none⟩) hgl (by simp)).trans (hcell' o v ho)
        have v0' := hcell 0 _ rfl
        have v1' := hcell 1 _ rfl
        have v2 := hcell 2 _ rfl
        have v3 := hcell 3 _ rfl
        have v4 := hcell 4 _ rfl
        have v5 := hcell 5 _ rfl
        have v6 := hcell 6 _ rfl
        have v7 := hcell 7 _ rfl
        have v8 := hcell 8 _ rfl
        have v9 := hcell 9 _ rfl
        have v10 := hcell 10 _ rfl
        have v11 := hcell 11 _ rfl
        have v12 := hcell 12 _ rfl
        have v13 := hcell 13 _ rfl
        rw [Nat.add_zero] at v0'
        clear hcell hcell' hr
        have HF1 : Hid (F0 wr (wr.alloc (rlO r.name r.rank r.digits r.lo r.hi ma r.mcc.length mc r.am.isSome (r.am.getD (0, 0)).1 (r.am.getD (0, 0)).2 ca r.cur.length cc r.decline r.cheapest pa r.routes.length pc r.ahead))) := (Fr.refl _ _).alloc _
        have HBX : Hid ((wr.alloc (rlO r.name r.rank r.digits r.lo r.hi ma r.mcc.length mc r.am.isSome (r.am.getD (0, 0)).1 (r.am.getD (0, 0)).2 ca r.cur.length cc r.decline r.cheapest pa r.routes.length pc r.ahead)).heap[wr.heap.size]? = some (rlO r.name r.rank r.digits r.lo r.hi ma r.mcc.length mc r.am.isSome (r.am.getD (0, 0)).1 (r.am.getD (0, 0)).2 ca r.cur.length cc r.decline r.cheapest pa r.routes.length pc r.ahead)) := heap_alloc_new wr _
        unfold rlO at HF1 HBX
        go_upto_region 6 with fail
        generalize wr.alloc (.cells #[.string r.name, .int .i64 r.rank, .int .i64 r.digits, .int .i64 r.lo, .int .i64 r.hi, .slice ma r.mcc.length mc, .bool r.am.isSome, .int .i64 (r.am.getD (0, 0)).1, .int .i64 (r.am.getD (0, 0)).2, .slice ca r.cur.length cc, .bool r.decline, .bool r.cheapest, .slice pa r.routes.length pc, .int .i64 r.ahead] 108) = W5 at *
        obtain ⟨X, hX⟩ : ∃ X, wr.heap.size = X := ⟨_, rfl⟩
        have HX := hid hX
        rw [hX] at HBX ⊢
        clear v0' v1' v2 v3 v4 v5 v6 v7 v8 v9 v10 v11 v12 v13 hX
        obtain ⟨l, hl⟩ : ∃ l, (R.take i).map RuleM.name = l := ⟨_, rfl⟩
        have HL := hid hl
        have hll : l.length <= 8 := by rw [<- hl, List.length_map, List.length_take]; omega
        rw [hl] at HM
        obtain ⟨la, lc, e3⟩ := ownsRow_len HM.o.nm
        subst e3
        have x0 := block_cell HBX.o 0 _ rfl
        have hX5 := (Array.getElem?_eq_some_iff.1 HBX.o).1
        have t1 : W5.cell? ⟨T, 1, none⟩ = some (.slice la l.length lc) := block_cell (HF1.o.whole HM.o.bx (by simp)) 1 _ rfl
        have HNR := hid (ownsRow_fr HM.o.nm HF1.o (by simp))
        have hTX : T + 1 <= W5.heap.size := by have := (Array.getElem?_eq_some_iff.1 (HF1.o.whole HM.o.bx (by simp))).1; omega
        clear hl
        refine wp_region_held_drew (S := fun W => W.cell? ⟨X, 0, none⟩ = some (.string r.name)) (by kernel_rfl) x0 (fun hH => ?_)
        refine htk 0 (v := ?v0q) ?y0q hH ?r0q
        case y0q => intro w hw; go_simp; with_reducible rfl
        try go_frame
        refine htk 1 (v := ?v1q) ?y1q hH ?r1q
        case y1q => intro w hw; go_simp; with_reducible rfl
        try go_frame
        refine htk 2 (v := ?v2q) ?y2q hH ?r2q
        case y2q => intro w hw; go_simp; with_reducible rfl
        try go_frame
        refine htk 3 (v := ?v3q) ?y3q hH ?r3q
        case y3q => intro w hw; go_simp; with_reducible rfl
        try go_frame
        refine htk 5 (v := ?v5q) ?y5q hH ?r5q
        case y5q => intro w hw; go_simp; with_reducible rfl
        try go_frame
        refine htk 6 (v := ?v6q) ?y6q hH ?r6q
        case y6q => intro w hw; go_simp; with_reducible rfl
        try go_frame
        refine wpAnyH_ready (rs := [4, 7]) (by kernel_rfl) (by simp) ?_
        refine held_cons rfl (fun K2 hK => ?_) ?_
        · try rw [if_pos (by rfl)]
          go_simp
          refine hK.out _ _ hH (fun _ => ?_)
          clear hK K2
          try go_frame
          refine wpAnyH_ready (rs := [7]) (by kernel_rfl) (by simp) ?_
          refine held_cons rfl (fun K2 hK => ?_) AllReadyH.nil
          try rw [if_pos (by rfl)]
          go_simp
          refine hK.out _ _ ((((Fr.refl (fun _ => False) W5).alloc _).cell (p := ⟨X, 0, none⟩) hX5 (by simp)).trans x0) (fun hH => ?_)
          clear hK K2
          try go_frame
          refine wpAnyH_ready (rs := [8]) (by kernel_rfl) (by simp) ?_
          refine held_cons rfl (fun K2 hK => ?_) AllReadyH.nil
          refine step_append_lies _ rfl (.tmp 38) (.tmp 41) 33 rfl (T + 1) 9 ii _ 1 16 Tryz.underlying33 hi' hz0 hz1 hz2 rfl (by decide) (.slice la l.length lc) l.length (l.map Value.string) rfl ?h1C ⟨W5.heap.size, 0, none⟩ 1 1 [.string r.name] rfl rfl ?h2C ?h3C (by decide) ?h4C ?h5C ?h6C _ rfl ?h7C
          case h1C => exact (HNR.o.alloc _).drew
          case h2C => exact World.news_of_block (heap_alloc_new W5 _)
          case h3C => simp [Value.oneCell']
          case h4C => unfold maxLen; omega
          case h5C => omega
          case h6C => simp; omega
          case h7C =>
            intro g2 cap2 w8 hown hgrow hor _
            obtain ⟨hm1, d2, df, hcx⟩ := HM.o.more (Nat.le_of_eq HT.o) HF1.o (((Fr.refl (fun _ => False) W5).alloc _).drew) hown hgrow
            have HM2 := hid hm1
            have x8 := hcx X 0 _ hX5 (Nat.le_of_eq HX.o) x0
            clear hm1 hcx hown hgrow hor
            refine hK.out _ _ x8 (fun hH => ?_)
            clear hK K2
            try go_frame
            refine htk 9 (v := ?v9C) ?y9C hH ?r9C
            case y9C => intro w hw; go_simp; with_reducible rfl
            try go_frame
            refine htk 10 (v := ?v10C) ?y10C hH ?r10C
            case y10C => intro w hw; go_simp; with_reducible rfl
            try go_frame
            refine wpAnyH_ready (rs := [11]) (by kernel_rfl) (by simp) ?_
            refine held_cons rfl (fun K2 hK => ?_) AllReadyH.nil
            try rw [if_pos (by rfl)]
            go_simp
            refine hK.out _ _ ?_ (fun _ => ?_)
            · rw [World.cell?_setCell_other _ _ _ _ (by intro e; injection e with e1 e2; omega)]
              exact x8
            clear hK K2
            try go_frame
            refine wpAnyH_done (by kernel_rfl) ?_ _
            go_wp2_with fail
            go_roundg (n - (i + 1))
            case measure => omega
            case rel =>
              refine ⟨i + 1, .slice (some ⟨g2, 0, none⟩) (l.length + 1) cap2, by omega, rfl, by go_num, ?_⟩
              have e : (R.take (i + 1)).map RuleM.name = l ++ [r.name] := by rw [List.take_add_one, HRi.o, List.map_append, HL.o]; rfl
              rw [e]
              exact HM2
        · refine held_cons rfl (fun K2 hK => ?_) AllReadyH.nil
          try rw [if_pos (by rfl)]
          go_simp
          refine hK.out _ _ ((((Fr.refl (fun _ => False) W5).alloc _).cell (p := ⟨X, 0, none⟩) hX5 (by simp)).trans x0) (fun hH => ?_)
          clear hK K2
          try go_frame
          refine wpAnyH_ready (rs := [4]) (by kernel_rfl) (by simp) ?_
          refine held_cons rfl (fun K2 hK => ?_) AllReadyH.nil
          try rw [if_pos (by rfl)]
          have t1' : (W5.alloc (.cells #[.string r.name] 9)).cell? ⟨T, 1, none⟩ = some (.slice la l.length lc) := by rw [World.cell?_alloc_lt _ _ _ (World.block_lt_of_cell? W5 _ t1)]; exact t1
          go_simp
          refine hK.out _ _ hH (fun _ => ?_)
          clear hK K2 t1'
          try go_frame
          refine wpAnyH_ready (rs := [8]) (by kernel_rfl) (by simp) ?_
          refine held_cons rfl (fun K2 hK => ?_) AllReadyH.nil
          refine step_append_lies _ rfl (.tmp 38) (.tmp 41) 33 rfl (T + 1) 9 ii _ 1 16 Tryz.underlying33 hi' hz0 hz1 hz2 rfl (by decide) (.slice la l.length lc) l.length (l.map Value.string) rfl ?h1D ⟨W5.heap.size, 0, none⟩ 1 1 [.string r.name] rfl rfl ?h2D ?h3D (by decide) ?h4D ?h5D ?h6D _ rfl ?h7D
          case h1D => exact (HNR.o.alloc _).drew
          case h2D => exact World.news_of_block (heap_alloc_new W5 _)
          case h3D => simp [Value.oneCell']
          case h4D => unfold maxLen; omega
          case h5D => omega
          case h6D => simp; omega
          case h7D =>
            intro g2 cap2 w8 hown hgrow hor _
            obtain ⟨hm1, d2, df, hcx⟩ := HM.o.more (Nat.le_of_eq HT.o) HF1.o (((Fr.refl (fun _ => False) W5).alloc _).drew) hown hgrow
            have HM2 := hid hm1
            have x8 := hcx X 0 _ hX5 (Nat.le_of_eq HX.o) x0
            clear hm1 hcx hown hgrow hor
            refine hK.out _ _ x8 (fun hH => ?_)
            clear hK K2
            try go_frame
            refine htk 9 (v := ?v9D) ?y9D hH ?r9D
            case y9D => intro w hw; go_simp; with_reducible rfl
            try go_frame
            refine htk 10 (v := ?v10D) ?y10D hH ?r10D
            case y10D => intro w hw; go_simp; with_reducible rfl
            try go_frame
            refine wpAnyH_ready (rs := [11]) (by kernel_rfl) (by simp) ?_
            refine held_cons rfl (fun K2 hK => ?_) AllReadyH.nil
            try rw [if_pos (by rfl)]
            go_simp
            refine hK.out _ _ ?_ (fun _ => ?_)
            · rw [World.cell?_setCell_other _ _ _ _ (by intro e; injection e with e1 e2; omega)]
              exact x8
            clear hK K2
            try go_frame
            refine wpAnyH_done (by kernel_rfl) ?_ _
            go_wp2_with fail
            go_roundg (n - (i + 1))
            case measure => omega
            case rel =>
              refine ⟨i + 1, .slice (some ⟨g2, 0, none⟩) (l.length + 1) cap2, by omega, rfl, by go_num, ?_⟩
              have e : (R.take (i + 1)).map RuleM.name = l ++ [r.name] := by rw [List.take_add_one, HRi.o, List.map_append, HL.o]; rfl
              rw [e]
              exact HM2
      · have hie : i = n := by omega
        subst hie
        have hki : ¬ (i : Int) < (i : Int) := by omega
        have HBr := hid ((HM.o.fr.cell (p := ⟨Bk, 1, none⟩) (World.block_lt_of_cell? wc _ HBk.o) (by simp)).trans HBk.o)
        have br1 := HBr.o
        have hop : IntKind.u64.wrap (IntKind.u64.wrap (2 ^ i) - 1) = ((2 ^ i - 1 : Nat) : Int) := all_bits i hn
        have hop2 : 2 ^ i - 1 < 256 := by
          have : 2 ^ i <= 2 ^ 8 := Nat.pow_le_pow_right (by omega) hn
          omega
        have HST : Hid (GrS zb wr wr G M (.slice va i c) (.slice oa i oc) R (stageF rk i) [] (.slice none 0 0) /\ G < wr.heap.size /\ M < wr.heap.size) := by
          have e := HN.o
          subst e
          exact HG1.o.start HM.o.fr HZ.o HRL.o
        have HGW : Hid (Calls Tryz.prog 61 #[.pointer (some ⟨G, 0, none⟩), .agg #[.int .i64 0, .int .i64 0], .int .u64 0, .int .u64 ((2 ^ i - 1 : Nat) : Int)] wr (GwPost zb wr wr G M (.slice va i c) (.slice oa i oc) R (stageF rk i) (growM R 7 ⟨0, 0⟩ 0 (2 ^ i - 1) []) (.slice none 0 0))) := by
          have e := HN.o
          exact grow_any wr G M _ _ R (stageF rk i) HST.o.2.2 HST.o.2.1 (by omega) (by rw [e]; exact hst) hsz hbin 7 ⟨0, 0⟩ 0 (2 ^ i - 1) [] (.slice none 0 0) wr (by simp) (by simp) (by simp) (by omega) hop2 HST.o.1
        go_wp2_with fail
        refine HGW.o.mono ?_
        intro e w8 hp8
        obtain ⟨pp, kk, rfl⟩ : ∃ (pp : Option Addr) (kk : Nat), e = .returned (.agg #[.pointer pp, .int .i64 kk]) := by
          obtain ⟨⟨a, bb, e1, ht⟩, _⟩ := hp8
          obtain ⟨pp, kk, rfl, rfl⟩ := ht.form
          exact ⟨pp, kk, e1⟩
        have HP8 := hid hp8
        have hTG : T ≠ G := by
          rintro rfl
          have e1 := HST.o.1.bx
          rw [HM.o.bx] at e1
          injection e1 with e1
          injection e1 with _ e1 _
          exact absurd e1 (by decide)
        have hTM : T ≠ M := by
          rintro rfl
          obtain ⟨D, ⟨es, ck, e1, _⟩, _⟩ := HST.o.1.mp
          rw [HM.o.bx] at e1
          cases e1
        have bT := hp8.2.2.whole HM.o.bx (by rintro (e | e | e) <;> first | exact hTG e | exact hTM e | simp [Value.ownBlock] at e)
        obtain ⟨vp', hg8, _⟩ := hp8.2.1
        obtain ⟨xs8, ho8, _⟩ := hg8.pg
        obtain ⟨pa8, pc8, e8⟩ := ownsRow_len ho8
        subst e8
        have c2 := block_cell hg8.bx 2 _ rfl
        have z2 := block_cell bT 2 _ rfl
        have z3 := block_cell bT 3 _ rfl
        have z4 := block_cell bT 4 _ rfl
        have zf2 := block_frozen bT 2
        have zf3 := block_frozen bT 3
        have zf4 := block_frozen bT 4
        have HBT := hid bT
        have c2' : ((w8.setCell ⟨T, 3, none⟩ (.pointer pp)).setCell ⟨T, 4, none⟩ (.int .i64 kk)).cell? ⟨G, 2, none⟩ = some (.slice pa8 (growM R 7 ⟨0, 0⟩ 0 (2 ^ i - 1) []).2.length pc8) := by
          rw [World.cell?_setCell_other _ _ _ _ (by intro e; injection e with e1; exact hTG e1), World.cell?_setCell_other _ _ _ _ (by intro e; injection e with e1; exact hTG e1)]
          exact c2
        clear hp8 bT hg8 ho8
        go_wp2_with fail
        go_ret
        have hlen := HN.o
        subst hlen
        have hm := HM.o
        rw [List.take_length] at hm
        obtain ⟨⟨a, bb, e1, ht⟩, ⟨vp', hg', _⟩, hf8⟩ := HP8.o
        injection e1 with e1
        injection e1 with e1
        obtain ⟨ea, eb⟩ : Value.pointer pp = a /\ Value.int .i64 kk = bb := by simpa using e1
        subst ea eb
        have evp : vp' = .slice pa8 (growM R 7 ⟨0, 0⟩ 0 (2 ^ R.length - 1) []).2.length pc8 := by
          have := block_cell hg'.bx 2 _ rfl
          rw [c2] at this
          injection this with this
          exact this.symm
        subst evp
        obtain ⟨r1, r2, r3⟩ := tree_end HZ.o HG1.o.fr HT.o HG1.o.lo.1 HG1.o.lo.2 rfl hm.fr hm.bx hm.nm HST.o.1 rfl hTG hTM ht hg' hf8
        rw [HRK.o] at r2
        exact ⟨⟨T, rfl, r1, r2⟩, r3⟩
end Go.Proofs.YtccikgogjfbpeabGreatDoor
