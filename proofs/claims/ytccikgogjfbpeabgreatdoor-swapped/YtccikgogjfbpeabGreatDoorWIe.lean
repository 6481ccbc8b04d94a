/- The reader of images: a node, with all that hangs below. The reader of images: names that differ. -/
import Derived.Test.YtccikgogjfbpeabGreatDoorWHa
import Derived.Test.YtccikgogjfbpeabGreatDoorWId
namespace Go.Proofs.YtccikgogjfbpeabGreatDoor
open Go.RowKit
def KidsAt (w : World) (K : Nat) (ts : List Tr) : Prop := ∃ cs : Array Value, w.heap[K]? = some (.cells cs 195) /\ cs.size = 20 /\ ∀ d t, ts[d]? = some t -> ∃ a b, cs[d * 2]? = some a /\ cs[d * 2 + 1]? = some b /\ TrAt w (K + 1) t (.agg #[a, b])
theorem KidsAt.fr {w w' : World} {K : Nat} {ts : List Tr} {S : Nat -> Prop} (h : KidsAt w K ts) (hf : Fr S w w') (hS : ∀ k, K <= k -> ¬ S k) : KidsAt w' K ts := by
 obtain ⟨cs, h1, h2, h3⟩ := h
 refine ⟨cs, hf.whole h1 (hS K (Nat.le_refl _)), h2, fun d t hd => ?_⟩
 obtain ⟨a, b, e1, e2, e3⟩ := h3 d t hd
 exact ⟨a, b, e1, e2, e3.keep' hf (fun k hk => hS k (by omega))⟩
theorem KidsAt.more {w : World} {K : Nat} {ts : List Tr} {t : Tr} {a b : Value} (h : KidsAt w K ts) (hl : ts.length < 10) (ht : TrAt w (K + 1) t (.agg #[a, b])) : KidsAt ((w.setCell ⟨K, ts.length * 2, none⟩ a).setCell ⟨K, ts.length * 2 + 1, none⟩ b) K (ts ++ [t]) := by
 obtain ⟨cs, h1, h2, h3⟩ := h
 have b1 := heap_setCell_same w K (ts.length * 2) _ _ a h1
 have b2 := heap_setCell_same _ K (ts.length * 2 + 1) _ _ b b1
 have hf : Fr (fun k => k = K) w ((w.setCell ⟨K, ts.length * 2, none⟩ a).setCell ⟨K, ts.length * 2 + 1, none⟩ b) := ((Fr.refl (fun k => k = K) w).setCell (p := ⟨K, ts.length * 2, none⟩) (Or.inl rfl) a).setCell (p := ⟨K, ts.length * 2 + 1, none⟩) (Or.inl rfl) b
 refine ⟨_, b2, by simp [h2], fun d u hd => ?_⟩
 by_cases hdl : d < ts.length
 ·rw [List.getElem?_append_left hdl] at hd
  obtain ⟨x, y, e1, e2, e3⟩ := h3 d u hd
  refine ⟨x, y, ?_, ?_, e3.keep' hf (fun k hk => by omega)⟩
  ·rw [Array.getElem?_setIfInBounds_ne (by omega), Array.getElem?_setIfInBounds_ne (by omega)]; exact e1
  ·rw [Array.getElem?_setIfInBounds_ne (by omega), Array.getElem?_setIfInBounds_ne (by omega)]; exact e2
 ·have hd0 : d = ts.length := by
   have := (List.getElem?_eq_some_iff.1 hd).1
   simp at this
   omega
  subst hd0
  rw [List.getElem?_append_right (Nat.le_refl _), Nat.sub_self] at hd
  simp at hd
  subst hd
  refine ⟨a, b, ?_, ?_, ht.keep' hf (fun k hk => by omega)⟩
  ·rw [Array.getElem?_setIfInBounds_ne (by omega), Array.getElem?_setIfInBounds_self_of_lt (by omega)]
  ·rw [Array.getElem?_setIfInBounds_self_of_lt (by simp; omega)]
def ndP (w : World) (B : Nat) (s : ByteArray) (TT : Nat) (r : Option (Tr × Nat)) : Ending -> World -> Prop := RdP w B s TT r fun w' v t => ∃ a b, v = .agg #[a, b] /\ TrAt w' w.heap.size t (.agg #[a, b])
theorem node_zero {b : List UInt8} {np f i j : Nat} (h : numR b 1 0 np i = some (0, j)) : nodeR b np (f + 1) i = if f = 0 then none else (restR (nodeR b np f) [] 10 j).map fun p => (Tr.node (fun d => p.1.getD d (.leaf 0)), p.2) := by
 conv => lhs; unfold nodeR
 rw [h]
 dsimp only
 split
 ·rfl
 ·unfold restR
  cases timesR (nodeR b np f) 10 j <;> simp
theorem node_leaf {b : List UInt8} {np f i x j : Nat} (h : numR b 1 0 np i = some (x + 1, j)) : nodeR b np (f + 1) i = some (.leaf x, j) := by
 conv => lhs; unfold nodeR
 rw [h]
theorem node_none {b : List UInt8} {np f i : Nat} (h : numR b 1 0 np i = none) : nodeR b np (f + 1) i = none := by
 conv => lhs; unfold nodeR
 rw [h]
theorem node_end {w W : World} {B m TT : Nat} {s : ByteArray} {t : Tr} {a b p0 p1 : Value} (hR : RdAt W B s m TT) (hp : W.heap[w.heap.size]? = some (.cells #[p0, p1] 90)) (hf : Fr (fun k => k = B) w W) (hB : B < w.heap.size) (ht : TrAt W (w.heap.size + 1) t (.agg #[a, b])) {tm : Array Value} (htm : tm[4]? = some (.pointer (some ⟨w.heap.size, 0, none⟩))) :
  bodyPost Tryz.prog Tryz.f87 (RdP w B s TT (some (t, m)) fun w' v t => ∃ a b, v = .agg #[a, b] /\ TrAt w' w.heap.size t (.agg #[a, b])) .ret ⟨tm, []⟩ ((W.setCell ⟨w.heap.size, 0, none⟩ a).setCell ⟨w.heap.size, 1, none⟩ b) := by
 have b1 := heap_setCell_same W w.heap.size 0 _ _ a hp
 have b2 := heap_setCell_same _ w.heap.size 1 _ _ b b1
 have hS : Fr (fun k => k = w.heap.size) W ((W.setCell ⟨w.heap.size, 0, none⟩ a).setCell ⟨w.heap.size, 1, none⟩ b) := ((Fr.refl (fun k => k = w.heap.size) W).setCell (p := ⟨w.heap.size, 0, none⟩) (Or.inl rfl) a).setCell (p := ⟨w.heap.size, 1, none⟩) (Or.inl rfl) b
 have g1 := hR.fr hS (by show ¬ B = w.heap.size; omega)
 have g2 := ht.keep' hS (fun k hk => by omega)
 have g3 := (hf.setCell (p := ⟨w.heap.size, 0, none⟩) (Or.inr (Nat.le_refl _)) a).setCell (p := ⟨w.heap.size, 1, none⟩) (Or.inr (Nat.le_refl _)) b
 have s0 : ((W.setCell ⟨w.heap.size, 0, none⟩ a).setCell ⟨w.heap.size, 1, none⟩ b).cell? ⟨w.heap.size, 0, none⟩ = some a := block_cell b2 0 _ rfl
 have s1 : ((W.setCell ⟨w.heap.size, 0, none⟩ a).setCell ⟨w.heap.size, 1, none⟩ b).cell? ⟨w.heap.size, 1, none⟩ = some b := block_cell b2 1 _ rfl
 generalize (W.setCell ⟨w.heap.size, 0, none⟩ a).setCell ⟨w.heap.size, 1, none⟩ b = W' at *
 exact bodyPost_ret (v := .agg #[a, b]) (by simp [results, Tryz.results87, go_sem, htm, s0, s1]) rfl ⟨⟨_, rfl, a, b, rfl, TrAt.low (by omega) _ _ g2⟩, g1, g3⟩
set_option maxRecDepth 30000 in
set_option maxHeartbeats 4000000 in
theorem rnode_step (B : Nat) (s : ByteArray) (TT np : Nat) (pa : Option Addr) (pc f : Nat) (hne : TT ≠ B) (hnp : np <= 255) (hf6 : f <= 6)
  (IH : f ≠ 0 -> Hid (∀ (w : World) (i : Nat), RdAt w B s i TT -> w.cell? ⟨TT, 2, none⟩ = some (.slice pa np pc) -> Calls Tryz.prog 87 #[.pointer (some ⟨B, 0, none⟩), .int .i64 (7 - (f : Int))] w (ndP w B s TT (nodeR s.data.toList np f i))))
  (w : World) (i : Nat) (h : RdAt w B s i TT) (h2 : w.cell? ⟨TT, 2, none⟩ = some (.slice pa np pc)) :
  Calls Tryz.prog 87 #[.pointer (some ⟨B, 0, none⟩), .int .i64 (6 - (f : Int))] w (ndP w B s TT (nodeR s.data.toList np (f + 1) i)) := by
 obtain ⟨W0, hW0⟩ : ∃ W0, w.alloc (.cells #[.pointer none, .int .i64 0] 90) = W0 := ⟨_, rfl⟩
 have hBl : B < w.heap.size := (Array.getElem?_eq_some_iff.1 h.bx).1
 have HF0 : Hid (F0 w W0) := by show Fr _ _ _; rw [<- hW0]; exact (Fr.refl _ _).alloc _
 have HP0 : Hid (W0.heap[w.heap.size]? = some (.cells #[.pointer none, .int .i64 0] 90)) := by show _ = _; rw [<- hW0]; exact heap_alloc_new w _
 have HR0 : Hid (RdAt W0 B s i TT) := h.fr HF0.o (by simp)
 have HT : Hid (∀ W, Fr (fun k => k = B) w W -> W.cell? ⟨TT, 2, none⟩ = some (.slice pa np pc)) := fun W hf => (hf.cell (p := ⟨TT, 2, none⟩) (World.block_lt_of_cell? w _ h2) hne).trans h2
 obtain ⟨N, hN⟩ : ∃ N, nodeR s.data.toList np (f + 1) i = N := ⟨_, rfl⟩
 rw [hN]
 have HN := hid hN
 have hPs : w.heap.size < W0.heap.size := by rw [<- hW0]; simp
 have b2 : W0.cell? ⟨B, 2, none⟩ = some (.pointer (some ⟨TT, 0, none⟩)) := block_cell HR0.o.bx 2 _ rfl
 have t2 := HT.o W0 (HF0.o.mono (by simp))
 have HIH : Hid (f ≠ 0 -> ∀ (w : World) (i : Nat), RdAt w B s i TT -> w.cell? ⟨TT, 2, none⟩ = some (.slice pa np pc) -> Calls Tryz.prog 87 #[.pointer (some ⟨B, 0, none⟩), .int .i64 (7 - (f : Int))] w (ndP w B s TT (nodeR s.data.toList np f i))) := fun hf => (IH hf).out
 clear h hN h2 IH
 unfold ndP
 go_enter Tryz.func87, Tryz.ntmps87
 go_upto_region 1 with fail
 clear hW0
 go_wp2_with fail
 refine (rnumber_any W0 B s i TT 1 1 0 np HR0.o (by decide) rfl).mono ?_
 intro e w1 hp
 clear b2 t2
 cases h1 : numR s.data.toList 1 0 np i with
 | none =>
  rw [h1] at hp
  obtain ⟨he, hf⟩ := hp
  have eN : N = none := by rw [<- HN.o]; exact node_none h1
  subst eN
  unfold noE at he
  subst he
  exact ⟨rfl, rfl, (HF0.o.mono (by simp)).trans hf⟩
 | some xj =>
  obtain ⟨x, j⟩ := xj
  rw [h1] at hp
  obtain ⟨⟨v, rfl, rfl⟩, hR1, hf1⟩ := hp
  have hx : x <= np := by have := (numR_some h1).2; omega
  have HR1 := hid hR1
  have HF1 : Hid (Fr (fun k => k = B) w w1) := (HF0.o.mono (by simp)).trans hf1
  have HP1 : Hid (w1.heap[w.heap.size]? = some (.cells #[.pointer none, .int .i64 0] 90)) := hf1.whole HP0.o (by show ¬ w.heap.size = B; omega)
  have hK : w.heap.size < w1.heap.size := by have := hf1.size; omega
  clear hR1 hf1 HP0 HR0
  cases x with
  | succ y =>
   have eN : N = some (.leaf y, j) := by rw [<- HN.o]; exact node_leaf h1
   subst eN
   have hz : (((y + 1 : Nat) : Int) != 0) = true := by simp; omega
   have hw1 : IntKind.i64.wrap (((y + 1 : Nat) : Int) - 1) = (y : Int) := by rw [IntWalk.i64_in _ (by constructor <;> omega)]; omega
   have p0 := block_cell HP1.o 0 _ rfl
   have p1 := block_cell HP1.o 1 _ rfl
   have g0 := block_frozen HP1.o 0
   have g1 := block_frozen HP1.o 1
   clear h1
   go_wp2_with fail
   exact node_end (t := .leaf y) (a := .pointer none) (b := .int .i64 (y : Nat)) HR1.o HP1.o HF1.o hBl rfl rfl
  | zero =>
   have HN1 : Hid ((if f = 0 then none else (restR (nodeR s.data.toList np f) [] 10 j).map fun p => (Tr.node (fun d => p.1.getD d (.leaf 0)), p.2)) = N) := by show _ = _; rw [<- HN.o]; exact (node_zero h1).symm
   clear h1 HN
   by_cases hf0 : f = 0
   ·have hli : decide ((6 - (f : Int)) < 6) = false := by simp; omega
    have eN : N = none := by rw [<- HN1.o, if_pos hf0]
    subst eN
    clear hf0
    go_wp2_with fail
    refine (insist_no _).mono ?_
    rintro e w2 ⟨he, hw⟩
    replace hw := hw.symm
    subst hw
    unfold noE at he
    subst he
    exact ⟨rfl, rfl, HF1.o⟩
   ·have hli : (6 - (f : Int)) < 6 := by omega
    have HN2 : Hid (((restR (nodeR s.data.toList np f) [] 10 j).map fun p => (Tr.node (fun d => p.1.getD d (.leaf 0)), p.2)) = N) := by show _ = _; rw [<- HN1.o, if_neg hf0]
    have HI2 := hid (HIH.o hf0)
    have hwd : IntKind.i64.wrap (6 - (f : Int) + 1) = 7 - (f : Int) := by rw [IntWalk.i64_in _ (by constructor <;> omega)]; omega
    generalize nodeR s.data.toList np f = one at *
    clear HN1 HIH
    go_wp2_with fail
    refine (insist_yes _).mono ?_
    rintro e w2 ⟨rfl, hw⟩
    replace hw := hw.symm
    subst hw
    have HF2 : Hid (F0 w1 ((w1.alloc (.cells #[.pointer none, .int .i64 0, .pointer none, .int .i64 0, .pointer none, .int .i64 0, .pointer none, .int .i64 0, .pointer none, .int .i64 0, .pointer none, .int .i64 0, .pointer none, .int .i64 0, .pointer none, .int .i64 0, .pointer none, .int .i64 0, .pointer none, .int .i64 0] 195)).alloc (.cells #[.pointer (some ⟨w1.heap.size, 0, none⟩), .int .i64 0] 90))) := ((Fr.refl _ _).alloc _).alloc _
    have HKd : Hid (KidsAt ((w1.alloc (.cells #[.pointer none, .int .i64 0, .pointer none, .int .i64 0, .pointer none, .int .i64 0, .pointer none, .int .i64 0, .pointer none, .int .i64 0, .pointer none, .int .i64 0, .pointer none, .int .i64 0, .pointer none, .int .i64 0, .pointer none, .int .i64 0, .pointer none, .int .i64 0] 195)).alloc (.cells #[.pointer (some ⟨w1.heap.size, 0, none⟩), .int .i64 0] 90)) w1.heap.size []) := ⟨#[.pointer none, .int .i64 0, .pointer none, .int .i64 0, .pointer none, .int .i64 0, .pointer none, .int .i64 0, .pointer none, .int .i64 0, .pointer none, .int .i64 0, .pointer none, .int .i64 0, .pointer none, .int .i64 0, .pointer none, .int .i64 0, .pointer none, .int .i64 0], ((Fr.refl (fun _ => False) _).alloc _).whole (heap_alloc_new w1 _) (by simp), by simp, fun d t hd => by simp at hd⟩
    have HX : Hid (((w1.alloc (.cells #[.pointer none, .int .i64 0, .pointer none, .int .i64 0, .pointer none, .int .i64 0, .pointer none, .int .i64 0, .pointer none, .int .i64 0, .pointer none, .int .i64 0, .pointer none, .int .i64 0, .pointer none, .int .i64 0, .pointer none, .int .i64 0, .pointer none, .int .i64 0] 195)).alloc (.cells #[.pointer (some ⟨w1.heap.size, 0, none⟩), .int .i64 0] 90)).heap[w1.heap.size + 1]? = some (.cells #[.pointer (some ⟨w1.heap.size, 0, none⟩), .int .i64 0] 90)) := by
     have e := heap_alloc_new (w1.alloc (.cells #[.pointer none, .int .i64 0, .pointer none, .int .i64 0, .pointer none, .int .i64 0, .pointer none, .int .i64 0, .pointer none, .int .i64 0, .pointer none, .int .i64 0, .pointer none, .int .i64 0, .pointer none, .int .i64 0, .pointer none, .int .i64 0, .pointer none, .int .i64 0] 195)) (.cells #[.pointer (some ⟨w1.heap.size, 0, none⟩), .int .i64 0] 90)
     show _ = _
     simpa using e
    go_upto_region 6 with fail
    generalize ((w1.alloc (.cells #[.pointer none, .int .i64 0, .pointer none, .int .i64 0, .pointer none, .int .i64 0, .pointer none, .int .i64 0, .pointer none, .int .i64 0, .pointer none, .int .i64 0, .pointer none, .int .i64 0, .pointer none, .int .i64 0, .pointer none, .int .i64 0, .pointer none, .int .i64 0] 195)).alloc (.cells #[.pointer (some ⟨w1.heap.size, 0, none⟩), .int .i64 0] 90)) = W2 at *
    have HR2 := hid (HR1.o.fr HF2.o (by simp))
    have HP2 := hid (HF2.o.whole HP1.o (by simp))
    have HFw := hid (HF1.o.trans (HF2.o.mono (by simp)))
    clear HR1 HP1 HF2 HF1
    generalize w1.heap.size = K at *
    go_wp2_with fail
    go_loopg [28] 10 (fun m kv wr => ∃ (k : Nat) (ts : List Tr) (jj : Nat), k <= 10 /\ m = 10 - k /\ kv = .int .i64 (k : Nat) /\ ts.length = k /\ Hid (RdAt wr B s jj TT) /\ Hid (KidsAt wr K ts) /\ Hid (wr.heap[K + 1]? = some (.cells #[.pointer (some ⟨K, 0, none⟩), .int .i64 0] 90)) /\ Hid (wr.heap[w.heap.size]? = some (.cells #[.pointer none, .int .i64 0] 90)) /\ Hid (((restR one ts (10 - k) jj).map fun p => (Tr.node (fun d => p.1.getD d (.leaf 0)), p.2)) = N) /\ Hid (Fr (fun k => k = B) w wr))
    case atStart => exact ⟨0, [], j, by omega, rfl, rfl, rfl, HR2, HKd, HX, HP2, HN2, HFw⟩
    case round =>
     obtain ⟨k, ts, jj, hk, rfl, rfl, hts, HR, HK, HXr, HPr, HNr, HFr⟩ := hrel
     by_cases hlt : k < 10
     ·have hki : (k : Int) < 10 := by omega
      have HN3 : Hid (((restR one ts (10 - (k + 1) + 1) jj).map fun p => (Tr.node (fun d => p.1.getD d (.leaf 0)), p.2)) = N) := by show _ = _; rw [show 10 - (k + 1) + 1 = 10 - k from by omega]; exact HNr.o
      have c0 : wr.cell? ⟨K + 1, 0, none⟩ = some (.pointer (some ⟨K, 0, none⟩)) := block_cell HXr.o 0 _ rfl
      clear HNr
      go_wp2_with fail
      have HFd : Hid (F0 wr wr.drew) := (Fr.refl _ _).drew
      refine wp_region_held_drew (S := fun W => W.cell? ⟨K + 1, 0, none⟩ = some (.pointer (some ⟨K, 0, none⟩))) (by kernel_rfl) (by simpa using c0) (fun hH => ?_)
      clear c0
      refine htk 0 (v := ?v0) ?y0 hH ?r0
      case y0 =>
       intro w s0
       go_simp
       with_reducible rfl
      try go_frame
      refine htk 1 (v := ?v1) ?y1 hH ?r1
      case y1 =>
       intro w s0
       go_simp
       with_reducible rfl
      try go_frame
      refine htk 2 (v := ?v2) ?y2 hH ?r2
      case y2 =>
       intro w s0
       go_simp
       with_reducible rfl
      try go_frame
      refine htk 3 (v := ?v3) ?y3 hH ?r3
      case y3 =>
       intro w s0
       go_simp
       with_reducible rfl
      try go_frame
      refine htk 4 (v := ?v4) ?y4 hH ?r4
      case y4 =>
       intro w s0
       go_simp
       with_reducible rfl
      try go_frame
      refine htk 5 (v := ?v5) ?y5 hH ?r5
      case y5 =>
       intro w s0
       go_simp
       with_reducible rfl
      try go_frame
      refine htk 7 (v := ?v7) ?y7 hH ?r7
      case y7 =>
       intro w s0
       go_simp
       with_reducible rfl
      try go_frame
      refine wpAnyH_ready (rs := [6]) (by kernel_rfl) (by simp) ?_
      refine held_cons rfl (fun K2 hK => ?_) AllReadyH.nil
      try rw [if_pos (by rfl)]
      go_simp
      refine (HI2.o wr.drew jj (HR.o.fr HFd.o (by simp)) (HT.o _ (HFr.o.trans (HFd.o.mono (by simp))))).mono ?_
      intro e w3 hp
      unfold ndP at hp
      cases h2 : one jj with
      | none =>
       rw [h2] at hp
       obtain ⟨he, hf⟩ := hp
       have eN : N = none := by rw [<- HN3.o, rest_none h2]; rfl
       subst eN
       unfold noE at he
       subst he
       exact ⟨rfl, rfl, (HFr.o.trans (HFd.o.mono (by simp))).trans hf⟩
      | some tj =>
       obtain ⟨t, j3⟩ := tj
       rw [h2] at hp
       obtain ⟨⟨v, rfl, a, b, rfl, htr⟩, hR3, hf3⟩ := hp
       have HN4 : Hid (((restR one (ts ++ [t]) (10 - (k + 1)) j3).map fun p => (Tr.node (fun d => p.1.getD d (.leaf 0)), p.2)) = N) := by show _ = _; rw [<- HN3.o, rest_some h2]
       have f3 : Fr (fun k => k = B) wr w3 := (HFd.o.mono (by simp)).trans hf3
       obtain ⟨pa2, kb, rfl, rfl⟩ := TrAt.form htr
       have HX3 : Hid (w3.heap[K + 1]? = some (.cells #[.pointer (some ⟨K, 0, none⟩), .int .i64 0] 90)) := f3.whole HXr.o (by show ¬ K + 1 = B; omega)
       have HP3 : Hid (w3.heap[w.heap.size]? = some (.cells #[.pointer none, .int .i64 0] 90)) := f3.whole HPr.o (by show ¬ w.heap.size = B; omega)
       have HK3 : Hid (KidsAt w3 K ts) := HK.o.fr f3 (fun k hk => by omega)
       have HF3 := hid (HFr.o.trans f3)
       have hKl : K + 1 < wr.heap.size := (Array.getElem?_eq_some_iff.1 HXr.o).1
       have HT3 : Hid (TrAt w3 (K + 1) t (.agg #[.pointer pa2, .int .i64 (kb : Nat)])) := TrAt.low (by show K + 1 <= wr.drew.heap.size; have : wr.drew.heap.size = wr.heap.size := rfl; omega) _ _ htr
       have HR3 := hid hR3
       have c3 : w3.cell? ⟨K + 1, 0, none⟩ = some (.pointer (some ⟨K, 0, none⟩)) := block_cell HX3.o 0 _ rfl
       refine hK.out _ _ c3 (fun hH => ?_)
       clear hK K2 c3 hR3 hf3 f3 h2 htr HR HK HXr HPr HFr HFd
       try go_frame
       refine htk 8 (v := ?v8) ?y8 hH ?r8
       case y8 =>
        intro w s0
        go_simp
        with_reducible rfl
       try go_frame
       obtain ⟨cs, hcs, hcz, _⟩ := id HK3.o
       have y0 := block_cell hcs (k * 2) _ (Array.getElem?_eq_getElem (by omega))
       have y1 := block_cell hcs (k * 2 + 1) _ (Array.getElem?_eq_getElem (by omega))
       have z0 := block_frozen hcs (k * 2)
       have z1 := block_frozen hcs (k * 2 + 1)
       refine wpAnyH_ready (rs := [9]) (by kernel_rfl) (by simp) ?_
       refine held_cons rfl (fun K2 hK => ?_) AllReadyH.nil
       try rw [if_pos (by rfl)]
       go_simp
       have hm := HK3.o.more (a := .pointer pa2) (b := .int .i64 (kb : Nat)) (by omega) HT3.o
       rw [hts] at hm
       have HKm := hid hm
       have hS : Fr (fun q => q = K) w3 ((w3.setCell ⟨K, k * 2, none⟩ (.pointer pa2)).setCell ⟨K, k * 2 + 1, none⟩ (.int .i64 (kb : Nat))) := ((Fr.refl (fun q => q = K) w3).setCell (p := ⟨K, k * 2, none⟩) (Or.inl rfl) _).setCell (p := ⟨K, k * 2 + 1, none⟩) (Or.inl rfl) _
       have HR4 := hid (HR3.o.fr hS (by show ¬ B = K; omega))
       have HX4 := hid (hS.whole HX3.o (by show ¬ K + 1 = K; omega))
       have HP4 := hid (hS.whole HP3.o (by show ¬ w.heap.size = K; omega))
       have HF4 : Hid (Fr (fun k => k = B) w ((w3.setCell ⟨K, k * 2, none⟩ (.pointer pa2)).setCell ⟨K, k * 2 + 1, none⟩ (.int .i64 (kb : Nat)))) := (HF3.o.setCell (p := ⟨K, k * 2, none⟩) (Or.inr (by show w.heap.size <= K; omega)) _).setCell (p := ⟨K, k * 2 + 1, none⟩) (Or.inr (by show w.heap.size <= K; omega)) _
       have c4 : ((w3.setCell ⟨K, k * 2, none⟩ (.pointer pa2)).setCell ⟨K, k * 2 + 1, none⟩ (.int .i64 (kb : Nat))).cell? ⟨K + 1, 0, none⟩ = some (.pointer (some ⟨K, 0, none⟩)) := block_cell HX4.o 0 _ rfl
       refine hK.out _ _ c4 (fun _ => ?_)
       clear hK K2 c4 hm hS hcs y0 y1 z0 z1 HR3 HX3 HP3 HF3 HK3 HT3
       try go_frame
       generalize (w3.setCell ⟨K, k * 2, none⟩ (.pointer pa2)).setCell ⟨K, k * 2 + 1, none⟩ (.int .i64 (kb : Nat)) = W4 at *
       refine wpAnyH_done (by kernel_rfl) ?_ _
       go_wp2_with fail
       go_roundg (10 - (k + 1))
       case measure => omega
       case rel => exact ⟨k + 1, ts ++ [t], j3, by omega, rfl, by go_num, by simp [hts], HR4, HKm, HX4, HP4, HN4, HF4⟩
     ·have hki : ¬ (k : Int) < 10 := by omega
      have hk10 : k = 10 := by omega
      have eN : N = some (Tr.node (fun d => ts.getD d (.leaf 0)), jj) := by
       rw [<- HNr.o, show 10 - k = 0 from by omega, rest_end]
       rfl
      subst eN
      have HTn : Hid (TrAt wr (w.heap.size + 1) (Tr.node (fun d => ts.getD d (.leaf 0))) (.agg #[.pointer (some ⟨K, 0, none⟩), .int .i64 0])) := by
       obtain ⟨cs, k1, k2, k3⟩ := HK.o
       refine ⟨K, cs, rfl, by omega, k1, k2, fun d hd => ?_⟩
       have hdl : d < ts.length := by omega
       obtain ⟨a, b, e1, e2, e3⟩ := k3 d ts[d] (List.getElem?_eq_getElem hdl)
       refine ⟨a, b, e1, e2, ?_⟩
       show TrAt _ _ (ts.getD d (.leaf 0)) _
       rw [show ts.getD d (.leaf 0) = ts[d] from by simp [List.getD, hdl]]
       exact TrAt.low (by omega) _ _ e3
      have q0 : wr.cell? ⟨K + 1, 0, none⟩ = some (.pointer (some ⟨K, 0, none⟩)) := block_cell HXr.o 0 _ rfl
      have q1 : wr.cell? ⟨K + 1, 1, none⟩ = some (.int .i64 0) := block_cell HXr.o 1 _ rfl
      have p0 := block_cell HPr.o 0 _ rfl
      have p1 := block_cell HPr.o 1 _ rfl
      have g0 := block_frozen HPr.o 0
      have g1 := block_frozen HPr.o 1
      clear HNr hk10
      go_wp2_with fail
      exact node_end HR.o HPr.o HFr.o hBl HTn.o rfl
theorem rnode_any (B : Nat) (s : ByteArray) (TT np : Nat) (pa : Option Addr) (pc : Nat) (hne : TT ≠ B) (hnp : np <= 255) : ∀ (f : Nat), f <= 6 -> ∀ (w : World) (i : Nat), RdAt w B s i TT -> w.cell? ⟨TT, 2, none⟩ = some (.slice pa np pc) -> Calls Tryz.prog 87 #[.pointer (some ⟨B, 0, none⟩), .int .i64 (6 - (f : Int))] w (ndP w B s TT (nodeR s.data.toList np (f + 1) i))
 | 0, hf, w, i, h, h2 => rnode_step B s TT np pa pc 0 hne hnp hf (fun h => absurd rfl h) w i h h2
 | f + 1, hf, w, i, h, h2 => rnode_step B s TT np pa pc (f + 1) hne hnp hf (fun _ => hid fun w i h h2 => by
   have e := rnode_any B s TT np pa pc hne hnp f (by omega) w i h h2
   rw [show (7 - ((f + 1 : Nat) : Int)) = 6 - (f : Int) from by omega]
   exact e) w i h h2
end Go.Proofs.YtccikgogjfbpeabGreatDoor

namespace Go.Proofs.YtccikgogjfbpeabGreatDoor
open Go.RowKit
theorem differ_true {l : List ByteArray} (h : ∀ (k : Nat) s, l[k]? = some s -> idxS s 0 l = (k : Int)) : differB l = true := by
 unfold differB
 rw [List.all_eq_true]
 intro k _
 cases hs : l[k]? with
 | none => rfl
 | some s => simpa using h k s hs
theorem differ_false {l : List ByteArray} {k : Nat} {s : ByteArray} (hs : l[k]? = some s) (h : ¬ idxS s 0 l = (k : Int)) : differB l = false := by
 cases e : differB l with
 | false => rfl
 | true =>
  have := List.all_eq_true.1 e k (List.mem_range.2 (List.getElem?_eq_some_iff.1 hs).1)
  rw [hs] at this
  exact absurd (by simpa using this) h
set_option maxRecDepth 30000 in
set_option maxHeartbeats 1000000 in
theorem differ_any (w : World) (a : Option Addr) (n c : Nat) (l : List ByteArray) (h : StrsAt w a l) (hl : l.length = n) (hn : n <= 1000) :
  Calls Tryz.prog 83 #[.slice a n c] w fun e w' => e = .returned (.bool (differB l)) /\ w' = w := by
 have HI : Hid (∀ s, Calls Tryz.prog 52 #[.slice a n c, .string s] w fun e w' => e = .returned (.int .i64 (idxS s 0 l)) /\ w' = w) := fun s => by
  have e := IndexS_any w a c l s h (by unfold maxLen; omega)
  rw [hl] at e
  exact e
 have HS := hid h
 have HL := hid hl
 obtain ⟨b, hb⟩ : ∃ b, differB l = b := ⟨_, rfl⟩
 rw [hb]
 have HB := hid hb
 clear h hl hb
 go_enter Tryz.func83, Tryz.ntmps83
 go_wp2_with fail
 go_loop [3, 4, 7] (fun _ _ iv => ∃ k : Nat, k <= n /\ iv = .int .i64 (k : Nat) /\ Hid (∀ (q : Nat) s, q < k -> l[q]? = some s -> idxS s 0 l = (q : Int))) (fun _ _ iv => n - (intOf iv).toNat)
 case atStart => exact ⟨0, by omega, rfl, fun q s h => by omega⟩
 case round =>
  obtain ⟨k, hk, rfl, HA⟩ := hrel
  by_cases hlt : k < n
  ·have hki : (k : Int) < (n : Int) := by omega
   obtain ⟨s, hs⟩ : ∃ s, l[k]? = some s := ⟨_, List.getElem?_eq_getElem (by have := HL.o; omega)⟩
   obtain ⟨g, o, rfl, hc⟩ := HS.o k s hs
   go_wp2_with fail
   refine (HI.o s).mono ?_
   rintro e w1 ⟨rfl, hw⟩
   replace hw := hw.symm
   subst hw
   by_cases he : idxS s 0 l = (k : Int)
   ·rw [he]
    have HA2 : Hid (∀ (q : Nat) s, q < k + 1 -> l[q]? = some s -> idxS s 0 l = (q : Int)) := fun q t hq ht => by
     by_cases e : q = k
     ·subst e; rw [hs] at ht; injection ht with ht; subst ht; exact he
     ·exact HA.o q t (by omega) ht
    clear hs he
    go_wp2_with fail
    exact ⟨⟨k + 1, by omega, by go_num, HA2⟩, by simp [intOf]; omega⟩
   ·have eb : b = false := by rw [<- HB.o]; exact differ_false hs he
    subst eb
    have hz : (idxS s 0 l != (k : Int)) = true := by simpa using he
    generalize idxS s 0 l = z at *
    clear hs
    go_wp2_with fail
    go_ret
    exact ⟨rfl, rfl⟩
  ·have hki : ¬ (k : Int) < (n : Int) := by omega
   have eb : b = true := by
    rw [<- HB.o]
    exact differ_true (fun q t ht => HA.o q t (by have := (List.getElem?_eq_some_iff.1 ht).1; have := HL.o; omega) ht)
   subst eb
   go_wp2_with fail
   go_ret
   exact ⟨rfl, rfl⟩
def RtsAt (w : World) (a : Option Addr) (l : List RouteM) : Prop := ∀ k t, l[k]? = some t -> ∃ g, a = some ⟨g, 0, none⟩ /\ w.cell? ⟨g, k * 3, none⟩ = some (.string t.name) /\ w.cell? ⟨g, k * 3 + 1, none⟩ = some (.int .i64 (t.base : Nat)) /\ w.cell? ⟨g, k * 3 + 2, none⟩ = some (.int .i64 (t.rate : Nat))
theorem rtsAt_own {w : World} {base rc : Nat} {ra : Option Addr} {rts : List RouteM} (h : w.ownsRow base 144 3 (.slice ra rts.length rc) rts.length (rtRow rts)) : RtsAt w ra rts := fun k t hk => by
 have hl := (List.getElem?_eq_some_iff.1 hk).1
 obtain ⟨g, cap, e, _, hg, hcells⟩ := ownsRow_rt h (by omega)
 injection e with e _ _
 exact ⟨g, e, hcells k t hk⟩
set_option maxRecDepth 30000 in
set_option maxHeartbeats 1000000 in
theorem routeNames_any (w : World) (a : Option Addr) (n c : Nat) (l : List RouteM) (h : RtsAt w a l) (hl : l.length = n) (hn : n <= 6) :
  Calls Tryz.prog 84 #[.slice a n c] w fun e w' => (∃ v, e = .returned v /\ w'.ownsRow w.heap.size 9 1 v n (strRow (l.map RouteM.name))) /\ F0 w w' := by
 obtain ⟨ij, hj', hy0, hy1, hy2⟩ := info_parts Tryz.infoIeS
 have HS := hid h
 have HL := hid hl
 obtain ⟨M, hM⟩ : ∃ M, l.map RouteM.name = M := ⟨_, rfl⟩
 rw [hM]
 have HM := hid hM
 clear h hl hM
 go_enter Tryz.func84, Tryz.ntmps84
 go_wp2_with fail
 go_loopg [3, 8] n (fun m ov kv wr => ∃ k : Nat, k <= n /\ m = n - k /\ kv = .int .i64 (k : Nat) /\ Hid (wr.ownsRow w.heap.size 9 1 ov k (strRow (M.take k))) /\ Hid (F0 w wr))
 case atStart => exact ⟨0, by omega, rfl, rfl, World.ownsRow_nil _ _ _ _, Fr.refl _ _⟩
 case round =>
  obtain ⟨k, hk, rfl, rfl, HO, HFr⟩ := hrel
  obtain ⟨oa, oc, ho⟩ := ownsRow_len HO.o
  subst ho
  by_cases hlt : k < n
  ·have hki : (k : Int) < (n : Int) := by omega
   obtain ⟨t, ht⟩ : ∃ t, l[k]? = some t := ⟨_, List.getElem?_eq_getElem (by have := HL.o; omega)⟩
   obtain ⟨g, rfl, d0, d1, d2⟩ := HS.o k t ht
   have hgl := World.block_lt_of_cell? w _ d0
   have e0 := (HFr.o.cell (p := ⟨g, k * 3, none⟩) hgl (by simp)).trans d0
   have e1 := (HFr.o.cell (p := ⟨g, k * 3 + 1, none⟩) hgl (by simp)).trans d1
   have e2 := (HFr.o.cell (p := ⟨g, k * 3 + 2, none⟩) hgl (by simp)).trans d2
   have HT : Hid (strRow (M.take (k + 1)) = strRow (M.take k) ++ [.string t.name]) := by show _ = _; rw [List.take_add_one, <- HM.o, List.getElem?_map, ht]; simp [strRow]
   have HBa : Hid ((wr.alloc (.cells #[.string t.name, .int .i64 (t.base : Nat), .int .i64 (t.rate : Nat)] 144)).heap[wr.heap.size]? = some (.cells #[.string t.name, .int .i64 (t.base : Nat), .int .i64 (t.rate : Nat)] 144)) := heap_alloc_new wr _
   have HFa : Hid (F0 w (wr.alloc (.cells #[.string t.name, .int .i64 (t.base : Nat), .int .i64 (t.rate : Nat)] 144))) := HFr.o.alloc _
   have HOa : Hid ((wr.alloc (.cells #[.string t.name, .int .i64 (t.base : Nat), .int .i64 (t.rate : Nat)] 144)).ownsRow w.heap.size 9 1 (.slice oa k oc) k (strRow (M.take k))) := HO.o.alloc _
   clear d0 d1 d2 ht
   go_upto_region 5 with fail
   generalize wr.alloc (.cells #[.string t.name, .int .i64 (t.base : Nat), .int .i64 (t.rate : Nat)] 144) = w2 at *
   have x0 : w2.cell? ⟨wr.heap.size, 0, none⟩ = some (.string t.name) := block_cell HBa.o 0 _ rfl
   generalize wr.heap.size = X at *
   clear e0 e1 e2
   go_wp2_with (at_builtin; refine wpList_append_lies _ rfl (.tmp 12) (.tmp 15) 33 rfl w.heap.size 9 ij _ 1 16 Tryz.underlying33 hj' hy0 hy1 hy2 rfl (by decide) (.slice oa k oc) k (strRow (M.take k)) rfl ?h1 ⟨w2.heap.size, 0, none⟩ 1 1 [.string t.name] rfl rfl ?h2 ?h3 (by decide) ?h4 ?h5 ?h6 _ rfl ?h7)
   case h1 => exact HOa.o.alloc _
   try case h2 => exact World.news_of_block (heap_alloc_new w2 (.cells #[.string t.name] 9))
   case h3 => simp [Value.oneCell']
   case h4 => unfold maxLen; omega
   case h5 => omega
   case h6 => have := HFa.o.size; simp; omega
   case h7 =>
    intro g2 cap2 w8 hown hgrow hor _
    have HF8 : Hid (F0 w w8) := (HFa.o.alloc _).grown hgrow (fun k hk => Or.inr (HOa.o.lt k hk).1)
    have HO8 : Hid (w8.ownsRow w.heap.size 9 1 (.slice (some ⟨g2, 0, none⟩) (k + 1) cap2) (k + 1) (strRow (M.take (k + 1)))) := by
     show World.ownsRow _ _ _ _ _ _ _
     rw [HT.o]
     exact hown
    clear hown hgrow hor x0
    go_wp2_with fail
    go_roundg (n - (k + 1))
    case measure => omega
    case rel => exact ⟨k + 1, by omega, rfl, by go_num, HO8, HF8⟩
  ·have hki : ¬ (k : Int) < (n : Int) := by omega
   have ek : k = n := by omega
   subst ek
   have ho := HO.o
   rw [List.take_of_length_le (by rw [<- HM.o, List.length_map]; have := HL.o; omega)] at ho
   have HOe := hid ho
   clear ho
   go_wp2_with fail
   go_ret
   exact ⟨⟨_, rfl, HOe.o⟩, HFr.o⟩
end Go.Proofs.YtccikgogjfbpeabGreatDoor
