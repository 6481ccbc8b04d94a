/- The tree: a node is grown. The tree: the grower as it begins. -/
import Derived.Test.YtccikgogjfbpeabGreatDoorWGf
namespace Go.Proofs.YtccikgogjfbpeabGreatDoor
open Go.RowKit Go.Maps
theorem TrAt.form {w : World} {lo : Nat} {a b : Value} : ∀ {t : Tr}, TrAt w lo t (.agg #[a, b]) -> ∃ (p : Option Addr) (k : Nat), a = .pointer p /\ b = .int .i64 k
 | .leaf p, h => by
  have e : Value.agg #[a, b] = .agg #[.pointer none, .int .i64 p] := h
  injection e with e
  obtain ⟨e1, e2⟩ : a = .pointer none /\ b = .int .i64 p := by simpa using e
  exact ⟨none, p, e1, e2⟩
 | .node _, ⟨K, _, e, _⟩ => by
  injection e with e
  obtain ⟨e1, e2⟩ : a = .pointer (some ⟨K, 0, none⟩) /\ b = .int .i64 0 := by simpa using e
  exact ⟨_, 0, e1, e2⟩
def zeroKids : Array Value := #[.pointer none, .int .i64 0, .pointer none, .int .i64 0, .pointer none, .int .i64 0, .pointer none, .int .i64 0, .pointer none, .int .i64 0, .pointer none, .int .i64 0, .pointer none, .int .i64 0, .pointer none, .int .i64 0, .pointer none, .int .i64 0, .pointer none, .int .i64 0]
structure SfS (W0 : World) (q : Part) (op : Nat) (R : List RuleM) (met i a1 a2 : Nat) (wr : World) : Prop where
 fr : F0 W0 wr
 eq : siftM q op i (R.drop i) (a1, a2) = siftM q op 0 R (met, 0)
set_option maxRecDepth 30000 in
set_option maxHeartbeats 8000000 in
theorem grow_step {zb : Nat} (w0 : World) (G M : Nat) (v0 v1 : Value) (R : List RuleM) (ord : Nat -> Nat) (hM : M < w0.heap.size) (hG : G < w0.heap.size) (hn8 : R.length <= 8) (ho : ∀ k, k < R.length -> ord k < R.length) (hR : ∀ r, r ∈ R -> r.mcc.length <= 4000 /\ r.cur.length <= 4000) (hB : ∀ r, r ∈ R -> BinOk r /\ r.lo <= 1000000)
  (n : Nat) (ih : ∀ (q : Part) (met op : Nat) (ps : List Nat) (vp : Value) (w : World), 7 <= n + q.d -> q.d <= 6 -> q.x < 10 ^ q.d -> met < 256 -> op < 256 -> GrS zb w0 w G M v0 v1 R ord ps vp -> Calls Tryz.prog 61 #[.pointer (some ⟨G, 0, none⟩), partV q, .int .u64 met, .int .u64 op] w (GwPost zb w0 w G M v0 v1 R ord (growM R n q met op ps) vp))
  (q : Part) (met op : Nat) (ps : List Nat) (vp : Value) (w : World) (h7 : 7 <= n + 1 + q.d) (hq : q.d <= 6) (hx : q.x < 10 ^ q.d) (hm : met < 256) (hop : op < 256) (h : GrS zb w0 w G M v0 v1 R ord ps vp) :
  Calls Tryz.prog 61 #[.pointer (some ⟨G, 0, none⟩), partV q, .int .u64 met, .int .u64 op] w (GwPost zb w0 w G M v0 v1 R ord (growM R (n + 1) q met op ps) vp) := by
 have HIH : Hid (∀ (q : Part) (met op : Nat) (ps : List Nat) (vp : Value) (w : World), 7 <= n + q.d -> q.d <= 6 -> q.x < 10 ^ q.d -> met < 256 -> op < 256 -> GrS zb w0 w G M v0 v1 R ord ps vp -> Calls Tryz.prog 61 #[.pointer (some ⟨G, 0, none⟩), partV q, .int .u64 met, .int .u64 op] w (GwPost zb w0 w G M v0 v1 R ord (growM R n q met op ps) vp)) := ih
 have HS : Hid (GrS zb w0 w G M v0 v1 R ord ps vp) := h
 have HO : Hid (∀ k, k < R.length -> ord k < R.length) := ho
 have HRr : Hid (∀ r, r ∈ R -> r.mcc.length <= 4000 /\ r.cur.length <= 4000) := hR
 have HBb : Hid (∀ r, r ∈ R -> BinOk r /\ r.lo <= 1000000) := hB
 have HX : Hid (q.x < 10 ^ q.d) := hx
 have H7 : Hid (7 <= n + 1 + q.d) := h7
 obtain ⟨N, hN⟩ : ∃ N, R.length = N := ⟨_, rfl⟩
 have HN : Hid (R.length = N) := hN
 obtain ⟨va, c, h0, _⟩ := h.gr.rl
 rw [hN] at h0 hn8
 have HQ : Hid (∀ e w', GwPost zb w0 w G M v0 v1 R ord (growM R (n + 1) q met op ps) vp e w' ↔ GwPost zb w0 w G M v0 v1 R ord (growM R (n + 1) q met op ps) vp e w') := fun _ _ => Iff.rfl
 generalize hPost : GwPost zb w0 w G M v0 v1 R ord (growM R (n + 1) q met op ps) vp = Post at *
 have HP : Hid (GwPost zb w0 w G M v0 v1 R ord (growM R (n + 1) q met op ps) vp = Post) := hPost
 clear ih h ho hR hB hx h7 hN hPost HQ
 obtain ⟨qd, qx⟩ := q
 unfold partV
 simp only at hq
 go_enter Tryz.func61, Tryz.ntmps61
 have HW0 : Hid (F0 w ((w.alloc (.cells #[.int .i64 qd, .int .i64 qx] 131)).alloc (.cells #[.pointer none, .int .i64 0] 90))) := ((Fr.refl _ _).alloc _).alloc _
 have HWp : Hid (((w.alloc (.cells #[.int .i64 qd, .int .i64 qx] 131)).alloc (.cells #[.pointer none, .int .i64 0] 90)).heap[w.heap.size]? = some (.cells #[.int .i64 qd, .int .i64 qx] 131)) := ((Fr.refl (fun _ => False) _).alloc _).whole (heap_alloc_new w _) (by simp)
 have HWn : Hid (((w.alloc (.cells #[.int .i64 qd, .int .i64 qx] 131)).alloc (.cells #[.pointer none, .int .i64 0] 90)).heap[w.heap.size + 1]? = some (.cells #[.pointer none, .int .i64 0] 90)) := by have e := heap_alloc_new (w.alloc (.cells #[.int .i64 qd, .int .i64 qx] 131)) (.cells #[.pointer none, .int .i64 0] 90); rw [show (w.alloc (.cells #[.int .i64 qd, .int .i64 qx] 131)).heap.size = w.heap.size + 1 from by simp] at e; exact e
 go_upto_region 1 with fail
 generalize (w.alloc (.cells #[.int .i64 qd, .int .i64 qx] 131)).alloc (.cells #[.pointer none, .int .i64 0] 90) = W0 at *
 obtain ⟨b, hb⟩ : ∃ b, w.heap.size = b := ⟨_, rfl⟩
 have HB : Hid (w.heap.size = b) := hb
 rw [hb] at HWp HWn ⊢
 clear hb
 have HSW : Hid (GrS zb w0 W0 G M v0 v1 R ord ps vp) := HS.o.keep HW0.o
 have g0 : W0.cell? ⟨G, 0, none⟩ = some (.slice va N c) := (HW0.o.cell (p := ⟨G, 0, none⟩) (World.block_lt_of_cell? w _ h0) (by simp)).trans h0
 have HG0 : Hid (W0.cell? ⟨G, 0, none⟩ = some (.slice va N c)) := g0
 clear h0
 go_wp2_with fail
 go_loopg [2, 9, 19] N (fun m mv sv kv wr => ∃ i a1 a2, i <= N /\ m = N - i /\ kv = .int .i64 (i : Nat) /\ mv = .int .u64 (a1 : Nat) /\ sv = .int .u64 (a2 : Nat) /\ a1 < 256 /\ a2 < 256 /\ Hid (SfS W0 ⟨qd, qx⟩ op R met i a1 a2 wr))
 case atStart => exact ⟨0, met, 0, Nat.zero_le _, rfl, rfl, rfl, rfl, hm, by omega, ⟨Fr.refl _ _, rfl⟩⟩
 case round =>
  obtain ⟨i, a1, a2, hi, rfl, rfl, rfl, rfl, ha1, ha2, HF⟩ := hrel
  by_cases hlt : i < N
  ·have hki : (i : Int) < (N : Int) := by omega
   have HGr := (HSW.o.keep HF.o.fr).gr
   obtain ⟨va2, c2, g0', hrl⟩ := HGr.rl
   obtain ⟨r, hr⟩ : ∃ r, R[i]? = some r := ⟨_, List.getElem?_eq_getElem (by have := HN.o; omega)⟩
   have HRi : Hid (R[i]? = some r) := hr
   obtain ⟨g, ma, mc, ca, cc, pa, pc, eg, hgl, hcell, hm1, hc1, hp1⟩ := hrl i r hr
   have e1 := (HF.o.fr.cell (p := ⟨G, 0, none⟩) (World.block_lt_of_cell? W0 _ HG0.o) (by simp)).trans HG0.o
   rw [g0'] at e1
   injection e1 with e1
   injection e1 with e1 _ e2
   rw [eg] at e1
   subst e1
   have v0' := hcell 0 _ rfl
   have v1' := hcell 1 _ rfl
   have v2 := hcell 2 _ rfl
   have v3 := hcell 3 _ rfl
   have v4 := hcell 4 _ rfl
   have v5 := hcell 5 _ rfl
   have v6 := hcell 6 _ rfl
   have v7 := hcell 7 _ rfl
   have v8 := hcell 8 _ rfl
   have v9 := hcell 9 _ rfl
   have v10 := hcell 10 _ rfl
   have v11 := hcell 11 _ rfl
   have v12 := hcell 12 _ rfl
   have v13 := hcell 13 _ rfl
   rw [Nat.add_zero] at v0'
   clear hcell hm1 hc1 hp1 hrl HGr hgl g0' hr
   have HF1 : Hid (F0 W0 (wr.alloc (rlO r.name r.rank r.digits r.lo r.hi ma r.mcc.length mc r.am.isSome (r.am.getD (0, 0)).1 (r.am.getD (0, 0)).2 ca r.cur.length cc r.decline r.cheapest pa r.routes.length pc r.ahead))) := HF.o.fr.alloc _
   have HBX : Hid ((wr.alloc (rlO r.name r.rank r.digits r.lo r.hi ma r.mcc.length mc r.am.isSome (r.am.getD (0, 0)).1 (r.am.getD (0, 0)).2 ca r.cur.length cc r.decline r.cheapest pa r.routes.length pc r.ahead)).heap[wr.heap.size]? = some (rlO r.name r.rank r.digits r.lo r.hi ma r.mcc.length mc r.am.isSome (r.am.getD (0, 0)).1 (r.am.getD (0, 0)).2 ca r.cur.length cc r.decline r.cheapest pa r.routes.length pc r.ahead)) := heap_alloc_new wr _
   unfold rlO at HF1 HBX
   go_upto_region 5 with fail
   generalize wr.alloc (.cells #[.string r.name, .int .i64 r.rank, .int .i64 r.digits, .int .i64 r.lo, .int .i64 r.hi, .slice ma r.mcc.length mc, .bool r.am.isSome, .int .i64 (r.am.getD (0, 0)).1, .int .i64 (r.am.getD (0, 0)).2, .slice ca r.cur.length cc, .bool r.decline, .bool r.cheapest, .slice pa r.routes.length pc, .int .i64 r.ahead] 108) = W1 at *
   generalize wr.heap.size = X at *
   clear v0' v1' v2 v3 v4 v5 v6 v7 v8 v9 v10 v11 v12 v13
   have HEQ : Hid (siftM ⟨qd, qx⟩ op (i + 1) (R.drop (i + 1)) (siftStep ⟨qd, qx⟩ op i r (a1, a2)) = siftM ⟨qd, qx⟩ op 0 R (met, 0)) := by
    have e := HF.o.eq
    rw [sift_drop HRi.o] at e
    exact e
   have hi8 : i < 8 := by omega
   have HHA : Hid (∀ W, Calls Tryz.prog 102 #[.int .u64 op, .int .i64 i] W fun e w' => e = .returned (.bool (op.testBit i)) /\ w' = W) := fun W => has_any op i W hop hi8
   have HWI : Hid (∀ s W, s < 256 -> Calls Tryz.prog 104 #[.int .u64 (s : Nat), .int .i64 i] W fun e w' => e = .returned (.int .u64 (s ||| 1 <<< i : Nat)) /\ w' = W) := fun s W hs => with_any s i W hs hi8
   cases hb : op.testBit i with
   | false =>
    rw [hb] at HHA
    have HST : Hid (siftStep ⟨qd, qx⟩ op i r (a1, a2) = (a1, a2)) := by
     show _ = _
     unfold siftStep
     rw [hb]
     rfl
    rw [HST.o] at HEQ
    go_wp2_with fail
    refine (HHA.o _).mono ?_
    rintro e w2 ⟨rfl, hw⟩
    replace hw := hw.symm
    subst hw
    go_wp2_with fail
    go_roundg (N - (i + 1))
    case measure => omega
    case rel => exact ⟨i + 1, a1, a2, by omega, rfl, by go_num, rfl, rfl, ha1, ha2, ⟨HF1.o, HEQ.o⟩⟩
   | true =>
    rw [hb] at HHA
    have hbr := HBb.o r (List.mem_of_getElem? HRi.o)
    have hx6 : qx <= 1000000 := by
     have e : qx < 10 ^ qd := HX.o
     have : 10 ^ qd <= 10 ^ 6 := Nat.pow_le_pow_right (by omega) hq
     omega
    have HAB : Hid (Calls Tryz.prog 103 #[rlV r.name r.rank r.digits r.lo r.hi ma r.mcc.length mc r.am.isSome (r.am.getD (0, 0)).1 (r.am.getD (0, 0)).2 ca r.cur.length cc r.decline r.cheapest pa r.routes.length pc r.ahead, partV ⟨qd, qx⟩] W1 fun e w' => e = .returned (.int .i64 (aboutL ⟨qd, qx⟩ (partsM r.digits r.lo r.hi))) /\ Below W1.heap.size W1 w') := about_any r.name r.rank r.digits r.lo r.hi ma r.mcc.length mc r.am.isSome (r.am.getD (0, 0)).1 (r.am.getD (0, 0)).2 ca r.cur.length cc r.decline r.cheapest pa r.routes.length pc r.ahead ⟨qd, qx⟩ W1 hbr.1.1 hbr.2 hbr.1.2 ⟨hq, hx6⟩
    unfold rlV partV at HAB
    have hSS : siftStep ⟨qd, qx⟩ op i r (a1, a2) = if aboutL ⟨qd, qx⟩ (partsM r.digits r.lo r.hi) = 2 then (a1 ||| 1 <<< i, a2) else if aboutL ⟨qd, qx⟩ (partsM r.digits r.lo r.hi) = 1 then (a1, a2 ||| 1 <<< i) else (a1, a2) := by
     unfold siftStep
     rw [hb]
     rfl
    rw [hSS] at HEQ
    have hbx := HBX.o
    have hpx := HF1.o.whole HWp.o (by simp)
    have x0 := block_cell hbx 0 _ rfl
    have x1 := block_cell hbx 1 _ rfl
    have x2 := block_cell hbx 2 _ rfl
    have x3 := block_cell hbx 3 _ rfl
    have x4 := block_cell hbx 4 _ rfl
    have x5 := block_cell hbx 5 _ rfl
    have x6 := block_cell hbx 6 _ rfl
    have x7 := block_cell hbx 7 _ rfl
    have x8 := block_cell hbx 8 _ rfl
    have x9 := block_cell hbx 9 _ rfl
    have x10 := block_cell hbx 10 _ rfl
    have x11 := block_cell hbx 11 _ rfl
    have x12 := block_cell hbx 12 _ rfl
    have x13 := block_cell hbx 13 _ rfl
    have p0 := block_cell hpx 0 _ rfl
    have p1 := block_cell hpx 1 _ rfl
    clear hbx hpx hSS hbr hx6
    go_wp2_with fail
    refine (HHA.o _).mono ?_
    rintro e w2 ⟨rfl, hw⟩
    replace hw := hw.symm
    subst hw
    go_wp2_with fail
    refine HAB.o.mono ?_
    rintro e w3 ⟨rfl, hbel⟩
    have HF3 : Hid (F0 W0 w3) := HF1.o.trans (Fr.of_below hbel)
    generalize aboutL ⟨qd, qx⟩ (partsM r.digits r.lo r.hi) = al at *
    clear hbel x0 x1 x2 x3 x4 x5 x6 x7 x8 x9 x10 x11 x12 x13 p0 p1 HAB
    by_cases h2 : al = 2
    ·subst h2
     rw [if_pos rfl] at HEQ
     go_wp2_with fail
     refine (HWI.o a1 _ ha1).mono ?_
     rintro e w2 ⟨rfl, hw⟩
     replace hw := hw.symm
     subst hw
     go_wp2_with fail
     go_roundg (N - (i + 1))
     case measure => omega
     case rel => exact ⟨i + 1, _, a2, by omega, rfl, by go_num, rfl, rfl, or_lt _ _ ha1 hi8, ha2, ⟨HF3.o, HEQ.o⟩⟩
    ·rw [if_neg h2] at HEQ
     have h2' : ¬ (al : Int) = 2 := by omega
     by_cases h1 : al = 1
     ·subst h1
      rw [if_pos rfl] at HEQ
      go_wp2_with fail
      refine (HWI.o a2 _ ha2).mono ?_
      rintro e w2 ⟨rfl, hw⟩
      replace hw := hw.symm
      subst hw
      go_wp2_with fail
      go_roundg (N - (i + 1))
      case measure => omega
      case rel => exact ⟨i + 1, a1, _, by omega, rfl, by go_num, rfl, rfl, ha1, or_lt _ _ ha2 hi8, ⟨HF3.o, HEQ.o⟩⟩
     ·rw [if_neg h1] at HEQ
      have h1' : ¬ (al : Int) = 1 := by omega
      go_wp2_with fail
      go_roundg (N - (i + 1))
      case measure => omega
      case rel => exact ⟨i + 1, a1, a2, by omega, rfl, by go_num, rfl, rfl, ha1, ha2, ⟨HF3.o, HEQ.o⟩⟩
  ·have hie : i = N := by omega
   subst hie
   have hki : ¬ (i : Int) < (i : Int) := by omega
   have HSI : Hid (siftM ⟨qd, qx⟩ op 0 R (met, 0) = (a1, a2)) := by
    have e := HF.o.eq
    rw [<- HN.o, sift_end] at e
    exact e.symm
   have HFr : Hid (F0 w wr) := HW0.o.trans HF.o.fr
   have HSr : Hid (GrS zb w0 wr G M v0 v1 R ord ps vp) := HSW.o.keep HF.o.fr
   have HWn' : Hid (wr.heap[b + 1]? = some (.cells #[.pointer none, .int .i64 0] 90)) := HF.o.fr.whole HWn.o (by simp)
   have HWp' : Hid (wr.heap[b]? = some (.cells #[.int .i64 qd, .int .i64 qx] 131)) := HF.o.fr.whole HWp.o (by simp)
   clear HWn HWp HSW HW0 HG0 HF
   by_cases hz : a2 = 0
   ·subst hz
    have HGP : Hid (Calls Tryz.prog 105 #[.pointer (some ⟨G, 0, none⟩), .int .u64 a1] wr fun e w' => e = .returned (.int .i64 (placeM ps a1 : Nat)) /\ (∃ vp', GrS zb w0 w' G M v0 v1 R ord (placedM ps a1) vp' /\ (vp'.ownBlock = vp.ownBlock \/ ∀ k, vp'.ownBlock = some k -> wr.heap.size <= k)) /\ Fr (fun k => k = G \/ k = M \/ vp.ownBlock = some k) wr w') :=
     gprogram_any w0 wr G M v0 v1 R ord ps vp a1 HSr.o hM hG HSr.o.few (by have := HN.o; omega) ha1 HO.o HRr.o
    go_wp2_with fail
    refine HGP.o.mono ?_
    rintro e w5 ⟨rfl, ⟨vp', hgs, hor⟩, hf5⟩
    have hb1 : w0.heap.size <= b := by rw [<- HB.o]; exact HS.o.fr.size
    have hnb : ¬ (b + 1 = G \/ b + 1 = M \/ vp.ownBlock = some (b + 1)) := by
     rintro (e | e | e)
     ·omega
     ·omega
     ·obtain ⟨xs, hp, _⟩ := HS.o.pg
      have := (hp.lt _ e).2
      have := HB.o
      omega
    have hbx := hf5.whole HWn'.o hnb
    have HBX : Hid (w5.heap[b + 1]? = some (.cells #[.pointer none, .int .i64 0] 90)) := hbx
    have y0 := block_cell hbx 0 _ rfl
    have y1 := block_cell hbx 1 _ rfl
    have yf := block_frozen hbx
    have HFIN : Hid (GwPost zb w0 w G M v0 v1 R ord (growM R (n + 1) ⟨qd, qx⟩ met op ps) vp (.returned (.agg #[.pointer none, .int .i64 (placeM ps a1 : Nat)])) ((w5.setCell ⟨b + 1, 0, none⟩ (.pointer none)).setCell ⟨b + 1, 1, none⟩ (.int .i64 (placeM ps a1 : Nat)))) := by
     have hS : Fr (fun k => k = b + 1) w5 ((w5.setCell ⟨b + 1, 0, none⟩ (.pointer none)).setCell ⟨b + 1, 1, none⟩ (.int .i64 (placeM ps a1 : Nat))) := ((Fr.refl (fun k => k = b + 1) w5).setCell (p := ⟨b + 1, 0, none⟩) (Or.inl rfl) _).setCell (p := ⟨b + 1, 1, none⟩) (Or.inl rfl) _
     have hT : growM R (n + 1) ⟨qd, qx⟩ met op ps = (.leaf (placeM ps a1), placedM ps a1) := by
      unfold growM
      rw [HSI.o, if_pos rfl]
     rw [hT]
     refine ⟨⟨_, _, rfl, rfl⟩, ⟨vp', hgs.wrote hS ?_, ?_⟩, ?_⟩
     ·rintro k rfl
      exact ⟨by omega, _, _, hbx, Or.inl rfl⟩
     ·rcases hor with e | e
      ·exact Or.inl e
      ·exact Or.inr fun k hk => Nat.le_trans HFr.o.size (e k hk)
     ·have f1 : Fr (fun k => k = G \/ k = M \/ vp.ownBlock = some k) w w5 := (HFr.o.mono (by simp)).trans hf5
      exact f1.monoNew hS (fun k hk => Or.inr (by have := HB.o; omega))
    rw [HP.o] at HFIN
    clear hgs hor hf5 hbx hnb
    go_wp2_with fail
    obtain ⟨s0, s1⟩ : ((w5.setCell ⟨b + 1, 0, none⟩ (.pointer none)).setCell ⟨b + 1, 1, none⟩ (.int .i64 (placeM ps a1 : Nat))).cell? ⟨b + 1, 0, none⟩ = some (.pointer none) /\ ((w5.setCell ⟨b + 1, 0, none⟩ (.pointer none)).setCell ⟨b + 1, 1, none⟩ (.int .i64 (placeM ps a1 : Nat))).cell? ⟨b + 1, 1, none⟩ = some (.int .i64 (placeM ps a1 : Nat)) := by
     constructor
     ·rw [World.cell?_setCell_other _ _ _ _ (by simp)]; exact World.cell?_setCell_same _ _ _ y0
     ·exact World.cell?_setCell_same _ _ _ (by rw [World.cell?_setCell_other _ _ _ _ (by simp)]; exact y1)
    refine bodyPost_ret (v := .agg #[.pointer none, .int .i64 (placeM ps a1 : Nat)]) (by simp [results, Tryz.results61, go_sem, s0, s1]) rfl HFIN.o
   ·have hz' : ¬ (a2 : Int) = 0 := by omega
    have hd6 : qd < 6 := split_deep (q := ⟨qd, qx⟩) (met := met) (op := op) (fun r hr => (HBb.o r hr).1) (by rw [HSI.o]; exact hz)
    have HK2 : Hid (F0 wr ((wr.alloc (.cells zeroKids 195)).alloc (.cells #[.pointer (some ⟨wr.heap.size, 0, none⟩), .int .i64 0] 90))) := ((Fr.refl _ _).alloc _).alloc _
    have HKk : Hid (((wr.alloc (.cells zeroKids 195)).alloc (.cells #[.pointer (some ⟨wr.heap.size, 0, none⟩), .int .i64 0] 90)).heap[wr.heap.size]? = some (.cells zeroKids 195)) := ((Fr.refl (fun _ => False) _).alloc _).whole (heap_alloc_new wr _) (by simp)
    have HKn : Hid (((wr.alloc (.cells zeroKids 195)).alloc (.cells #[.pointer (some ⟨wr.heap.size, 0, none⟩), .int .i64 0] 90)).heap[wr.heap.size + 1]? = some (.cells #[.pointer (some ⟨wr.heap.size, 0, none⟩), .int .i64 0] 90)) := by have e := heap_alloc_new (wr.alloc (.cells zeroKids 195)) (.cells #[.pointer (some ⟨wr.heap.size, 0, none⟩), .int .i64 0] 90); rw [show (wr.alloc (.cells zeroKids 195)).heap.size = wr.heap.size + 1 from by simp] at e; exact e
    unfold zeroKids at HK2 HKk HKn
    go_upto_region 15 with fail
    generalize (wr.alloc (.cells #[.pointer none, .int .i64 0, .pointer none, .int .i64 0, .pointer none, .int .i64 0, .pointer none, .int .i64 0, .pointer none, .int .i64 0, .pointer none, .int .i64 0, .pointer none, .int .i64 0, .pointer none, .int .i64 0, .pointer none, .int .i64 0, .pointer none, .int .i64 0] 195)).alloc (.cells #[.pointer (some ⟨wr.heap.size, 0, none⟩), .int .i64 0] 90) = W2 at *
    obtain ⟨K, hKe⟩ : ∃ K, wr.heap.size = K := ⟨_, rfl⟩
    have HKE : Hid (wr.heap.size = K) := hKe
    rw [hKe] at HKk HKn ⊢
    have hbK : b + 1 < K := by
     have := (Array.getElem?_eq_some_iff.1 HWn'.o).1
     omega
    have hK2 : K + 1 < W2.heap.size := (Array.getElem?_eq_some_iff.1 HKn.o).1
    have hb0 : w0.heap.size <= b := by rw [<- HB.o]; exact HS.o.fr.size
    have HNB : Hid (∀ k, b <= k -> k ≠ K -> ¬ (k = G \/ k = M \/ vp.ownBlock = some k \/ k = K)) := by
     rintro k hk hkK (e | e | e | e)
     ·omega
     ·omega
     ·obtain ⟨xs, hp, _⟩ := HS.o.pg
      have := (hp.lt _ e).2
      have := HB.o
      omega
     ·exact hkK e
    have HS2 : Hid (GrS zb w0 W2 G M v0 v1 R ord ps vp) := HSr.o.keep HK2.o
    have HW2p : Hid (W2.heap[b]? = some (.cells #[.int .i64 qd, .int .i64 qx] 131)) := HK2.o.whole HWp'.o (by simp)
    have HW2n : Hid (W2.heap[b + 1]? = some (.cells #[.pointer none, .int .i64 0] 90)) := HK2.o.whole HWn'.o (by simp)
    have HF2 : Hid (F0 w W2) := HFr.o.trans HK2.o
    have HD0 : Hid (KdS zb w0 W2 G M K v0 v1 R ord (fun d ps' => growM R n (Part.longer ⟨qd, qx⟩ d) a1 a2 ps') ps vp 0 W2) := ⟨⟨vp, HS2.o, Or.inl rfl⟩, Fr.refl _ _, ⟨_, HKk.o, rfl, fun j hj => by omega⟩⟩
    clear hKe HK2 HKk HWp' HWn' HFr HSr HS2
    go_wp2_with fail
    go_loopg [50] 10 (fun m kv wx => ∃ d, d <= 10 /\ m = 10 - d /\ kv = .int .i64 (d : Nat) /\ Hid (KdS zb w0 W2 G M K v0 v1 R ord (fun d ps' => growM R n (Part.longer ⟨qd, qx⟩ d) a1 a2 ps') ps vp d wx))
    case atStart => exact ⟨0, by omega, rfl, rfl, HD0⟩
    case round =>
     obtain ⟨d, hd, rfl, rfl, HK⟩ := hrel
     by_cases hlt : d < 10
     ·have hki2 : (d : Int) < 10 := by omega
      have hki3 : (0 : Int) <= (d : Int) := by omega
      obtain ⟨vp', hgs, hor⟩ := HK.o.gs
      have HGS : Hid (GrS zb w0 wr G M v0 v1 R ord (kidsM (fun d ps' => growM R n (Part.longer ⟨qd, qx⟩ d) a1 a2 ps') d ps).2 vp') := hgs
      have HOR : Hid (vp'.ownBlock = vp.ownBlock \/ ∀ k, vp'.ownBlock = some k -> W2.heap.size <= k) := hor
      have q0 := block_cell (HK.o.fr.whole HW2p.o (HNB.o b (by omega) (by omega))) 0 _ rfl
      have q1 := block_cell (HK.o.fr.whole HW2p.o (HNB.o b (by omega) (by omega))) 1 _ rfl
      have q2 := block_cell (HK.o.fr.whole HKn.o (HNB.o (K + 1) (by omega) (by omega))) 0 _ rfl
      clear hgs hor
      obtain ⟨qd', hqd'⟩ : ∃ x, x = qd + 1 := ⟨_, rfl⟩
      obtain ⟨qx', hqx'⟩ : ∃ x, x = qx * 10 + d := ⟨_, rfl⟩
      have HPQ : Hid (Part.longer ⟨qd, qx⟩ d = ⟨qd', qx'⟩) := by
       show _ = _
       unfold Part.longer
       rw [hqd', hqx']
      have HX' : Hid (qx' < 10 ^ qd' /\ 7 <= n + qd' /\ qd' <= 6) := by
       refine ⟨?_, ?_, by omega⟩
       ·have e : qx < 10 ^ qd := HX.o
        rw [hqd', hqx', Nat.pow_succ]
        omega
       ·have e : 7 <= n + 1 + qd := H7.o
        omega
      have hx6 : qx <= 1000000 := by
       have e : qx < 10 ^ qd := HX.o
       have : 10 ^ qd <= 10 ^ 6 := Nat.pow_le_pow_right (by omega) hq
       omega
      have HLO : Hid (∀ W, F0 wr W -> Calls Tryz.prog 106 #[.agg #[.int .i64 qd, .int .i64 qx], .int .i64 d] W fun e w' => e = .returned (.agg #[.int .i64 qd', .int .i64 qx']) /\ Hid (F0 wr w')) := by
       intro W hW
       have e := longer_any ⟨qd, qx⟩ d W hq hx6 hlt
       refine e.mono ?_
       rintro e w' ⟨rfl, hbel⟩
       rw [HPQ.o]
       exact ⟨rfl, hW.trans (Fr.of_below hbel)⟩
      have HGW : Hid (∀ W, F0 wr W -> Calls Tryz.prog 61 #[.pointer (some ⟨G, 0, none⟩), .agg #[.int .i64 qd', .int .i64 qx'], .int .u64 a1, .int .u64 a2] W (GwPost zb w0 W G M v0 v1 R ord (growM R n (Part.longer ⟨qd, qx⟩ d) a1 a2 (kidsM (fun d ps' => growM R n (Part.longer ⟨qd, qx⟩ d) a1 a2 ps') d ps).2) vp')) := by
       intro W hW
       rw [HPQ.o]
       exact HIH.o ⟨qd', qx'⟩ a1 a2 _ vp' W HX'.o.2.1 HX'.o.2.2 HX'.o.1 ha1 ha2 (HGS.o.keep hW)
      have HSB : Hid (∀ W, Fr (fun k => k = G \/ k = M \/ vp.ownBlock = some k \/ k = K) W2 W -> W.cell? ⟨b, 0, none⟩ = some (.int .i64 qd) /\ W.cell? ⟨b, 1, none⟩ = some (.int .i64 qx) /\ W.cell? ⟨K + 1, 0, none⟩ = some (.pointer (some ⟨K, 0, none⟩))) := fun W hW =>
       ⟨block_cell (hW.whole HW2p.o (HNB.o b (by omega) (by omega))) 0 _ rfl, block_cell (hW.whole HW2p.o (HNB.o b (by omega) (by omega))) 1 _ rfl, block_cell (hW.whole HKn.o (HNB.o (K + 1) (by omega) (by omega))) 0 _ rfl⟩
      clear hqd' hqx' hx6
      go_wp2_with fail
      refine wp_region_held_drew (S := fun W => W.cell? ⟨b, 0, none⟩ = some (.int .i64 qd) /\ W.cell? ⟨b, 1, none⟩ = some (.int .i64 qx) /\ W.cell? ⟨K + 1, 0, none⟩ = some (.pointer (some ⟨K, 0, none⟩))) (by kernel_rfl) ⟨q0, q1, q2⟩ (fun hH => ?_)
      refine htk 0 (v := ?v0z) ?y0z hH ?r0z
      case y0z => intro w hw; obtain ⟨k0, k1, k2⟩ := hw; go_simp; with_reducible rfl
      try go_frame
      refine htk 1 (v := ?v1z) ?y1z hH ?r1z
      case y1z => intro w hw; obtain ⟨k0, k1, k2⟩ := hw; go_simp; with_reducible rfl
      try go_frame
      refine htk 2 (v := ?v2z) ?y2z hH ?r2z
      case y2z => intro w hw; obtain ⟨k0, k1, k2⟩ := hw; go_simp; with_reducible rfl
      try go_frame
      refine htk 3 (v := ?v3z) ?y3z hH ?r3z
      case y3z => intro w hw; obtain ⟨k0, k1, k2⟩ := hw; go_simp; with_reducible rfl
      try go_frame
      refine htk 4 (v := ?v4z) ?y4z hH ?r4z
      case y4z => intro w hw; obtain ⟨k0, k1, k2⟩ := hw; go_simp; with_reducible rfl
      try go_frame
      refine htk 5 (v := ?v5z) ?y5z hH ?r5z
      case y5z => intro w hw; obtain ⟨k0, k1, k2⟩ := hw; go_simp; with_reducible rfl
      try go_frame
      refine htk 7 (v := ?v7z) ?y7z hH ?r7z
      case y7z => intro w hw; obtain ⟨k0, k1, k2⟩ := hw; go_simp; with_reducible rfl
      try go_frame
      refine htk 8 (v := ?v8z) ?y8z hH ?r8z
      case y8z => intro w hw; obtain ⟨k0, k1, k2⟩ := hw; go_simp; with_reducible rfl
      try go_frame
      refine htk 10 (v := ?v10z) ?y10z hH ?r10z
      case y10z => intro w hw; obtain ⟨k0, k1, k2⟩ := hw; go_simp; with_reducible rfl
      try go_frame
      refine wpAnyH_ready (rs := [6]) (by kernel_rfl) (by simp) ?_
      refine held_cons rfl (fun K2 hK => ?_) AllReadyH.nil
      go_simp
      refine (HLO.o _ (Fr.refl _ _).drew).mono ?_
      rintro e wy ⟨rfl, HFY⟩
      refine hK.out _ _ (HSB.o _ (HK.o.fr.trans (HFY.o.mono (by simp)))) (fun hH => ?_)
      clear hK K2
      try go_frame
      refine wpAnyH_ready (rs := [9]) (by kernel_rfl) (by simp) ?_
      refine held_cons rfl (fun K2 hK => ?_) AllReadyH.nil
      go_simp
      refine (HGW.o _ HFY.o).mono ?_
      intro e w8 hp8
      obtain ⟨pp, kk, rfl⟩ : ∃ (pp : Option Addr) (kk : Nat), e = .returned (.agg #[.pointer pp, .int .i64 kk]) := by
       obtain ⟨⟨a, bb, e1, ht⟩, _⟩ := hp8
       obtain ⟨pp, kk, rfl, rfl⟩ := ht.form
       exact ⟨pp, kk, e1⟩
      obtain ⟨hst, ⟨u0, z0⟩, ⟨u1, z1⟩, zf, hf8⟩ := KdS.step HK.o hlt (by omega) (by omega) HGS.o HOR.o HFY.o hp8
      have HST : Hid (KdS zb w0 W2 G M K v0 v1 R ord (fun d ps' => growM R n (Part.longer ⟨qd, qx⟩ d) a1 a2 ps') ps vp (d + 1) ((w8.setCell ⟨K, d * 2, none⟩ (.pointer pp)).setCell ⟨K, d * 2 + 1, none⟩ (.int .i64 kk))) := hst
      have hS8 := HSB.o _ hf8
      have zf0 := zf (d * 2)
      have zf1 := zf (d * 2 + 1)
      have z1' : (w8.setCell ⟨K, d * 2, none⟩ (.pointer pp)).cell? ⟨K, d * 2 + 1, none⟩ = some u1 := by rw [World.cell?_setCell_other _ _ _ _ (by simp)]; exact z1
      have zf1' : (w8.setCell ⟨K, d * 2, none⟩ (.pointer pp)).frozen? ⟨K, d * 2 + 1, none⟩ = false := by simpa using zf1
      clear hst hp8 hf8 zf
      refine hK.out _ _ hS8 (fun hH => ?_)
      clear hK K2
      try go_frame
      refine htk 11 (v := ?v11z) ?y11z hH ?r11z
      case y11z => intro w hw; obtain ⟨k0, k1, k2⟩ := hw; go_simp; with_reducible rfl
      try go_frame
      refine wpAnyH_ready (rs := [12]) (by kernel_rfl) (by simp) ?_
      refine held_cons rfl (fun K2 hK => ?_) AllReadyH.nil
      try rw [if_pos (by rfl)]
      go_simp
      refine hK.out _ _ (HSB.o _ HST.o.fr) (fun _ => ?_)
      clear hK K2
      try go_frame
      refine wpAnyH_done (by kernel_rfl) ?_ _
      go_wp2_with fail
      go_roundg (10 - (d + 1))
      case measure => omega
      case rel => exact ⟨d + 1, by omega, rfl, by go_num, HST⟩
     ·have hde : d = 10 := by omega
      subst hde
      have hbn := HK.o.fr.whole HW2n.o (HNB.o (b + 1) (by omega) (by omega))
      have hkn := HK.o.fr.whole HKn.o (HNB.o (K + 1) (by omega) (by omega))
      have y0 := block_cell hbn 0 _ rfl
      have y1 := block_cell hbn 1 _ rfl
      have yf0 := block_frozen hbn 0
      have yf1 := block_frozen hbn 1
      have n0 := block_cell hkn 0 _ rfl
      have n1 := block_cell hkn 1 _ rfl
      have HFIN : Hid (GwPost zb w0 w G M v0 v1 R ord (growM R (n + 1) ⟨qd, qx⟩ met op ps) vp (.returned (.agg #[.pointer (some ⟨K, 0, none⟩), .int .i64 0])) ((wr.setCell ⟨b + 1, 0, none⟩ (.pointer (some ⟨K, 0, none⟩))).setCell ⟨b + 1, 1, none⟩ (.int .i64 0))) := by
       have hS : Fr (fun k => k = b + 1) wr ((wr.setCell ⟨b + 1, 0, none⟩ (.pointer (some ⟨K, 0, none⟩))).setCell ⟨b + 1, 1, none⟩ (.int .i64 0)) := ((Fr.refl (fun k => k = b + 1) wr).setCell (p := ⟨b + 1, 0, none⟩) (Or.inl rfl) _).setCell (p := ⟨b + 1, 1, none⟩) (Or.inl rfl) _
       have hT : growM R (n + 1) ⟨qd, qx⟩ met op ps = (.node (kidsM (fun d ps' => growM R n (Part.longer ⟨qd, qx⟩ d) a1 a2 ps') 10 ps).1, (kidsM (fun d ps' => growM R n (Part.longer ⟨qd, qx⟩ d) a1 a2 ps') 10 ps).2) := by
        rw [growM, HSI.o, if_neg hz]
       rw [hT]
       obtain ⟨vp', hgs, hor⟩ := HK.o.gs
       obtain ⟨cs, hc, hcs, hk⟩ := HK.o.ar
       have hwb := HB.o
       refine ⟨⟨_, _, rfl, ⟨K, cs, rfl, by omega, hS.whole hc (by omega), hcs, fun j hj => ?_⟩⟩, ⟨vp', hgs.wrote hS ?_, ?_⟩, ?_⟩
       ·obtain ⟨x, y, e1, e2, e3⟩ := hk j hj
        exact ⟨x, y, e1, e2, TrAt.low (by omega) _ _ (e3.keep' hS (fun K' hl => by omega))⟩
       ·rintro k rfl
        exact ⟨by omega, _, _, hbn, Or.inl rfl⟩
       ·rcases hor with e | e
        ·exact Or.inl e
        ·exact Or.inr fun k hk => Nat.le_trans HF2.o.size (e k hk)
       ·have f1 : Fr (fun k => k = G \/ k = M \/ vp.ownBlock = some k) w wr := by
         refine Fr.monoNew (S := fun k => k = G \/ k = M \/ vp.ownBlock = some k) (HF2.o.mono (by simp)) HK.o.fr ?_
         rintro k (e | e | e | e)
         ·exact Or.inl (Or.inl e)
         ·exact Or.inl (Or.inr (Or.inl e))
         ·exact Or.inl (Or.inr (Or.inr e))
         ·exact Or.inr (by omega)
        exact f1.monoNew hS (fun k hk => Or.inr (by omega))
      rw [HP.o] at HFIN
      clear hbn hkn
      go_wp2_with fail
      obtain ⟨s0, s1⟩ : ((wr.setCell ⟨b + 1, 0, none⟩ (.pointer (some ⟨K, 0, none⟩))).setCell ⟨b + 1, 1, none⟩ (.int .i64 0)).cell? ⟨b + 1, 0, none⟩ = some (.pointer (some ⟨K, 0, none⟩)) /\ ((wr.setCell ⟨b + 1, 0, none⟩ (.pointer (some ⟨K, 0, none⟩))).setCell ⟨b + 1, 1, none⟩ (.int .i64 0)).cell? ⟨b + 1, 1, none⟩ = some (.int .i64 0) := by
       constructor
       ·rw [World.cell?_setCell_other _ _ _ _ (by simp)]; exact World.cell?_setCell_same _ _ _ y0
       ·exact World.cell?_setCell_same _ _ _ (by rw [World.cell?_setCell_other _ _ _ _ (by simp)]; exact y1)
      refine bodyPost_ret (v := .agg #[.pointer (some ⟨K, 0, none⟩), .int .i64 0]) (by simp [results, Tryz.results61, go_sem, s0, s1]) rfl HFIN.o
theorem grow_any {zb : Nat} (w0 : World) (G M : Nat) (v0 v1 : Value) (R : List RuleM) (ord : Nat -> Nat) (hM : M < w0.heap.size) (hG : G < w0.heap.size) (hn8 : R.length <= 8) (ho : ∀ k, k < R.length -> ord k < R.length) (hR : ∀ r, r ∈ R -> r.mcc.length <= 4000 /\ r.cur.length <= 4000) (hB : ∀ r, r ∈ R -> BinOk r /\ r.lo <= 1000000) :
  ∀ (n : Nat) (q : Part) (met op : Nat) (ps : List Nat) (vp : Value) (w : World), 7 <= n + q.d -> q.d <= 6 -> q.x < 10 ^ q.d -> met < 256 -> op < 256 -> GrS zb w0 w G M v0 v1 R ord ps vp -> Calls Tryz.prog 61 #[.pointer (some ⟨G, 0, none⟩), partV q, .int .u64 met, .int .u64 op] w (GwPost zb w0 w G M v0 v1 R ord (growM R n q met op ps) vp)
 | 0, _, _, _, _, _, _, h7, hq, _, _, _, _ => by omega
 | n + 1, q, met, op, ps, vp, w, h7, hq, hx, hm, hop, h => grow_step w0 G M v0 v1 R ord hM hG hn8 ho hR hB n (grow_any w0 G M v0 v1 R ord hM hG hn8 ho hR hB n) q met op ps vp w h7 hq hx hm hop h
end Go.Proofs.YtccikgogjfbpeabGreatDoor

namespace Go.Proofs.YtccikgogjfbpeabGreatDoor
open Go.RowKit Go.Maps
structure Gr1 (w : World) (va : Option Addr) (n c : Nat) (ord : Nat -> Nat) (G M : Nat) (oa : Option Addr) (oc : Nat) (w1 : World) : Prop where
 fr : F0 w w1
 bx : w1.heap[G]? = some (.cells #[.slice va n c, .slice oa n oc, .slice none 0 0, .map (some M)] 128)
 mp : w1.heap[M]? = some (.map #[] 0)
 od : ∀ k, k < n -> ∃ og, oa = some ⟨og, 0, none⟩ /\ og < w1.heap.size /\ og ≠ G /\ og ≠ M /\ w1.cell? ⟨og, k, none⟩ = some (.int .i64 (ord k))
 lo : w.heap.size <= G /\ w.heap.size <= M
theorem Gr1.start {zb : Nat} {w wc wr : World} {va : Option Addr} {c : Nat} {ord : Nat -> Nat} {G M : Nat} {oa : Option Addr} {oc : Nat} {R : List RuleM} (h : Gr1 w va R.length c ord G M oa oc wc) (hf : F0 wc wr) (hz : zb <= w.heap.size)
    (hrl : ∀ i r, R[i]? = some r -> ∃ g ma mc ca cc pa pc, va = some ⟨g, 0, none⟩ /\ g < w.heap.size /\
      (∀ o v, [Value.string r.name, .int .i64 r.rank, .int .i64 r.digits, .int .i64 r.lo, .int .i64 r.hi, .slice ma r.mcc.length mc, .bool r.am.isSome, .int .i64 (r.am.getD (0, 0)).1, .int .i64 (r.am.getD (0, 0)).2, .slice ca r.cur.length cc, .bool r.decline, .bool r.cheapest, .slice pa r.routes.length pc, .int .i64 r.ahead][o]? = some v -> w.cell? ⟨g, i * 14 + o, none⟩ = some v) /\
      w.ownsRow zb 3 1 (.slice ma r.mcc.length mc) r.mcc.length (intRow r.mcc) /\ w.ownsRow zb 3 1 (.slice ca r.cur.length cc) r.cur.length (intRow r.cur) /\ w.ownsRow zb 3 1 (.slice pa r.routes.length pc) r.routes.length (intRow r.routes)) :
    GrS zb wr wr G M (.slice va R.length c) (.slice oa R.length oc) R ord [] (.slice none 0 0) /\ G < wr.heap.size /\ M < wr.heap.size := by
  have f := h.fr.trans hf
  have hlo := h.lo
  have hbx := hf.whole h.bx (by simp)
  have hmb := hf.whole h.mp (by simp)
  refine ⟨⟨⟨Nat.le_trans hz f.size, ⟨va, c, rfl, fun i r hi => ?_⟩, ⟨oa, oc, rfl, fun k hk => ?_⟩⟩, Fr.refl _ _, hbx, ⟨.map [], ?_, ⟨isMap_empty, fun m _ => ⟨by simp [Maps.has_eq], by simp⟩⟩⟩, ⟨[], World.ownsRow_nil _ _ _ _, by simp⟩, by simp, by simp⟩, (Array.getElem?_eq_some_iff.1 hbx).1, (Array.getElem?_eq_some_iff.1 hmb).1⟩
  · obtain ⟨g, ma, mc, ca, cc, pa, pc, e1, e2, e3, e4, e5, e6⟩ := hrl i r hi
    have far : ∀ k, k < w.heap.size -> ¬ (k = G \/ k = M) := fun k hk => by omega
    exact ⟨g, ma, mc, ca, cc, pa, pc, e1, Nat.lt_of_lt_of_le e2 f.size, far g e2, fun o v ho => (f.cell (p := ⟨g, i * 14 + o, none⟩) e2 (by simp)).trans (e3 o v ho), ⟨ownsRow_fr e4 f (by simp), fun k hk => far k (e4.lt k hk).2⟩, ⟨ownsRow_fr e5 f (by simp), fun k hk => far k (e5.lt k hk).2⟩, ⟨ownsRow_fr e6 f (by simp), fun k hk => far k (e6.lt k hk).2⟩⟩
  · obtain ⟨og, e1, e2, e3, e4, e5⟩ := h.od k hk
    exact ⟨og, e1, Nat.lt_of_lt_of_le e2 hf.size, by omega, (hf.cell (p := ⟨og, k, none⟩) e2 (by simp)).trans e5⟩
  · obtain ⟨es, ck, h1, h2, h3, h4⟩ := World.ownsMap_made (H := Unit) wr Tryz.prog 133 (plainElem Tryz.prog 3)
    rw [heap_alloc_new] at h1
    injection h1 with h1
    injection h1 with a1 a2
    subst a1 a2
    exact ⟨#[], 0, hmb, h2, h3, h4⟩
structure TreeAt (zb : Nat) (w : World) (T : Nat) (vr : Value) (R : List RuleM) (ord : Nat -> Nat) : Prop where
 tz : zb <= T
 bx : ∃ vn vp a b, w.heap[T]? = some (.cells #[vr, vn, vp, a, b] 92) /\ w.ownsRow zb 9 1 vn R.length ((R.map RuleM.name).map Value.string) /\ (∃ xs, w.ownsRow zb 101 1 vp (growM R 7 ⟨0, 0⟩ 0 (2 ^ R.length - 1) []).2.length xs /\ ∀ (j m : Nat), (growM R 7 ⟨0, 0⟩ 0 (2 ^ R.length - 1) []).2[j]? = some m -> ∃ vj, xs[j]? = some vj /\ StRow zb w zb vj (writeM R m (ordL R.length ord))) /\ TrAt w zb (growM R 7 ⟨0, 0⟩ 0 (2 ^ R.length - 1) []).1 (.agg #[a, b])
theorem stRow_low {zb : Nat} {w w' : World} {S : Nat -> Prop} {base : Nat} {v : Value} {l : List StepM} (h : StRow zb w base v l) (hb : zb <= base) (hf : Fr S w w') (hS : ∀ k, S k -> k < zb) : StRow zb w' base v l := by
 obtain ⟨xs, h1, h2⟩ := h
 exact ⟨xs, ownsRow_fr h1 hf (fun k hk => Nat.lt_of_lt_of_le (hS k hk) hb), h2.keep (fun v n ys hv => ownsRow_fr hv hf hS)⟩
theorem TreeAt.fr {zb : Nat} {w w' : World} {S : Nat -> Prop} {T : Nat} {vr : Value} {R : List RuleM} {ord : Nat -> Nat} (h : TreeAt zb w T vr R ord) (hf : Fr S w w') (hS : ∀ k, S k -> k < zb) : TreeAt zb w' T vr R ord := by
 have hz := h.tz
 obtain ⟨vn, vp, a, b, h1, h2, ⟨xs, h3, h4⟩, h5⟩ := h.bx
 refine ⟨hz, vn, vp, a, b, hf.whole h1 (fun e => by have := hS T e; omega), ownsRow_fr h2 hf hS, ⟨xs, ownsRow_fr h3 hf hS, fun j m hj => ?_⟩, h5.keep' hf (fun K hK e => by have := hS K e; omega)⟩
 obtain ⟨vj, e1, e2⟩ := h4 j m hj
 exact ⟨vj, e1, stRow_low e2 (Nat.le_refl _) hf hS⟩
theorem tree_end {zb : Nat} {w wc wr w8 : World} {T G M : Nat} {va vr v0 v1 vn vp : Value} {R : List RuleM} {ord : Nat -> Nat} {l : List ByteArray} {pp : Option Addr} {kk : Nat}
  (hz : zb <= w.heap.size) (hf0 : F0 w wc) (hT : wc.heap.size = T) (hG : w.heap.size <= G) (hM : w.heap.size <= M) (hl : R.map RuleM.name = l) (hf1 : F0 wc wr) (hb : wr.heap[T]? = some (.cells #[vr, vn, .slice none 0 0, .pointer none, .int .i64 0] 92)) (hn : wr.ownsRow (T + 1) 9 1 vn l.length (l.map Value.string))
  (hs : GrS zb wr wr G M v0 v1 R ord [] va) (hva : va.ownBlock = none) (hTG : T ≠ G) (hTM : T ≠ M)
  (ht : TrAt w8 wr.heap.size (growM R 7 ⟨0, 0⟩ 0 (2 ^ R.length - 1) []).1 (.agg #[.pointer pp, .int .i64 kk])) (hg : GrS zb wr w8 G M v0 v1 R ord (growM R 7 ⟨0, 0⟩ 0 (2 ^ R.length - 1) []).2 vp) (hf8 : Fr (fun k => k = G \/ k = M \/ va.ownBlock = some k) wr w8) :
  w.heap.size <= T /\ TreeAt zb (((w8.setCell ⟨T, 3, none⟩ (.pointer pp)).setCell ⟨T, 4, none⟩ (.int .i64 kk)).setCell ⟨T, 2, none⟩ vp) T vr R ord /\ F0 w (((w8.setCell ⟨T, 3, none⟩ (.pointer pp)).setCell ⟨T, 4, none⟩ (.int .i64 kk)).setCell ⟨T, 2, none⟩ vp) := by
 have hTw : T < wr.heap.size := (Array.getElem?_eq_some_iff.1 hb).1
 have hwT : w.heap.size <= T := by have := hf0.size; omega
 have hb8 := hf8.whole hb (by rintro (e | e | e) <;> first | exact hTG e | exact hTM e | (rw [hva] at e; cases e))
 have f9 : Fr (fun k => k = T) w8 (((w8.setCell ⟨T, 3, none⟩ (.pointer pp)).setCell ⟨T, 4, none⟩ (.int .i64 kk)).setCell ⟨T, 2, none⟩ vp) := (((Fr.refl (fun k => k = T) w8).setCell (p := ⟨T, 3, none⟩) (Or.inl rfl) _).setCell (p := ⟨T, 4, none⟩) (Or.inl rfl) _).setCell (p := ⟨T, 2, none⟩) (Or.inl rfl) _
 have e1 := heap_setCell_same w8 T 3 _ _ (.pointer pp) hb8
 have e2 := heap_setCell_same _ T 4 _ _ (.int .i64 kk) e1
 have e3 := heap_setCell_same _ T 2 _ _ vp e2
 obtain ⟨D, ⟨es, ck, hm, _⟩, _⟩ := hs.mp
 obtain ⟨xs, hp1, hp2⟩ := hg.pg
 refine ⟨hwT, ⟨by omega, vn, vp, .pointer pp, .int .i64 kk, ?_, ?_, ⟨xs, ?_, fun j m hj => ?_⟩, ?_⟩, ?_⟩
 ·simpa using e3
 ·have n8 := ownsRow_avoid hn hf8 (by
   rintro k hk (e | e | e)
   ·subst e
    exact own_ne_block hn hs.bx (by decide) hk
   ·subst e
    exact own_ne_map hn hm hk
   ·rw [hva] at e
    cases e)
  have n9 := ownsRow_base (base := T + 1) (ownsRow_fr n8 f9 (fun k hk => by omega)) (show zb <= T + 1 by omega)
  rw [<- hl, List.length_map] at n9
  exact n9
 ·exact ownsRow_base (base := wr.heap.size) (ownsRow_fr hp1 f9 (fun k hk => by omega)) (by omega)
 ·obtain ⟨vj, a1, a2⟩ := hp2 j m hj
  refine ⟨vj, a1, stRow_keep a2 f9 ?_⟩
  rintro e s v n ys he hr k hk rfl
  exact own_ne_block hr hb8 (by rcases he with rfl | rfl <;> decide) hk
 ·exact TrAt.low (show zb <= wr.heap.size by omega) _ _ (ht.keep' f9 (fun K hK => by omega))
 ·exact (((hf0.trans hf1).monoNew hf8 (by
   rintro k (e | e | e)
   ·exact Or.inr (by omega)
   ·exact Or.inr (by omega)
   ·rw [hva] at e
    cases e))).monoNew f9 (fun k hk => Or.inr (by omega))
end Go.Proofs.YtccikgogjfbpeabGreatDoor
