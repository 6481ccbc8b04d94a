import Derived.Test.YtccikgogjfbpeaaGreatDoorNc
import Derived.Laws.CopyOwn
namespace Go.Proofs.YtccikgogjfbpeaaGreatDoor
set_option maxRecDepth 30000
set_option maxHeartbeats 8000000
open Go.RowKit
def AlAt (w : World) (A : Nat) (dl : List ByteArray) : Prop :=
 ∃ cs : Array Value, w.heap[A]? = some (.cells cs 9) /\ cs.size = dl.length + 2 /\ (∀ (k : Nat) (s : ByteArray), dl[k]? = some s -> cs[k]? = some (Value.string s)) /\ cs[dl.length]? = some (Value.string ⟨#[98, 101, 104, 105, 110, 100]⟩) /\ cs[dl.length + 1]? = some (Value.string ⟨#[105, 116]⟩)
theorem AlAt.fr {w w' : World} {S : Nat -> Prop} {A : Nat} {dl : List ByteArray} (h : AlAt w A dl) (hf : Fr S w w') (hS : ¬ S A) : AlAt w' A dl := by
 obtain ⟨cs, h1, h2⟩ := h;exact ⟨cs, hf.whole h1 hS, h2⟩
theorem AlAt.strs {w : World} {A : Nat} {dl : List ByteArray} (h : AlAt w A dl) : StrsAt w (some ⟨A, 0, none⟩) dl := by
 intro k s hs;obtain ⟨cs, h1, _, h3, _⟩ := h;exact ⟨A, 0, rfl, by rw [Nat.zero_add]; exact bC h1 k _ (h3 k s hs)⟩
theorem AlAt.row {w : World} {A L : Nat} {dl : List ByteArray} (h : AlAt w A dl) (hL : L < A) (hn : dl.length + 2 <= maxLen) : ∃ ys, w.ownsRow (L + 1) 9 1 (.slice (some ⟨A, 0, none⟩) (dl.length + 2) (dl.length + 2)) (dl.length + 2) ys := by
 obtain ⟨cs, h1, h2, _⟩ := h;exact ⟨cs.toList, by simp [h2], .inr ⟨A, dl.length + 2, cs, rfl, hL, h1, Nat.le_refl _, hn, by omega, by rw [List.take_of_length_le (by simp [h2])]⟩⟩
theorem AlAt.lay {W : World} {A : Nat} {dl : List ByteArray} {cur : List Value} (h : W.heap[A]? = some (.cells (splice cur 0 (dl.map Value.string)).toArray 9)) (hl : cur.length = dl.length + 2) :
  AlAt ((W.setCell ⟨A, dl.length, none⟩ (.string ⟨#[98, 101, 104, 105, 110, 100]⟩)).setCell ⟨A, dl.length + 1, none⟩ (.string ⟨#[105, 116]⟩)) A dl /\ (∃ u, W.cell? ⟨A, dl.length, none⟩ = some u) /\ W.frozen? ⟨A, dl.length, none⟩ = false /\ (∃ u, (W.setCell ⟨A, dl.length, none⟩ (.string ⟨#[98, 101, 104, 105, 110, 100]⟩)).cell? ⟨A, dl.length + 1, none⟩ = some u) /\ (W.setCell ⟨A, dl.length, none⟩ (.string ⟨#[98, 101, 104, 105, 110, 100]⟩)).frozen? ⟨A, dl.length + 1, none⟩ = false := by
 obtain ⟨cs, hcs⟩ : ∃ cs, (splice cur 0 (dl.map Value.string)).toArray = cs := ⟨_, rfl⟩
 have hsz : cs.size = dl.length + 2 := by rw [<- hcs]; simp [splice, hl]
 have hat : ∀ (k : Nat) (s : ByteArray), dl[k]? = some s -> cs[k]? = some (Value.string s) := fun k s hk => by
  have := (iG.1 hk).1;rw [<- hcs];simp [splice, List.getElem?_append, this];exact (iG.1 hk).2
 rw [hcs] at h;have h1 := heap_setCell_same W A dl.length _ _ (.string ⟨#[98, 101, 104, 105, 110, 100]⟩) h;have h2 := heap_setCell_same _ A (dl.length + 1) _ _ (.string ⟨#[105, 116]⟩) h1;refine ⟨⟨_, h2, by simp [hsz], fun k s hk => ?_, ?_, ?_⟩, ⟨_, bC h _ _ (Array.getElem?_eq_getElem (by omega))⟩, bF h _, ⟨_, bC h1 _ _ (Array.getElem?_eq_getElem (by simp; omega))⟩, bF h1 _⟩
 ·have := (iG.1 hk).1
  rw [Array.getElem?_setIfInBounds_ne (by omega), Array.getElem?_setIfInBounds_ne (by omega)];exact hat k s hk
 ·rw [Array.getElem?_setIfInBounds_ne (by omega), Array.getElem?_setIfInBounds_self_of_lt (by omega)]
 ·rw [Array.getElem?_setIfInBounds_self_of_lt (by simp; omega)]
def outO (o : Nat × ByteArray × ByteArray) : Obj := .cells #[.int .i64 (o.1 : Nat), .string o.2.1, .string o.2.2] 38
theorem TabAt.both {w W : World} {a X : Nat} (h : TabAt w a X) (p : PayM) (hs : p.pan.size <= maxLen) (hF : F0 w W) : ∃ T q, ∃ dec : List ByteArray -> Nat × ByteArray × ByteArray,
  W.cell? ⟨X, 0, none⟩ = some (.pointer (some ⟨T, 0, none⟩)) /\ W.cell? ⟨X, 1, none⟩ = some (.pointer (some ⟨q, 0, none⟩)) /\
  (∀ W' da c l, F0 W W' -> StrsAt W' da l -> l.length <= maxLen -> Calls Tryz.prog 19 #[.pointer (some ⟨T, 0, none⟩), payV p, .slice da l.length c] W' fun e w' => e = .returned (outV (dec l)) /\ F0 W' w') /\
  (∀ W' da c l, F0 W W' -> StrsAt W' da l -> l.length <= maxLen -> Calls Tryz.prog 56 #[.pointer (some ⟨q, 0, none⟩), payV p, .slice da l.length c] W' fun e w' => e = .returned (outV (dec l)) /\ F0 W' w') := by
 obtain ⟨T, q, Bb, TT, vr, vl, rts, rls, xs, body, h1, h2, h3, h4, k4, h5, h6, k6, h7, h8⟩ := h.fr hF (by simp);obtain ⟨ra, rc, e⟩ := oL h6.ro;subst e;refine ⟨T, q, fun l => decM rts rls p (dnF rts l), bC h2 0 _ rfl, bC h2 1 _ rfl, fun W' da c l hf hst hl => ?_, fun W' da c l hf hst hl => ?_⟩
 ·exact Decide_any W' a T TT rts rls ra rc da c l p ⟨(hf.cell (p := ⟨T, 1, none⟩) (bL W _ k4) (by simp)).trans k4, k6.fr hf (by simp), oS (oF h6.ro hf (by simp)) (Nat.zero_le _), h7, hst, hl⟩ hs
 ·exact rDecide_any W' q rts rls da c l p ((RfAt.of h8).fr hf) h7 hs hst hl
theorem decides_any (w : World) (L : Nat) (v : Value) (xs : List Value) (nv mv : Value) (cnt : Nat) (es : List NmE) (X a : Nat) (k on : Int) (s : ByteArray) (p : PayM) (da : Option Addr) (dl : List ByteArray) (dc : Nat) (up : Bool)
  (h : DSt w L v xs nv mv cnt es) (hx : TabAt w a X) (hd : StrsAt w da dl) (hs : p.pan.size <= maxLen) (hc : cnt <= 4611686018427387904) (hE : (es.length + 4) * 24 <= 140737488355328) (hN : (dl.length + 6) * 16 <= 140737488355328) :
  Calls Tryz.prog 46 #[.pointer (some ⟨L, 0, none⟩), .pointer (some ⟨X, 0, none⟩), opV k on s p.pan p.mcc p.am p.cur da dl.length dc up] w fun e w' => e = .returned (.bool true) /\ (∃ nv' mv' es', DSt w' L v xs nv' mv' (cnt + 1) es' /\ es'.length = es.length + 4 /\ ∀ e, e ∈ es' -> e ∈ es \/ e.n <= 8796093022208) /\ Fr (fun k => k = L \/ nv.ownBlock = some k \/ mv.ownBlock = some k) w w' := by
 obtain ⟨ij, hj', hy0, hy1, hy2⟩ := info_parts Tryz.infoStrN;have HS : Hid (DSt w L v xs nv mv cnt es) := h;have HX : Hid (TabAt w a X) := hx;have HD : Hid (StrsAt w da dl) := hd;have HB : Hid (cnt <= 4611686018427387904 /\ (es.length + 4) * 24 <= 140737488355328 /\ (dl.length + 6) * 16 <= 140737488355328 /\ p.pan.size <= maxLen) := ⟨hc, hE, hN, hs⟩;have hLw : L < w.heap.size := (iA.1 h.bx).1;obtain ⟨dn, hdn⟩ : ∃ dn, dl.length = dn := ⟨_, rfl⟩;have HDN : Hid (dl.length = dn) := hdn
 have hdb : dn <= 8796093022202 := by omega
 have HF0 : Hid (F0 w (w.alloc (opCells k on s p.pan p.mcc p.am p.cur da dn dc up))) := (Fr.refl _ _).alloc _;have HP0 : Hid ((w.alloc (opCells k on s p.pan p.mcc p.am p.cur da dn dc up)).heap[w.heap.size]? = some (opCells k on s p.pan p.mcc p.am p.cur da dn dc up)) := aN w _;unfold opCells at HF0 HP0;unfold opV;rw [hdn];clear h hx hd hs hc hE hN hdn;go_enter Tryz.func46, Tryz.ntmps46;go_upto_region 1 with fail;generalize w.alloc (.cells #[.int .i64 k, .int .i64 on, .string s, .string p.pan, .int .i64 p.mcc, .int .i64 p.am, .int .i64 p.cur, .slice da dn dc, .bool up] 62) = W0 at *;obtain ⟨P, hP⟩ : ∃ P, w.heap.size = P := ⟨_, rfl⟩;have HPe : Hid (w.heap.size = P /\ L < P) := ⟨hP, by omega⟩;rw [hP] at HP0;rw [hP];have x7 : W0.cell? ⟨P, 7, none⟩ = some (.slice da dn dc) := bC HP0.o 7 _ rfl;have hmk := run_make (P := Tryz.prog) W0 28 9 ij _ Tryz.underlying28 hj' hy0 .i64 .i64 ((dn : Int) + 2) ((dn : Int) + 2) (by omega) (by omega) (by rw [hy2]; omega) (by omega);rw [show ((dn : Int) + 2).toNat = dn + 2 from by omega, hy1, Nat.mul_one] at hmk
 have hdi : (dn : Int) <= 8796093022202 := by omega
 obtain ⟨cur, hcur⟩ : ∃ cur, (madeCells (Value.string ByteArray.empty).cells (dn + 2)).toList = cur := ⟨_, rfl⟩
 have HCL : Hid (cur.length = dn + 2) := by show _ = _; rw [<- hcur, Array.length_toList, size_madeCells]
 rw [show madeCells (Value.string ByteArray.empty).cells (dn + 2) = cur.toArray from by rw [<- hcur, Array.toArray_toList]] at hmk;obtain ⟨A, hA⟩ : ∃ A, W0.heap.size = A := ⟨_, rfl⟩;have HA : Hid (W0.heap.size = A) := hA
 have HB1 : Hid ((W0.alloc (.cells cur.toArray 9)).heap[A]? = some (.cells cur.toArray 9)) := by rw [<- hA]; exact aN W0 _
 have HBl1 : Hid (Below A W0 (W0.alloc (.cells cur.toArray 9))) := (Below.refl _ _).alloc (Nat.le_of_eq hA.symm) _
 have hPA : P < A := by rw [<- hA]; exact (iA.1 HP0.o).1
 have HPA : Hid (P < A) := hPA;rw [hA] at hmk;generalize W0.alloc (.cells cur.toArray 9) = W1 at *;have y7 : W1.cell? ⟨P, 7, none⟩ = some (.slice da dn dc) := bC ((HBl1.o.block P hPA).trans HP0.o) 7 _ rfl;clear hP hA hcur hLw hPA
 obtain ⟨W2, hcp, hG2, hB2⟩ : ∃ W2, (Builtin.copy_ #[28, 28] 3 #[.slice (some ⟨A, 0, none⟩) (dn + 2) (dn + 2), .slice da dn dc]).run Tryz.prog W1 = .ok (goInt dn) W2 /\ W2.heap[A]? = some (.cells (splice cur 0 (dl.map Value.string)).toArray 9) /\ Below A W0 W2 := by
  have hmin : Nat.min dn (dn + 2) = dn := Nat.min_eq_left (by omega);by_cases h0 : dn = 0
  ·have hdl : dl = [] := List.eq_nil_of_length_eq_zero (HDN.o.trans h0)
   refine ⟨W1, ?_, ?_, HBl1.o⟩
   ·rw [run_copy_none (P := Tryz.prog) W1 28 28 3 9 _ _ _ _ _ _ Tryz.underlying28 (by kernel_rfl) (by rw [hmin]; exact h0), h0]
    rfl
   ·rw [hdl, HB1.o]
    simp [splice]
  ·obtain ⟨g, o, e1, _⟩ := HD.o 0 _ (gE (by have := HDN.o; omega))
   subst e1
   have hcl : (dl.map Value.string).length = dn := by rw [List.length_map, HDN.o]
   have hr := run_copy_row (P := Tryz.prog) W1 28 28 3 9 A 0 (dn + 2) (dn + 2) ⟨g, o, none⟩ dn dc cur.toArray 9 (dl.map Value.string) Tryz.underlying28 (by kernel_rfl) HB1.o (by rw [hmin]; exact hcl) (fun j v hj => ?_) (by rw [hcl]; have := HCL.o; simp; omega) (fun v hv => by obtain ⟨s', _, rfl⟩ := List.mem_map.1 hv; rfl)
   ·rw [hcl] at hr
    refine ⟨_, hr, ?_, below_setRow HBl1.o (Nat.le_refl _) _⟩;rw [setRow_heap _ _ _ _ _ _ HB1.o];simp [splice, HDN.o]
   ·rw [List.getElem?_map] at hj
    cases hd : dl[j]? with
    | none => rw [hd] at hj; cases hj
    | some s' =>
     rw [hd] at hj;injection hj with hj;subst hj;obtain ⟨g', o', e2, e3⟩ := HD.o j _ hd;injection e2 with e2;injection e2 with e2 e4 _;subst e2 e4;rw [addr_add];have f1 := (HF0.o.cell (p := ⟨g, o + j, none⟩) (bL w _ e3) (by simp)).trans e3;have hgl : g < W0.heap.size := bL W0 _ f1;exact (HBl1.o.cell (p := ⟨g, o + j, none⟩) (by have := HA.o; show g < A; omega)).trans f1
 obtain ⟨hal, ⟨u4, hu4⟩, hf4, ⟨u5, hu5⟩, hf5⟩ := AlAt.lay hG2 (by rw [HDN.o, HCL.o]);rw [HDN.o] at hal hu4 hf4 hu5 hf5;have hF3 : F0 W0 ((W2.setCell ⟨A, dn, none⟩ (.string ⟨#[98, 101, 104, 105, 110, 100]⟩)).setCell ⟨A, dn + 1, none⟩ (.string ⟨#[105, 116]⟩)) := ((Fr.of_below (by rw [HA.o]; exact hB2)).setCell (p := ⟨A, dn, none⟩) (Or.inr (by have := HA.o; show _ <= A; omega)) _).setCell (p := ⟨A, dn + 1, none⟩) (Or.inr (by have := HA.o; show _ <= A; omega)) _;have HAL : Hid (AlAt ((W2.setCell ⟨A, dn, none⟩ (.string ⟨#[98, 101, 104, 105, 110, 100]⟩)).setCell ⟨A, dn + 1, none⟩ (.string ⟨#[105, 116]⟩)) A dl) := hal;have HF3 : Hid (F0 w ((W2.setCell ⟨A, dn, none⟩ (.string ⟨#[98, 101, 104, 105, 110, 100]⟩)).setCell ⟨A, dn + 1, none⟩ (.string ⟨#[105, 116]⟩))) := HF0.o.trans hF3;have HP3 : Hid (((W2.setCell ⟨A, dn, none⟩ (.string ⟨#[98, 101, 104, 105, 110, 100]⟩)).setCell ⟨A, dn + 1, none⟩ (.string ⟨#[105, 116]⟩)).heap[P]? = some (.cells #[.int .i64 k, .int .i64 on, .string s, .string p.pan, .int .i64 p.mcc, .int .i64 p.am, .int .i64 p.cur, .slice da dn dc, .bool up] 62)) := hF3.whole HP0.o (by simp);clear hal hF3 hB2 hG2 HB1 HBl1 HP0 HF0 HCL;go_upto_region 6 with fail;clear x7 y7 hu4 hf4 hu5 hf5 hmk hcp;generalize (W2.setCell ⟨A, dn, none⟩ (.string ⟨#[98, 101, 104, 105, 110, 100]⟩)).setCell ⟨A, dn + 1, none⟩ (.string ⟨#[105, 116]⟩) = W3 at *;clear u4 u5 W1 W2;obtain ⟨T, q, dec, hX0, hX1, hDa, hDb⟩ := HX.o.both p HB.o.2.2.2 HF3.o;obtain ⟨out, hout⟩ : ∃ out, dec dl = out := ⟨_, rfl⟩
 have HAs : Hid (∀ W, F0 W3 W -> W.cell? ⟨A, dn, none⟩ = some (.string ⟨#[98, 101, 104, 105, 110, 100]⟩) /\ W.cell? ⟨A, dn + 1, none⟩ = some (.string ⟨#[105, 116]⟩)) := fun W hf => by
  obtain ⟨cs, c1, c2, c3, c4, c5⟩ := HAL.o.fr hf (by simp);rw [HDN.o] at c4 c5;exact ⟨bC c1 _ _ c4, bC c1 _ _ c5⟩
 have HSt : Hid (∀ W, F0 W3 W -> ∀ (i : Nat), i < dn -> ∃ s g o, da = some ⟨g, o, none⟩ /\ W.cell? ⟨g, o + i, none⟩ = some (.string s) /\ W.cell? ⟨A, i, none⟩ = some (.string s)) := fun W hf i hi => by
  have hi' : i < dl.length := by have := HDN.o; omega
  have hg := gE hi';obtain ⟨g, o, e1, e2⟩ := (HD.o.fr (HF3.o.trans hf) (by simp)) i _ hg;obtain ⟨cs, c1, c2, c3, _⟩ := HAL.o.fr hf (by simp);exact ⟨_, g, o, e1, e2, bC c1 _ _ (c3 i _ hg)⟩
 have HSP : Hid (∀ W, F0 W3 W -> W.cell? ⟨X, 0, none⟩ = some (.pointer (some ⟨T, 0, none⟩)) /\ W.cell? ⟨X, 1, none⟩ = some (.pointer (some ⟨q, 0, none⟩)) /\ W.cell? ⟨P, 3, none⟩ = some (.string p.pan) /\ W.cell? ⟨P, 4, none⟩ = some (.int .i64 p.mcc) /\ W.cell? ⟨P, 5, none⟩ = some (.int .i64 p.am) /\ W.cell? ⟨P, 6, none⟩ = some (.int .i64 p.cur) /\ W.cell? ⟨P, 7, none⟩ = some (.slice da dn dc)) := fun W hf => by
  have e := hf.whole HP3.o (by simp);exact ⟨(hf.cell (p := ⟨X, 0, none⟩) (bL W3 _ hX0) (by simp)).trans hX0, (hf.cell (p := ⟨X, 1, none⟩) (bL W3 _ hX1) (by simp)).trans hX1, bC e 3 _ rfl, bC e 4 _ rfl, bC e 5 _ rfl, bC e 6 _ rfl, bC e 7 _ rfl⟩
 have HDa : Hid (∀ W, F0 W3 W -> Calls Tryz.prog 19 #[.pointer (some ⟨T, 0, none⟩), .agg #[.string p.pan, .int .i64 p.mcc, .int .i64 p.am, .int .i64 p.cur], .slice (some ⟨A, 0, none⟩) dn (dn + 2)] W fun e w' => e = .returned (.agg #[.int .i64 (out.1 : Nat), .string out.2.1, .string out.2.2]) /\ F0 W w') := fun W hf => by
  have e := hDa W (some ⟨A, 0, none⟩) (dn + 2) dl hf (HAL.o.fr hf (by simp)).strs (by have := HDN.o; unfold maxLen; omega);rw [hout, HDN.o] at e;exact e
 have HDb : Hid (∀ W, F0 W3 W -> Calls Tryz.prog 56 #[.pointer (some ⟨q, 0, none⟩), .agg #[.string p.pan, .int .i64 p.mcc, .int .i64 p.am, .int .i64 p.cur], .slice da dn dc] W fun e w' => e = .returned (.agg #[.int .i64 (out.1 : Nat), .string out.2.1, .string out.2.2]) /\ F0 W w') := fun W hf => by
  have e := hDb W da dc dl hf (HD.o.fr (HF3.o.trans hf) (by simp)) (by have := HDN.o; unfold maxLen; omega);rw [hout, HDN.o] at e;exact e
 have HLA : Hid (A < W3.heap.size /\ w.heap.size <= A) := by
  obtain ⟨cs, c1, _⟩ := HAL.o;exact ⟨(iA.1 c1).1, by have := HPA.o; have := HPe.o.1; omega⟩
 clear hX0 hX1 hDa hDb hout dec
 go_cut [9] (fun v wx => ∃ Q, v = .pointer (some ⟨Q, 0, none⟩) /\ Hid (F0 W3 wx /\ W3.heap.size <= Q /\ wx.heap[Q]? = some (outO out)))
 case first =>
  refine wp_region_held_drew (S := fun W => W.cell? ⟨X, 0, none⟩ = some (.pointer (some ⟨T, 0, none⟩)) /\ W.cell? ⟨X, 1, none⟩ = some (.pointer (some ⟨q, 0, none⟩)) /\ W.cell? ⟨P, 3, none⟩ = some (.string p.pan) /\ W.cell? ⟨P, 4, none⟩ = some (.int .i64 p.mcc) /\ W.cell? ⟨P, 5, none⟩ = some (.int .i64 p.am) /\ W.cell? ⟨P, 6, none⟩ = some (.int .i64 p.cur) /\ W.cell? ⟨P, 7, none⟩ = some (.slice da dn dc)) (by kernel_rfl) (HSP.o _ (Fr.refl _ _).drew) (fun hH => ?_);refine htk 0 (v := ?v0z) ?y0z hH ?r0z
  case y0z => rintro w ⟨s0, s1, s3, s4, s5, s6, s7⟩; go_simp; first | with_reducible rfl | rw [if_pos (by omega)]
  try go_frame
  refine htk 1 (v := ?v1z) ?y1z hH ?r1z
  case y1z => rintro w ⟨s0, s1, s3, s4, s5, s6, s7⟩; go_simp; first | with_reducible rfl | rw [if_pos (by omega)]
  try go_frame
  refine htk 2 (v := ?v2z) ?y2z hH ?r2z
  case y2z => rintro w ⟨s0, s1, s3, s4, s5, s6, s7⟩; go_simp; first | with_reducible rfl | rw [if_pos (by omega)]
  try go_frame
  refine htk 3 (v := ?v3z) ?y3z hH ?r3z
  case y3z => rintro w ⟨s0, s1, s3, s4, s5, s6, s7⟩; go_simp; first | with_reducible rfl | rw [if_pos (by omega)]
  try go_frame
  refine htk 4 (v := ?v4z) ?y4z hH ?r4z
  case y4z => rintro w ⟨s0, s1, s3, s4, s5, s6, s7⟩; go_simp; first | with_reducible rfl | rw [if_pos (by omega)]
  try go_frame
  refine htk 5 (v := ?v5z) ?y5z hH ?r5z
  case y5z => rintro w ⟨s0, s1, s3, s4, s5, s6, s7⟩; go_simp; first | with_reducible rfl | rw [if_pos (by omega)]
  try go_frame
  refine htk 6 (v := ?v6z) ?y6z hH ?r6z
  case y6z => rintro w ⟨s0, s1, s3, s4, s5, s6, s7⟩; go_simp; first | with_reducible rfl | rw [if_pos (by omega)]
  try go_frame
  refine htk 7 (v := ?v7z) ?y7z hH ?r7z
  case y7z => rintro w ⟨s0, s1, s3, s4, s5, s6, s7⟩; go_simp; first | with_reducible rfl | rw [if_pos (by omega)]
  try go_frame
  refine htk 8 (v := ?v8z) ?y8z hH ?r8z
  case y8z => rintro w ⟨s0, s1, s3, s4, s5, s6, s7⟩; go_simp; first | with_reducible rfl | rw [if_pos (by omega)]
  try go_frame
  refine wpAnyH_ready (rs := [9, 10]) (by kernel_rfl) (by simp) ?_;refine held_cons rfl (fun K2 hK => ?_) ?_
  ·try rw [if_pos (by rfl)]
   go_simp;refine (HDa.o _ ((Fr.refl _ _).drew)).mono ?_;rintro e w5 ⟨rfl, hf5⟩;have HF5 : Hid (F0 W3 w5) := ((Fr.refl _ _).drew).trans hf5;clear hf5;refine hK.out _ _ (HSP.o _ HF5.o) (fun hH => ?_);clear hK K2
   try go_frame
   refine wpAnyH_ready (rs := [10]) (by kernel_rfl) (by simp) ?_;refine held_cons rfl (fun K2 hK => ?_) AllReadyH.nil
   try rw [if_pos (by rfl)]
   go_simp;refine hK.out _ _ (HSP.o _ (HF5.o.alloc _)) (fun hH => ?_);clear hK K2
   try go_frame
   refine wpAnyH_ready (rs := [11]) (by kernel_rfl) (by simp) ?_;refine held_cons rfl (fun K2 hK => ?_) AllReadyH.nil
   try rw [if_pos (by rfl)]
   refine wp_store_row 38 _ _ rfl w5.heap.size #[.int .i64 (out.1 : Nat), .string out.2.1, .string out.2.2] rfl rfl 38 _ (heap_alloc_new w5 _) (by kernel_rfl) rfl (by simp [Value.oneCell']) ?_;refine hK.out _ _ (HSP.o _ (Fr.setRow (HF5.o.alloc _) (Or.inr HF5.o.size) _)) (fun _ => ?_);clear hK K2
   try go_frame
   refine wpAnyH_done (by kernel_rfl) ?_ _;go_wp2_with fail;go_meet;exact ⟨w5.heap.size, rfl, Fr.setRow (HF5.o.alloc _) (Or.inr HF5.o.size) _, HF5.o.size, setRow_heap _ w5.heap.size _ _ _ _ (aN w5 _)⟩
  ·refine held_cons rfl (fun K2 hK => ?_) AllReadyH.nil
   try rw [if_pos (by rfl)]
   go_simp;refine hK.out _ _ (HSP.o _ (((Fr.refl _ _).drew).alloc _)) (fun hH => ?_);clear hK K2
   try go_frame
   have HFA : Hid (F0 W3 (W3.drew.alloc (.cells #[.int .i64 0, .string ⟨#[]⟩, .string ⟨#[]⟩] 38))) := ((Fr.refl _ _).drew).alloc _;have HXA : Hid ((W3.drew.alloc (.cells #[.int .i64 0, .string ⟨#[]⟩, .string ⟨#[]⟩] 38)).heap[W3.heap.size]? = some (.cells #[.int .i64 0, .string ⟨#[]⟩, .string ⟨#[]⟩] 38)) := aN W3.drew _;refine wpAnyH_ready (rs := [9]) (by kernel_rfl) (by simp) ?_;refine held_cons rfl (fun K2 hK => ?_) AllReadyH.nil
   try rw [if_pos (by rfl)]
   go_simp;refine (HDa.o _ HFA.o).mono ?_;rintro e w5 ⟨rfl, hf5⟩;have HF5 : Hid (F0 W3 w5) := HFA.o.trans hf5;have HX5 : Hid (w5.heap[W3.heap.size]? = some (.cells #[.int .i64 0, .string ⟨#[]⟩, .string ⟨#[]⟩] 38)) := hf5.whole HXA.o (by simp);clear hf5;refine hK.out _ _ (HSP.o _ HF5.o) (fun hH => ?_);clear hK K2
   try go_frame
   refine wpAnyH_ready (rs := [11]) (by kernel_rfl) (by simp) ?_;refine held_cons rfl (fun K2 hK => ?_) AllReadyH.nil
   try rw [if_pos (by rfl)]
   refine wp_store_row 38 _ _ rfl W3.heap.size #[.int .i64 (out.1 : Nat), .string out.2.1, .string out.2.2] rfl rfl 38 _ HX5.o (by kernel_rfl) rfl (by simp [Value.oneCell']) ?_;refine hK.out _ _ (HSP.o _ (Fr.setRow HF5.o (Or.inr (Nat.le_refl _)) _)) (fun _ => ?_);clear hK K2
   try go_frame
   refine wpAnyH_done (by kernel_rfl) ?_ _;go_wp2_with fail;go_meet;exact ⟨W3.heap.size, rfl, Fr.setRow HF5.o (Or.inr (Nat.le_refl _)) _, Nat.le_refl _, setRow_heap w5 W3.heap.size _ _ _ _ HX5.o⟩
 case rest =>
  obtain ⟨Q1, rfl, HQ⟩ := hcut;generalize wc = W4 at *;obtain ⟨h7, h8⟩ := HAs.o W4 HQ.o.1;have HW : Hid (F0 W3 W4) := HQ.o.1;have HQ1 : Hid (W3.heap.size <= Q1 /\ W4.heap[Q1]? = some (outO out)) := HQ.o.2
  have k1 : (dn : Int) < (dn : Int) + 2 := by omega
  have k2 : (dn : Int) + 1 < (dn : Int) + 2 := by omega
  clear HQ HDa HAs;go_wp2_with fail;clear h7 h8 k1 k2
  go_loopg [10, 11] dn (fun m bv kv wr => ∃ i, i <= dn /\ m = dn - i /\ bv = .bool true /\ kv = .int .i64 (i : Nat) /\ Hid (F0 W4 wr))
  case atStart => exact ⟨0, Nat.zero_le _, rfl, rfl, rfl, Fr.refl _ _⟩
  case round =>
   obtain ⟨i, hi, rfl, rfl, rfl, HFi⟩ := hrel;by_cases hlt : i < dn
   ·have hki : (i : Int) < (dn : Int) := by omega
    have hk2 : (i : Int) < (dn : Int) + 2 := by omega
    obtain ⟨sx, g, o, rfl, r1, r2⟩ := HSt.o wr (HW.o.trans HFi.o) i hlt;obtain ⟨_, _, _, _, _, _, r7⟩ := HSP.o wr (HW.o.trans HFi.o);go_upto_region 11 with fail
    go_quiet (fail)
    have HF2 : Hid (F0 W4 (wr.drewN nq)) := HFi.o.trans ⟨rfl, rfl, rfl, Nat.le_refl _, fun _ _ _ => rfl⟩;go_wp2_with fail;go_roundg (dn - (i + 1))
    case measure => omega
    case rel => exact ⟨i + 1, by omega, rfl, rfl, by go_num, HF2⟩
   ·have hki : ¬ (i : Int) < (dn : Int) := by omega
    have HFw := hid (HW.o.trans HFi.o)
    have HSP2 : Hid (∀ W, F0 wr W -> W.cell? ⟨X, 0, none⟩ = some (.pointer (some ⟨T, 0, none⟩)) /\ W.cell? ⟨X, 1, none⟩ = some (.pointer (some ⟨q, 0, none⟩)) /\ W.cell? ⟨P, 3, none⟩ = some (.string p.pan) /\ W.cell? ⟨P, 4, none⟩ = some (.int .i64 p.mcc) /\ W.cell? ⟨P, 5, none⟩ = some (.int .i64 p.am) /\ W.cell? ⟨P, 6, none⟩ = some (.int .i64 p.cur) /\ W.cell? ⟨P, 7, none⟩ = some (.slice da dn dc)) := fun W hf => HSP.o W (HFw.o.trans hf)
    have HDc : Hid (∀ W, F0 wr W -> Calls Tryz.prog 56 #[.pointer (some ⟨q, 0, none⟩), .agg #[.string p.pan, .int .i64 p.mcc, .int .i64 p.am, .int .i64 p.cur], .slice da dn dc] W fun e w' => e = .returned (.agg #[.int .i64 (out.1 : Nat), .string out.2.1, .string out.2.2]) /\ F0 W w') := fun W hf => HDb.o W (HFw.o.trans hf)
    go_upto_region 12 with fail
    go_cut [12] (fun v wx => ∃ Q, v = .pointer (some ⟨Q, 0, none⟩) /\ Hid (F0 wr wx /\ wr.heap.size <= Q /\ wx.heap[Q]? = some (outO out)))
    case first =>
     refine wp_region_held_drew (S := fun W => W.cell? ⟨X, 0, none⟩ = some (.pointer (some ⟨T, 0, none⟩)) /\ W.cell? ⟨X, 1, none⟩ = some (.pointer (some ⟨q, 0, none⟩)) /\ W.cell? ⟨P, 3, none⟩ = some (.string p.pan) /\ W.cell? ⟨P, 4, none⟩ = some (.int .i64 p.mcc) /\ W.cell? ⟨P, 5, none⟩ = some (.int .i64 p.am) /\ W.cell? ⟨P, 6, none⟩ = some (.int .i64 p.cur) /\ W.cell? ⟨P, 7, none⟩ = some (.slice da dn dc)) (by kernel_rfl) (HSP2.o _ (Fr.refl _ _).drew) (fun hH => ?_);refine htk 0 (v := ?v0k) ?y0k hH ?r0k
     case y0k => rintro w ⟨s0, s1, s3, s4, s5, s6, s7⟩; go_simp; with_reducible rfl
     try go_frame
     refine htk 1 (v := ?v1k) ?y1k hH ?r1k
     case y1k => rintro w ⟨s0, s1, s3, s4, s5, s6, s7⟩; go_simp; with_reducible rfl
     try go_frame
     refine htk 2 (v := ?v2k) ?y2k hH ?r2k
     case y2k => rintro w ⟨s0, s1, s3, s4, s5, s6, s7⟩; go_simp; with_reducible rfl
     try go_frame
     refine htk 3 (v := ?v3k) ?y3k hH ?r3k
     case y3k => rintro w ⟨s0, s1, s3, s4, s5, s6, s7⟩; go_simp; with_reducible rfl
     try go_frame
     refine htk 4 (v := ?v4k) ?y4k hH ?r4k
     case y4k => rintro w ⟨s0, s1, s3, s4, s5, s6, s7⟩; go_simp; with_reducible rfl
     try go_frame
     refine htk 5 (v := ?v5k) ?y5k hH ?r5k
     case y5k => rintro w ⟨s0, s1, s3, s4, s5, s6, s7⟩; go_simp; with_reducible rfl
     try go_frame
     refine htk 6 (v := ?v6k) ?y6k hH ?r6k
     case y6k => rintro w ⟨s0, s1, s3, s4, s5, s6, s7⟩; go_simp; with_reducible rfl
     try go_frame
     refine htk 7 (v := ?v7k) ?y7k hH ?r7k
     case y7k => rintro w ⟨s0, s1, s3, s4, s5, s6, s7⟩; go_simp; with_reducible rfl
     try go_frame
     refine wpAnyH_ready (rs := [8, 9]) (by kernel_rfl) (by simp) ?_;refine held_cons rfl (fun K2 hK => ?_) ?_
     ·try rw [if_pos (by rfl)]
      go_simp;refine (HDc.o _ ((Fr.refl _ _).drew)).mono ?_;rintro e w5 ⟨rfl, hf5⟩;have HF5 : Hid (F0 wr w5) := ((Fr.refl _ _).drew).trans hf5;clear hf5;refine hK.out _ _ (HSP2.o _ HF5.o) (fun hH => ?_);clear hK K2
      try go_frame
      refine wpAnyH_ready (rs := [9]) (by kernel_rfl) (by simp) ?_;refine held_cons rfl (fun K2 hK => ?_) AllReadyH.nil
      try rw [if_pos (by rfl)]
      go_simp;refine hK.out _ _ (HSP2.o _ (HF5.o.alloc _)) (fun hH => ?_);clear hK K2
      try go_frame
      refine wpAnyH_ready (rs := [10]) (by kernel_rfl) (by simp) ?_;refine held_cons rfl (fun K2 hK => ?_) AllReadyH.nil
      try rw [if_pos (by rfl)]
      refine wp_store_row 38 _ _ rfl w5.heap.size #[.int .i64 (out.1 : Nat), .string out.2.1, .string out.2.2] rfl rfl 38 _ (heap_alloc_new w5 _) (by kernel_rfl) rfl (by simp [Value.oneCell']) ?_;refine hK.out _ _ (HSP2.o _ (Fr.setRow (HF5.o.alloc _) (Or.inr HF5.o.size) _)) (fun _ => ?_);clear hK K2
      try go_frame
      refine wpAnyH_done (by kernel_rfl) ?_ _;go_wp2_with fail;go_meet;exact ⟨w5.heap.size, rfl, Fr.setRow (HF5.o.alloc _) (Or.inr HF5.o.size) _, HF5.o.size, setRow_heap _ w5.heap.size _ _ _ _ (aN w5 _)⟩
     ·refine held_cons rfl (fun K2 hK => ?_) AllReadyH.nil
      try rw [if_pos (by rfl)]
      go_simp;refine hK.out _ _ (HSP2.o _ (((Fr.refl _ _).drew).alloc _)) (fun hH => ?_);clear hK K2
      try go_frame
      have HFA : Hid (F0 wr (wr.drew.alloc (.cells #[.int .i64 0, .string ⟨#[]⟩, .string ⟨#[]⟩] 38))) := ((Fr.refl _ _).drew).alloc _;have HXA : Hid ((wr.drew.alloc (.cells #[.int .i64 0, .string ⟨#[]⟩, .string ⟨#[]⟩] 38)).heap[wr.heap.size]? = some (.cells #[.int .i64 0, .string ⟨#[]⟩, .string ⟨#[]⟩] 38)) := aN wr.drew _;refine wpAnyH_ready (rs := [8]) (by kernel_rfl) (by simp) ?_;refine held_cons rfl (fun K2 hK => ?_) AllReadyH.nil
      try rw [if_pos (by rfl)]
      go_simp;refine (HDc.o _ HFA.o).mono ?_;rintro e w5 ⟨rfl, hf5⟩;have HF5 : Hid (F0 wr w5) := HFA.o.trans hf5;have HX5 : Hid (w5.heap[wr.heap.size]? = some (.cells #[.int .i64 0, .string ⟨#[]⟩, .string ⟨#[]⟩] 38)) := hf5.whole HXA.o (by simp);clear hf5;refine hK.out _ _ (HSP2.o _ HF5.o) (fun hH => ?_);clear hK K2
      try go_frame
      refine wpAnyH_ready (rs := [10]) (by kernel_rfl) (by simp) ?_;refine held_cons rfl (fun K2 hK => ?_) AllReadyH.nil
      try rw [if_pos (by rfl)]
      refine wp_store_row 38 _ _ rfl wr.heap.size #[.int .i64 (out.1 : Nat), .string out.2.1, .string out.2.2] rfl rfl 38 _ HX5.o (by kernel_rfl) rfl (by simp [Value.oneCell']) ?_;refine hK.out _ _ (HSP2.o _ (Fr.setRow HF5.o (Or.inr (Nat.le_refl _)) _)) (fun _ => ?_);clear hK K2
      try go_frame
      refine wpAnyH_done (by kernel_rfl) ?_ _;go_wp2_with fail;go_meet;exact ⟨wr.heap.size, rfl, Fr.setRow HF5.o (Or.inr (Nat.le_refl _)) _, Nat.le_refl _, setRow_heap w5 wr.heap.size _ _ _ _ HX5.o⟩
    case rest =>
     obtain ⟨Q2, rfl, HQ⟩ := hcut;have HFa := hid ((HF3.o.trans HFw.o).trans HQ.o.1)
     have HT : Hid (Calls Tryz.prog 84 #[.pointer (some ⟨L, 0, none⟩), .slice (some ⟨A, 0, none⟩) (dn + 2) (dn + 2)] wc fun e w' => e = .returned (.tuple #[]) /\ (∃ nv' mv' es', DSt w' L v xs nv' mv' (cnt + 1) es' /\ es'.length = es.length + 4 /\ ∀ e, e ∈ es' -> e ∈ es \/ e.n <= 8796093022208) /\ Fr (fun k => k = L \/ nv.ownBlock = some k \/ mv.ownBlock = some k) w w' /\ Fr (fun k => k = L \/ nv.ownBlock = some k \/ mv.ownBlock = some k \/ k = A) wc w') := by
      obtain ⟨b1, b2, b3, b4⟩ := HB.o;obtain ⟨ys, hys⟩ := (HAL.o.fr (HFw.o.trans HQ.o.1) (by simp)).row (L := L) (by have := HPA.o; have := HPe.o.2; omega) (by have := HDN.o; unfold maxLen; omega);rw [HDN.o] at hys;exact takes_any w wc L v xs nv mv cnt es A (dn + 2) (dn + 2) ys HS.o HFa.o HLA.o.2 hys b1 b2 (by have := HDN.o; omega)
     go_upto_region 13 with fail;go_wp2_with fail;refine HT.o.mono ?_;rintro e w7 ⟨rfl, h7, h8, h9⟩;have H7 := hid h7;have H8 := hid h8
     have hno : ∀ Q, W3.heap.size <= Q -> ¬ (Q = L \/ nv.ownBlock = some Q \/ mv.ownBlock = some Q \/ Q = A) := by
      intro Q hQ;have z1 := HLA.o;have z2 := HPe.o;rintro (e | e | e | e)
      ·omega
      ·have := (HS.o.nm.lt Q e).2; omega
      ·have := (HS.o.ma.lt Q e).2; omega
      ·omega
     have o1 := h9.whole (HQ.o.1.whole (HFi.o.whole HQ1.o.2 (by simp)) (by simp)) (hno Q1 HQ1.o.1);have o2 := h9.whole HQ.o.2.2 (hno Q2 (Nat.le_trans HFw.o.size HQ.o.2.1));have p0 : w7.cell? ⟨Q1, 0, none⟩ = some (.int .i64 (out.1 : Nat)) := bC o1 0 _ rfl;have p1 : w7.cell? ⟨Q1, 1, none⟩ = some (.string out.2.1) := bC o1 1 _ rfl;have p2 : w7.cell? ⟨Q1, 2, none⟩ = some (.string out.2.2) := bC o1 2 _ rfl;have q0 : w7.cell? ⟨Q2, 0, none⟩ = some (.int .i64 (out.1 : Nat)) := bC o2 0 _ rfl;have q1 : w7.cell? ⟨Q2, 1, none⟩ = some (.string out.2.1) := bC o2 1 _ rfl;have q2 : w7.cell? ⟨Q2, 2, none⟩ = some (.string out.2.2) := bC o2 2 _ rfl;clear h7 h8 h9 hno o1 o2 HT;go_wp2_with fail;go_ret;exact ⟨rfl, H7.o, H8.o⟩
