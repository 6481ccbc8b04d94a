/- Regions: which payment two rules meet both. Regions: common, walked: what it goes through. -/
import Derived.Test.YtccikgogjfbpeaaGreatDoorYHa
import Derived.Test.YtccikgogjfbpeaaGreatDoorYMk
namespace Go.Proofs.YtccikgogjfbpeaaGreatDoor
open Go.RowKit Go.Shelf
theorem startsM_map {side : Nat} {A : ArM} {es es' : List ArE} (h : es.map ArE.A = es'.map ArE.A) : startsM side A es = startsM side A es' := by
 have e : ∀ own es, st1 side own es = own.1 :: (es.map ArE.A).flatMap fun B => cutsM own (B.at side) := fun own es => by
  unfold st1
  rw [List.flatMap_map]
 have e2 : stRaw side (A.at side) es = stRaw side (A.at side) es' := by
  unfold stRaw
  congr 1
  funext s
  rw [e, e, h]
 unfold startsM
 rw [e2]
theorem fromM_map {A : ArM} : ∀ (k : Nat) {es es' : List ArE}, es.map ArE.A = es'.map ArE.A → fromM A k es = fromM A k es'
 | 0, es, es', h => by
  have := congrArg List.length h
  rw [List.length_map, List.length_map] at this
  simp only [fromM, this]
 | k + 1, es, es', h => by
  have e : ∀ n, fromM A k (havE (3 - k) n es) = fromM A k (havE (3 - k) n es') := fun n => by
   refine fromM_map k ?_
   have f : ∀ l : List ArE, (havE (3 - k) n l).map ArE.A = (l.map ArE.A).filter fun B => hasM B (3 - k) n := fun l => by
    unfold havE
    rw [List.filter_map]
    rfl
   rw [f, f, h]
  simp only [fromM]
  rw [startsM_map h]
  congr 1
  funext n
  rw [e n]
def comY (A B : ArM) : Option (PaM × Nat) := (fromM A 4 [⟨B, ⟨none, 0⟩, ⟨none, 0⟩, ⟨none, 0⟩, ⟨none, 0⟩⟩]).find? fun y => decide (0 < y.2)
theorem comY_some {A B : ArM} (hA : ∀ side s, s ∈ A.at side → s.1 ≤ s.2) {y : PaM × Nat} (h : comY A B = some y) : allB A 4 y.1 = true ∧ allB B 4 y.1 = true := by
 unfold comY at h
 have h1 := List.find?_some h
 obtain ⟨h2, h3⟩ := from_sound hA 4 (by omega) _ y (List.mem_of_find?_eq_some h)
 refine ⟨h2, ?_⟩
 cases hb : allB B 4 y.1 with
 | true => rfl
 | false =>
  simp [hb] at h3
  simp [h3] at h1
theorem comY_none {A B : ArM} (hA : ∀ side s, s ∈ A.at side → s.1 ≤ s.2) (h : comY A B = none) (p : PaM) : ¬ (allB A 4 p = true ∧ allB B 4 p = true) := by
 rintro ⟨h1, h2⟩
 unfold comY at h
 rw [List.find?_eq_none] at h
 obtain ⟨y, hy, hq⟩ := from_cover 4 (by omega) [⟨B, ⟨none, 0⟩, ⟨none, 0⟩, ⟨none, 0⟩, ⟨none, 0⟩⟩] p h1
 obtain ⟨_, h4⟩ := from_sound hA 4 (by omega) _ y hy
 have h5 : allB B 4 y.1 = allB B 4 p := hq ⟨B, ⟨none, 0⟩, ⟨none, 0⟩, ⟨none, 0⟩, ⟨none, 0⟩⟩ (by simp)
 have h6 := h y hy
 simp only [List.filter_cons, List.filter_nil] at h4
 rw [h5, h2] at h4
 simp at h4 h6
 omega
structure CoSt (w0 : World) (A A2 : ArM) (B : Nat) (x0 x1 x2 x3 : SlM) (a : Option Addr) (c : Nat) (es : List ArE) (wx : World) : Prop where
 em : es.map ArE.A = [A2]
 sz : wx.heap.size = B + 3
 lo : w0.heap.size ≤ B
 b0 : wx.heap[B]? = some (.cells #[.int .i64 ((0 : Nat) : Int)] 3)
 b1 : wx.heap[B + 1]? = some (.cells #[spV x0 A.s0, spV x1 A.s1, spV x2 A.s2, spV x3 A.s3] 215)
 b2 : wx.heap[B + 1 + 1]? = some (.cells #[.slice a 1 c] 217)
 ar : ArV wx A x0 x1 x2 x3
 nw : ArNew w0.heap.size wx.heap.size x0 x1 x2 x3
 ars : ArsAt wx a es
 an : ∀ g o, a = some ⟨g, o, none⟩ → w0.heap.size ≤ g ∧ g < wx.heap.size
 en : ∀ e, e ∈ es → ArNew w0.heap.size wx.heap.size e.x0 e.x1 e.x2 e.x3
 fr : Fr (fun _ => False) w0 wx
theorem ArNew.more {m n m' n' : Nat} {x0 x1 x2 x3 : SlM} (h : ArNew m n x0 x1 x2 x3) (h1 : m' ≤ m) (h2 : n ≤ n') : ArNew m' n' x0 x1 x2 x3 := fun x hx g o e => ⟨Nat.le_trans h1 (h x hx g o e).1, Nat.lt_of_lt_of_le (h x hx g o e).2 h2⟩
theorem one_area {w : World} {A : ArM} {y0 y1 y2 y3 : SlM} (h : ArV w A y0 y1 y2 y3) : ArsAt (w.alloc (.cells #[.slice y0.a A.s0.length y0.c, .slice y1.a A.s1.length y1.c, .slice y2.a A.s2.length y2.c, .slice y3.a A.s3.length y3.c] 215)) (some ⟨w.heap.size, 0, none⟩) [⟨A, y0, y1, y2, y3⟩] := by
 intro k e he
 have hb := heap_alloc_new w (.cells #[.slice y0.a A.s0.length y0.c, .slice y1.a A.s1.length y1.c, .slice y2.a A.s2.length y2.c, .slice y3.a A.s3.length y3.c] 215)
 cases k with
 | succ k => simp at he
 | zero =>
  simp at he
  subst he
  refine ⟨ArV.fr h ((Fr.refl _ _).alloc _), w.heap.size, 0, rfl, fun j v hv => ?_⟩
  rw [show 0 + 0 * 4 + j = j from by omega]
  exact block_cell hb j v (by simpa [arRow, spV] using hv)
end Go.Proofs.YtccikgogjfbpeaaGreatDoor

namespace Go.Proofs.YtccikgogjfbpeaaGreatDoor
open Go.RowKit Go.Shelf
attribute [local go_sem] Oper.semAt_some
structure CoPre (w0 : World) (A A2 : ArM) (x0 x1 x2 x3 : SlM) (a : Option Addr) (es : List ArE) (W : World) : Prop where
 em : es.map ArE.A = [A2]
 ar : ArV W A x0 x1 x2 x3
 nw : ArNew w0.heap.size W.heap.size x0 x1 x2 x3
 ars : ArsAt W a es
 an : ∀ g o, a = some ⟨g, o, none⟩ → w0.heap.size ≤ g ∧ g < W.heap.size
 en : ∀ e, e ∈ es → ArNew w0.heap.size W.heap.size e.x0 e.x1 e.x2 e.x3
 fr : Fr (fun _ => False) w0 W
theorem CoPre.pays {w0 W : World} {A A2 : ArM} {x0 x1 x2 x3 : SlM} {a : Option Addr} {es : List ArE} (h : CoPre w0 A A2 x0 x1 x2 x3 a es W) :
  Calls Tryz.prog 113 #[.agg #[.slice x0.a A.s0.length x0.c, .slice x1.a A.s1.length x1.c, .slice x2.a A.s2.length x2.c, .slice x3.a A.s3.length x3.c], .slice a 1 1] W fun e w' => ∃ B, e = .returned (.func (.func 212) #[] #[.pointer (some ⟨B, 0, none⟩), .pointer (some ⟨B + 1 + 1, 0, none⟩), .pointer (some ⟨B + 1, 0, none⟩)]) ∧ CoSt w0 A A2 B x0 x1 x2 x3 a 1 es w' := by
 refine (payments_any A x0 x1 x2 x3 a 1 1 W).mono ?_
 rintro e w' ⟨B, rfl, h1, h2, h3, h4, h5, h6⟩
 exact ⟨B, rfl, h.em, h2, Nat.le_trans h.fr.size h1, h3, h4, h5, h.ar.fr h6, h.nw.more (Nat.le_refl _) h6.size, h.ars.fr h6, fun g o e => ⟨(h.an g o e).1, Nat.lt_of_lt_of_le (h.an g o e).2 h6.size⟩, fun e he => (h.en e he).more (Nat.le_refl _) h6.size, h.fr.trans h6⟩
theorem CoPre.mk1 {w0 wb : World} {A A2 : ArM} {x0 x1 x2 x3 y0 y1 y2 y3 : SlM} (h1 : ArV wb A x0 x1 x2 x3) (n1 : ArNew w0.heap.size wb.heap.size x0 x1 x2 x3) (h2 : ArV wb A2 y0 y1 y2 y3) (n2 : ArNew w0.heap.size wb.heap.size y0 y1 y2 y3) (hf : Fr (fun _ => False) w0 wb) :
  CoPre w0 A A2 x0 x1 x2 x3 (some ⟨wb.heap.size, 0, none⟩) [⟨A2, y0, y1, y2, y3⟩] (wb.alloc (.cells #[.slice y0.a A2.s0.length y0.c, .slice y1.a A2.s1.length y1.c, .slice y2.a A2.s2.length y2.c, .slice y3.a A2.s3.length y3.c] 215)) := by
 have f : Fr (fun _ => False) wb (wb.alloc (.cells #[.slice y0.a A2.s0.length y0.c, .slice y1.a A2.s1.length y1.c, .slice y2.a A2.s2.length y2.c, .slice y3.a A2.s3.length y3.c] 215)) := (Fr.refl _ _).alloc _
 refine ⟨rfl, h1.fr f, n1.more (Nat.le_refl _) f.size, one_area h2, fun g o e => ?_, fun e he => ?_, hf.trans f⟩
 ·cases e
  exact ⟨hf.size, by simp⟩
 ·rw [List.mem_singleton.1 he]
  exact n2.more (Nat.le_refl _) f.size
theorem put5 {W : World} {P : Nat} {b c : Bool} {t u : TypeId} {v0 v1 v2 v3 : Value} (h2 : W.heap[P + 1 + 1]? = some (.cells #[v0, v1, v2, v3] t)) (h3 : W.heap[P + 1 + 1 + 1]? = some (.cells #[.bool c] u)) (p0 p1 p2 p3 : Nat) :
    ((((((W.setCell ⟨P + 1 + 1, 0, none⟩ (.int .i64 (p0 : Nat))).setCell ⟨P + 1 + 1, 1, none⟩ (.int .i64 (p1 : Nat))).setCell ⟨P + 1 + 1, 2, none⟩ (.int .i64 (p2 : Nat))).setCell ⟨P + 1 + 1, 3, none⟩ (.int .i64 (p3 : Nat))).setCell ⟨P + 1 + 1 + 1, 0, none⟩ (.bool b)).heap[P + 1 + 1]? = some (.cells #[.int .i64 (p0 : Nat), .int .i64 (p1 : Nat), .int .i64 (p2 : Nat), .int .i64 (p3 : Nat)] t)) ∧
    ((((((W.setCell ⟨P + 1 + 1, 0, none⟩ (.int .i64 (p0 : Nat))).setCell ⟨P + 1 + 1, 1, none⟩ (.int .i64 (p1 : Nat))).setCell ⟨P + 1 + 1, 2, none⟩ (.int .i64 (p2 : Nat))).setCell ⟨P + 1 + 1, 3, none⟩ (.int .i64 (p3 : Nat))).setCell ⟨P + 1 + 1 + 1, 0, none⟩ (.bool b)).heap[P + 1 + 1 + 1]? = some (.cells #[.bool b] u)) ∧
    Fr (fun k => k = P + 1 + 1 ∨ k = P + 1 + 1 + 1) W (((((W.setCell ⟨P + 1 + 1, 0, none⟩ (.int .i64 (p0 : Nat))).setCell ⟨P + 1 + 1, 1, none⟩ (.int .i64 (p1 : Nat))).setCell ⟨P + 1 + 1, 2, none⟩ (.int .i64 (p2 : Nat))).setCell ⟨P + 1 + 1, 3, none⟩ (.int .i64 (p3 : Nat))).setCell ⟨P + 1 + 1 + 1, 0, none⟩ (.bool b)) := by
  have t1 := heap_setCell_same W (P + 1 + 1) 0 _ _ (.int .i64 (p0 : Nat)) h2
  have t2 := heap_setCell_same _ (P + 1 + 1) 1 _ _ (.int .i64 (p1 : Nat)) t1
  have t3 := heap_setCell_same _ (P + 1 + 1) 2 _ _ (.int .i64 (p2 : Nat)) t2
  have t4 := heap_setCell_same _ (P + 1 + 1) 3 _ _ (.int .i64 (p3 : Nat)) t3
  have f4 : Fr (fun k => k = P + 1 + 1) W ((((W.setCell ⟨P + 1 + 1, 0, none⟩ (.int .i64 (p0 : Nat))).setCell ⟨P + 1 + 1, 1, none⟩ (.int .i64 (p1 : Nat))).setCell ⟨P + 1 + 1, 2, none⟩ (.int .i64 (p2 : Nat))).setCell ⟨P + 1 + 1, 3, none⟩ (.int .i64 (p3 : Nat))) :=
    ((((Fr.refl (fun k => k = P + 1 + 1) W).setCell (p := ⟨P + 1 + 1, 0, none⟩) (.inl rfl) _).setCell (p := ⟨P + 1 + 1, 1, none⟩) (.inl rfl) _).setCell (p := ⟨P + 1 + 1, 2, none⟩) (.inl rfl) _).setCell (p := ⟨P + 1 + 1, 3, none⟩) (.inl rfl) _
  have g3 := f4.whole h3 (by show ¬ P + 1 + 1 + 1 = P + 1 + 1; omega)
  refine ⟨?_, heap_setCell_same _ (P + 1 + 1 + 1) 0 _ _ (.bool b) g3, (f4.mono (fun k h => .inl h)).setCell (p := ⟨P + 1 + 1 + 1, 0, none⟩) (.inl (.inr rfl)) _⟩
  exact ((Fr.refl (fun k => k = P + 1 + 1 + 1) _).setCell (p := ⟨P + 1 + 1 + 1, 0, none⟩) (.inl rfl) _).whole t4 (by show ¬ P + 1 + 1 = P + 1 + 1 + 1; omega)
theorem com_end {n : Nat} {w w2 W : World} {S : Nat → Prop} {P : Nat} {y : PaM × Nat} {b : Bool} {v : Value} {R0 R1 R2 R3 : Value} {rest : List Value}
  (hP : P + 1 + 1 + 1 < w2.heap.size) (hw : Fr (fun _ => False) w w2) (hS : ∀ k, S k → w.heap.size ≤ k) (hf : Fr S w2 W) (hD : W.heap[w2.heap.size]? = some (.deferred (some [])))
  (o2 : W.heap[P + 1 + 1]? = some (.cells #[.int .i64 (y.1.p0 : Nat), .int .i64 (y.1.p1 : Nat), .int .i64 (y.1.p2 : Nat), .int .i64 (y.1.p3 : Nat)] 139)) (o3 : W.heap[P + 1 + 1 + 1]? = some (.cells #[.bool b] 4)) (hv : v = .tuple #[paV y.1, .bool b]) :
  LeavesInM Fence.wide n Tryz.prog Tryz.f67 (R0 :: R1 :: R2 :: R3 :: .pointer (some ⟨P + 1 + 1, 0, none⟩) :: .pointer (some ⟨P + 1 + 1 + 1, 0, none⟩) :: rest).toArray (fun e w' => e = .returned v ∧ Fr (fun _ => False) w w') [{ target := .collected w2.heap.size, args := #[] }] .returning W := by
 refine leaves_marks [w2.heap.size] W (by simp) (fun D h => by rw [List.mem_singleton.1 h]; exact hD) ?_
 have g2 : (W.putObj w2.heap.size (.deferred none)).heap[P + 1 + 1]? = _ := (World.putObj_heap_other (by omega)).trans o2
 have g3 : (W.putObj w2.heap.size (.deferred none)).heap[P + 1 + 1 + 1]? = _ := (World.putObj_heap_other (by omega)).trans o3
 have c0 := block_cell g2 0 _ rfl
 have c1 := block_cell g2 1 _ rfl
 have c2 := block_cell g2 2 _ rfl
 have c3 := block_cell g2 3 _ rfl
 have d0 := block_cell g3 0 _ rfl
 refine ⟨.tuple #[paV y.1, .bool b], ?_, by rw [hv], ?_⟩
 ·show (results _ _).run _ (W.putObj w2.heap.size (.deferred none)) = _
  simp [results, Tryz.results67, go_sem, c0, c1, c2, c3, d0, paV]
  rfl
 ·exact hw.monoNew (hf.mono (T := fun k => S k ∨ k = w2.heap.size) (fun _ h => .inl h) |>.trans (fr_put (.inr rfl) _)) (fun k h => .inr (h.elim (hS k) (fun e => by have := hw.size; omega)))
def comV (o : Option (PaM × Nat)) : Value := match o with
 | some y => .tuple #[paV y.1, .bool true]
 | none => .tuple #[paV ⟨0, 0, 0, 0⟩, .bool false]
set_option maxRecDepth 100000 in
set_option maxHeartbeats 8000000 in
theorem common_any (w : World) (r q : RuleM) (nr : Nat) (ma : Option Addr) (mc : Nat) (ca : Option Addr) (cc : Nat) (pa : Option Addr) (pc : Nat) (ma2 : Option Addr) (mc2 : Nat) (ca2 : Option Addr) (cc2 : Nat) (pa2 : Option Addr) (pc2 : Nat)
    (h1 : RlOk nr r ∧ ArOk r) (h2 : RlOk nr q ∧ ArOk q) (i1 : IntsAt w ma r.mcc) (i2 : IntsAt w ca r.cur) (i3 : IntsAt w ma2 q.mcc) (i4 : IntsAt w ca2 q.cur) :
    Calls Tryz.prog 67 #[.agg #[.string r.name, .int .i64 r.rank, .int .i64 r.digits, .int .i64 r.lo, .int .i64 r.hi, .slice ma r.mcc.length mc, .bool r.am.isSome, .int .i64 (r.am.getD (0, 0)).1, .int .i64 (r.am.getD (0, 0)).2, .slice ca r.cur.length cc, .bool r.decline, .bool r.cheapest, .slice pa r.routes.length pc, .int .i64 r.ahead], .agg #[.string q.name, .int .i64 q.rank, .int .i64 q.digits, .int .i64 q.lo, .int .i64 q.hi, .slice ma2 q.mcc.length mc2, .bool q.am.isSome, .int .i64 (q.am.getD (0, 0)).1, .int .i64 (q.am.getD (0, 0)).2, .slice ca2 q.cur.length cc2, .bool q.decline, .bool q.cheapest, .slice pa2 q.routes.length pc2, .int .i64 q.ahead]] w fun e w' => e = .returned (comV (comY (arR r) (arR q))) ∧ Fr (fun _ => False) w w' := by
  obtain ⟨w0, hw0⟩ : ∃ w0, (((w.alloc (.cells #[.string r.name, .int .i64 r.rank, .int .i64 r.digits, .int .i64 r.lo, .int .i64 r.hi, .slice ma r.mcc.length mc, .bool r.am.isSome, .int .i64 (r.am.getD (0, 0)).1, .int .i64 (r.am.getD (0, 0)).2, .slice ca r.cur.length cc, .bool r.decline, .bool r.cheapest, .slice pa r.routes.length pc, .int .i64 r.ahead] 120)).alloc (.cells #[.string q.name, .int .i64 q.rank, .int .i64 q.digits, .int .i64 q.lo, .int .i64 q.hi, .slice ma2 q.mcc.length mc2, .bool q.am.isSome, .int .i64 (q.am.getD (0, 0)).1, .int .i64 (q.am.getD (0, 0)).2, .slice ca2 q.cur.length cc2, .bool q.decline, .bool q.cheapest, .slice pa2 q.routes.length pc2, .int .i64 q.ahead] 120)).alloc (.cells #[.int .i64 0, .int .i64 0, .int .i64 0, .int .i64 0] 139)).alloc (.cells #[.bool false] 4) = w0 := ⟨_, rfl⟩
  obtain ⟨P, hP⟩ : ∃ P, w.heap.size = P := ⟨_, rfl⟩
  have HF0 : Hid (Fr (fun _ => False) w w0) := by show Fr _ _ _; rw [← hw0]; exact ((((Fr.refl _ _).alloc _).alloc _).alloc _).alloc _
  have HZ0 : Hid (w0.heap.size = P + 4) := by show _ = _; rw [← hw0, ← hP]; simp
  have HB0 : Hid (w0.heap[P]? = some (.cells #[.string r.name, .int .i64 r.rank, .int .i64 r.digits, .int .i64 r.lo, .int .i64 r.hi, .slice ma r.mcc.length mc, .bool r.am.isSome, .int .i64 (r.am.getD (0, 0)).1, .int .i64 (r.am.getD (0, 0)).2, .slice ca r.cur.length cc, .bool r.decline, .bool r.cheapest, .slice pa r.routes.length pc, .int .i64 r.ahead] 120)) := by
    show _ = _
    rw [← hw0, ← hP]
    exact ((((Fr.refl (fun _ => False) _).alloc _).alloc _).alloc _).whole (heap_alloc_new w _) (by simp)
  have HB1 : Hid (w0.heap[P + 1]? = some (.cells #[.string q.name, .int .i64 q.rank, .int .i64 q.digits, .int .i64 q.lo, .int .i64 q.hi, .slice ma2 q.mcc.length mc2, .bool q.am.isSome, .int .i64 (q.am.getD (0, 0)).1, .int .i64 (q.am.getD (0, 0)).2, .slice ca2 q.cur.length cc2, .bool q.decline, .bool q.cheapest, .slice pa2 q.routes.length pc2, .int .i64 q.ahead] 120)) := by
    show _ = _
    rw [← hw0, ← hP]
    exact (((Fr.refl (fun _ => False) _).alloc _).alloc _).whole (by have := heap_alloc_new (w.alloc (.cells #[.string r.name, .int .i64 r.rank, .int .i64 r.digits, .int .i64 r.lo, .int .i64 r.hi, .slice ma r.mcc.length mc, .bool r.am.isSome, .int .i64 (r.am.getD (0, 0)).1, .int .i64 (r.am.getD (0, 0)).2, .slice ca r.cur.length cc, .bool r.decline, .bool r.cheapest, .slice pa r.routes.length pc, .int .i64 r.ahead] 120)) (.cells #[.string q.name, .int .i64 q.rank, .int .i64 q.digits, .int .i64 q.lo, .int .i64 q.hi, .slice ma2 q.mcc.length mc2, .bool q.am.isSome, .int .i64 (q.am.getD (0, 0)).1, .int .i64 (q.am.getD (0, 0)).2, .slice ca2 q.cur.length cc2, .bool q.decline, .bool q.cheapest, .slice pa2 q.routes.length pc2, .int .i64 q.ahead] 120); simpa using this) (by simp)
  have HB2 : Hid (w0.heap[P + 1 + 1]? = some (.cells #[.int .i64 0, .int .i64 0, .int .i64 0, .int .i64 0] 139)) := by
    show _ = _
    rw [← hw0, ← hP]
    exact ((Fr.refl (fun _ => False) _).alloc _).whole (by have := heap_alloc_new ((w.alloc (.cells #[.string r.name, .int .i64 r.rank, .int .i64 r.digits, .int .i64 r.lo, .int .i64 r.hi, .slice ma r.mcc.length mc, .bool r.am.isSome, .int .i64 (r.am.getD (0, 0)).1, .int .i64 (r.am.getD (0, 0)).2, .slice ca r.cur.length cc, .bool r.decline, .bool r.cheapest, .slice pa r.routes.length pc, .int .i64 r.ahead] 120)).alloc (.cells #[.string q.name, .int .i64 q.rank, .int .i64 q.digits, .int .i64 q.lo, .int .i64 q.hi, .slice ma2 q.mcc.length mc2, .bool q.am.isSome, .int .i64 (q.am.getD (0, 0)).1, .int .i64 (q.am.getD (0, 0)).2, .slice ca2 q.cur.length cc2, .bool q.decline, .bool q.cheapest, .slice pa2 q.routes.length pc2, .int .i64 q.ahead] 120)) (.cells #[.int .i64 0, .int .i64 0, .int .i64 0, .int .i64 0] 139); simpa using this) (by simp)
  have HB3 : Hid (w0.heap[P + 1 + 1 + 1]? = some (.cells #[.bool false] 4)) := by
    show _ = _
    rw [← hw0, ← hP]
    have := heap_alloc_new (((w.alloc (.cells #[.string r.name, .int .i64 r.rank, .int .i64 r.digits, .int .i64 r.lo, .int .i64 r.hi, .slice ma r.mcc.length mc, .bool r.am.isSome, .int .i64 (r.am.getD (0, 0)).1, .int .i64 (r.am.getD (0, 0)).2, .slice ca r.cur.length cc, .bool r.decline, .bool r.cheapest, .slice pa r.routes.length pc, .int .i64 r.ahead] 120)).alloc (.cells #[.string q.name, .int .i64 q.rank, .int .i64 q.digits, .int .i64 q.lo, .int .i64 q.hi, .slice ma2 q.mcc.length mc2, .bool q.am.isSome, .int .i64 (q.am.getD (0, 0)).1, .int .i64 (q.am.getD (0, 0)).2, .slice ca2 q.cur.length cc2, .bool q.decline, .bool q.cheapest, .slice pa2 q.routes.length pc2, .int .i64 q.ahead] 120)).alloc (.cells #[.int .i64 0, .int .i64 0, .int .i64 0, .int .i64 0] 139)) (.cells #[.bool false] 4)
    simpa using this
  have HA1 : Hid (∀ W, Fr (fun _ => False) w0 W → Calls Tryz.prog 114 #[.agg #[.string r.name, .int .i64 r.rank, .int .i64 r.digits, .int .i64 r.lo, .int .i64 r.hi, .slice ma r.mcc.length mc, .bool r.am.isSome, .int .i64 (r.am.getD (0, 0)).1, .int .i64 (r.am.getD (0, 0)).2, .slice ca r.cur.length cc, .bool r.decline, .bool r.cheapest, .slice pa r.routes.length pc, .int .i64 r.ahead]] W (ArPost W (arR r))) := fun W hf => area_rule W r nr ma mc ca cc pa pc h1.1 h1.2 (i1.fr (HF0.out.trans hf) (by simp)) (i2.fr (HF0.out.trans hf) (by simp))
  have HA2 : Hid (∀ W, Fr (fun _ => False) w0 W → Calls Tryz.prog 114 #[.agg #[.string q.name, .int .i64 q.rank, .int .i64 q.digits, .int .i64 q.lo, .int .i64 q.hi, .slice ma2 q.mcc.length mc2, .bool q.am.isSome, .int .i64 (q.am.getD (0, 0)).1, .int .i64 (q.am.getD (0, 0)).2, .slice ca2 q.cur.length cc2, .bool q.decline, .bool q.cheapest, .slice pa2 q.routes.length pc2, .int .i64 q.ahead]] W (ArPost W (arR q))) := fun W hf => area_rule W q nr ma2 mc2 ca2 cc2 pa2 pc2 h2.1 h2.2 (i3.fr (HF0.out.trans hf) (by simp)) (i4.fr (HF0.out.trans hf) (by simp))
  have HSP : Hid (∀ W, Fr (fun _ => False) w0 W → W.heap[P]? = some (.cells #[.string r.name, .int .i64 r.rank, .int .i64 r.digits, .int .i64 r.lo, .int .i64 r.hi, .slice ma r.mcc.length mc, .bool r.am.isSome, .int .i64 (r.am.getD (0, 0)).1, .int .i64 (r.am.getD (0, 0)).2, .slice ca r.cur.length cc, .bool r.decline, .bool r.cheapest, .slice pa r.routes.length pc, .int .i64 r.ahead] 120) ∧ W.heap[P + 1]? = some (.cells #[.string q.name, .int .i64 q.rank, .int .i64 q.digits, .int .i64 q.lo, .int .i64 q.hi, .slice ma2 q.mcc.length mc2, .bool q.am.isSome, .int .i64 (q.am.getD (0, 0)).1, .int .i64 (q.am.getD (0, 0)).2, .slice ca2 q.cur.length cc2, .bool q.decline, .bool q.cheapest, .slice pa2 q.routes.length pc2, .int .i64 q.ahead] 120)) := fun W hf => ⟨hf.whole HB0.out (by simp), hf.whole HB1.out (by simp)⟩
  have HNe : Hid (∀ i, (arR r).at i ≠ []) := area_ne _ _ _ _ _ _ _ _
  have HBd : Hid (∀ i s, s ∈ (arR q).at i → s.1 ≤ 10000000000 ∧ s.2 ≤ 10000000000) := fun i s hs => (arR_at h2.1 h2.2 i s hs).2
  have HP1 := hid hP
  clear h1 h2 i1 i2 i3 i4
  generalize arR r = A at *
  generalize arR q = A2 at *
  refine (callsIn_wide (n := 5)).1 ?_
  refine callsIn_of_wp_marks Tryz.func67 rfl trivial ?_ rfl
  simp only [Tryz.ntmps67, List.size_toArray, List.length_cons, List.length_nil, Nat.reduceAdd, Nat.reduceSub, Array.replicate_succ, Array.replicate_zero, List.push_toArray, List.append_toArray, List.nil_append, List.cons_append]
  refine (wpIn_wide (n := 5)).2 (wp_ok ?_)
  go_upto_region 1 with fail
  clear hw0 hP
  go_cut [13] from 8 to 13 (fun v wx => ∃ (B : Nat) (x0 x1 x2 x3 : SlM) (a : Option Addr) (es : List ArE), v = .func (.func 212) #[] #[.pointer (some ⟨B, 0, none⟩), .pointer (some ⟨B + 1 + 1, 0, none⟩), .pointer (some ⟨B + 1, 0, none⟩)] ∧ Hid (CoSt w0 A A2 B x0 x1 x2 x3 a 1 es wx))
  case first =>
    have HF00 : Hid (Fr (fun _ => False) w0 w0.drew) := (Fr.refl _ _).drew
    refine wp_region_held_drew (S := fun W => W.heap[P]? = some (.cells #[.string r.name, .int .i64 r.rank, .int .i64 r.digits, .int .i64 r.lo, .int .i64 r.hi, .slice ma r.mcc.length mc, .bool r.am.isSome, .int .i64 (r.am.getD (0, 0)).1, .int .i64 (r.am.getD (0, 0)).2, .slice ca r.cur.length cc, .bool r.decline, .bool r.cheapest, .slice pa r.routes.length pc, .int .i64 r.ahead] 120) ∧ W.heap[P + 1]? = some (.cells #[.string q.name, .int .i64 q.rank, .int .i64 q.digits, .int .i64 q.lo, .int .i64 q.hi, .slice ma2 q.mcc.length mc2, .bool q.am.isSome, .int .i64 (q.am.getD (0, 0)).1, .int .i64 (q.am.getD (0, 0)).2, .slice ca2 q.cur.length cc2, .bool q.decline, .bool q.cheapest, .slice pa2 q.routes.length pc2, .int .i64 q.ahead] 120)) (by kernel_rfl) (HSP.out _ HF00.out) (fun hH => ?_)
    refine held_take 0 (v := ?v0z) rfl (by kernel_rfl) (by kernel_rfl) (by kernel_rfl) (fun _ _ _ h => h) rfl ?y0z hH ?r0z
    case y0z =>
      rintro w ⟨s0, s1⟩
      obtain ⟨c0, c1, c2, c3, c4, c5, c6, c7, c8, c9, c10, c11, c12, c13⟩ := cells14 s0
      obtain ⟨d0, d1, d2, d3, d4, d5, d6, d7, d8, d9, d10, d11, d12, d13⟩ := cells14 s1
      clear s0 s1
      go_simp
      with_reducible rfl
    try go_frame
    refine held_take 2 (v := ?v2z) rfl (by kernel_rfl) (by kernel_rfl) (by kernel_rfl) (fun _ _ _ h => h) rfl ?y2z hH ?r2z
    case y2z =>
      rintro w ⟨s0, s1⟩
      obtain ⟨c0, c1, c2, c3, c4, c5, c6, c7, c8, c9, c10, c11, c12, c13⟩ := cells14 s0
      obtain ⟨d0, d1, d2, d3, d4, d5, d6, d7, d8, d9, d10, d11, d12, d13⟩ := cells14 s1
      clear s0 s1
      go_simp
      with_reducible rfl
    try go_frame
    refine wpAnyH_ready (rs := [1]) (by kernel_rfl) (by simp) ?_
    refine held_cons rfl (fun K2 hK => ?_) AllReadyH.nil
    try rw [if_pos (by rfl)]
    go_simp
    refine (HA1.out _ HF00.out).mono ?_
    rintro e wa ⟨⟨x0, x1, x2, x3, rfl, hav, hnw⟩, hf⟩
    have HV1 := hid hav
    have HN1 := hid hnw
    have HFa := hid (HF00.out.trans hf)
    clear hav hnw hf
    refine hK.out _ _ (HSP.out _ HFa.out) (fun hH => ?_)
    clear hK K2
    try go_frame
    refine wpAnyH_ready (rs := [3]) (by kernel_rfl) (by simp) ?_
    refine held_cons rfl (fun K2 hK => ?_) AllReadyH.nil
    try rw [if_pos (by rfl)]
    go_simp
    refine (HA2.out _ HFa.out).mono ?_
    rintro e wb ⟨⟨y0, y1, y2, y3, rfl, hav, hnw⟩, hf⟩
    have HFb := hid (HFa.out.trans hf)
    have HP := hid (CoPre.mk1 (w0 := w0) (HV1.out.fr hf) (HN1.out.more HF00.out.size hf.size) hav (hnw.more HFa.out.size (Nat.le_refl _)) HFb.out)
    clear hav hnw hf
    refine hK.out _ _ (HSP.out _ HFb.out) (fun hH => ?_)
    clear hK K2
    try go_frame
    refine wpAnyH_ready (rs := [4]) (by kernel_rfl) (by simp) ?_
    refine held_cons rfl (fun K2 hK => ?_) AllReadyH.nil
    try rw [if_pos (by rfl)]
    go_simp
    refine hK.out _ _ (HSP.out _ HP.out.fr) (fun hH => ?_)
    clear hK K2
    try go_frame
    refine wpAnyH_ready (rs := [5]) (by kernel_rfl) (by simp) ?_
    refine held_cons rfl (fun K2 hK => ?_) AllReadyH.nil
    try rw [if_pos (by rfl)]
    go_simp
    refine HP.out.pays.mono ?_
    rintro e wd ⟨B, rfl, hco⟩
    have HCo := hid hco
    clear hco
    refine hK.out _ _ (HSP.out _ HCo.out.fr) (fun hH => ?_)
    clear hK K2
    try go_frame
    refine wpAnyH_done (by kernel_rfl) ?_ _
    go_wp2_with fail
    go_meet
    exact ⟨B, _, _, _, _, _, _, rfl, HCo⟩
  case rest =>
    obtain ⟨B, x0, x1, x2, x3, a, es, rfl, HCo⟩ := hcut
    generalize wc = w2 at *
    go_wp2_with fail
    generalize Value.agg #[.string r.name, .int .i64 r.rank, .int .i64 r.digits, .int .i64 r.lo, .int .i64 r.hi, .slice ma r.mcc.length mc, .bool r.am.isSome, .int .i64 (r.am.getD (0, 0)).1, .int .i64 (r.am.getD (0, 0)).2, .slice ca r.cur.length cc, .bool r.decline, .bool r.cheapest, .slice pa r.routes.length pc, .int .i64 r.ahead] = RV1
    generalize Value.agg #[.string q.name, .int .i64 q.rank, .int .i64 q.digits, .int .i64 q.lo, .int .i64 q.hi, .slice ma2 q.mcc.length mc2, .bool q.am.isSome, .int .i64 (q.am.getD (0, 0)).1, .int .i64 (q.am.getD (0, 0)).2, .slice ca2 q.cur.length cc2, .bool q.decline, .bool q.cheapest, .slice pa2 q.routes.length pc2, .int .i64 q.ahead] = RV2
    have hCo := HCo.out
    have e1 : w.heap.size = P := HP1.out
    have e2 : w0.heap.size = P + 4 := HZ0.out
    have e3 := hCo.lo
    have e5 := hCo.sz
    have o2 := hCo.fr.whole HB2.out (by simp)
    have o3 := hCo.fr.whole HB3.out (by simp)
    obtain ⟨S, hSd⟩ : ∃ S : Nat → Prop, S = fun k => k = P + 1 + 1 ∨ k = P + 1 + 1 + 1 := ⟨_, rfl⟩
    have hS2 : S (P + 1 + 1) := by rw [hSd]; exact .inl rfl
    have hS3 : S (P + 1 + 1 + 1) := by rw [hSd]; exact .inr rfl
    have hSl : ∀ k, S k → k < P + 4 ∧ P ≤ k := fun k hk => by rw [hSd] at hk; rcases hk with h | h <;> omega
    have hseq : SeqO Tryz.prog 212 #[.pointer (some ⟨B, 0, none⟩), .pointer (some ⟨B + 1 + 1, 0, none⟩), .pointer (some ⟨B + 1, 0, none⟩)] paE (andRd S w2.heap.size) (fromM A 4 es) w2 := by
      have nR : ∀ i, w0.heap.size ≤ i → i < B + 3 → ¬ andRd S w2.heap.size i := by
        rintro i g1 g2 (h | h | h)
        · have := hSl i h; omega
        · omega
        · omega
      have hl1 : es.length = 1 := by have := congrArg List.length hCo.em; simpa using this
      refine fromD_seq A x0 x1 x2 x3 (fun i _ => HNe.out i) 4 (Nat.le_refl _) B (B + 1 + 1) (B + 1) 1 _ a es w2 (by omega) (fun e he i s _ hs => ?_) (fun W hf => ?_)
      · have : e.A ∈ es.map ArE.A := List.mem_map_of_mem he
        rw [hCo.em, List.mem_singleton] at this
        rw [this] at hs
        exact HBd.out i s hs
      · have ba := hf.whole hCo.b1 (nR _ (by omega) (by omega))
        refine ⟨block_cell (hf.whole hCo.b0 (nR _ (by omega) (by omega))) 0 _ rfl, ?_, block_cell ba 0 _ rfl, block_cell ba 1 _ rfl, block_cell ba 2 _ rfl, block_cell ba 3 _ rfl, ?_, ?_⟩
        · rw [hl1]; exact block_cell (hf.whole hCo.b2 (nR _ (by omega) (by omega))) 0 _ rfl
        · exact hCo.ar.frS hf (fun x hx g o e hlt => nR g (hCo.nw x hx g o e).1 (by omega))
        · refine hCo.ars.frS hf (fun g o e hlt => nR g (hCo.an g o e).1 (by omega)) (fun e he => ?_)
          obtain ⟨k, hk⟩ := List.mem_iff_getElem?.1 he
          exact ArV.frS (hCo.ars k e hk).1 hf (fun x hx g o e' hlt => nR g (hCo.en e he x hx g o e').1 (by omega))
    obtain ⟨xs, hxs⟩ : ∃ xs, fromM A 4 es = xs := ⟨_, rfl⟩
    rw [hxs] at hseq
    have HXs : Hid (comY A A2 = xs.find? fun y => decide (0 < y.2)) := by
      show _ = _
      unfold comY
      rw [← hxs, fromM_map (A := A) 4 (es := es) (es' := [⟨A2, ⟨none, 0⟩, ⟨none, 0⟩, ⟨none, 0⟩, ⟨none, 0⟩⟩]) hCo.em]
    have HPB : Hid (P + 1 + 1 + 1 < w2.heap.size) := by show _ < _; omega
    have HFw : Hid (Fr (fun _ => False) w w2) := HF0.out.trans hCo.fr
    have HPw : Hid (∀ k, S k → w.heap.size ≤ k) := fun k hk => by have := hSl k hk; omega
    have HS2 := hid hS2
    have HS3 := hid hS3
    have hSw : ∀ k, S k → k < w2.heap.size := fun k hk => by have := hSl k hk; omega
    clear hSd hS2 hS3 hSl hxs e1 e2 e3 e5 hCo HCo HBd HNe HSP HA1 HA2 HB0 HB1 HB2 HB3 HF0 HZ0 HP1
    refine (wpIn_wide (n := 2)).1 ?_
    refine range_own (n := 0) (S := S) rfl (enters_of Tryz.func212 (by kernel_rfl) rfl) hseq (Fr.refl _ _) (fun _ => rfl) hSw
      (fun pre W => (∀ y, y ∈ pre → y.2 = 0) ∧ (W.heap[P + 1 + 1]? = some (.cells #[.int .i64 0, .int .i64 0, .int .i64 0, .int .i64 0] 139) ∧ (W.heap[P + 1 + 1 + 1]? = some (.cells #[.bool false] 4) ∧ Fr S w2 W)))
      (fun co pre W => ∃ pre' y, (co = .ret ∧ pre = pre' ++ [y] ∧ (∀ z, z ∈ pre' → z.2 = 0) ∧ 0 < y.2) ∧ (W.heap[P + 1 + 1]? = some (.cells #[.int .i64 (y.1.p0 : Nat), .int .i64 (y.1.p1 : Nat), .int .i64 (y.1.p2 : Nat), .int .i64 (y.1.p3 : Nat)] 139) ∧ (W.heap[P + 1 + 1 + 1]? = some (.cells #[.bool true] 4) ∧ Fr S w2 W)))
      (OwnB.and (OwnB.pure (fun (pre : List (PaM × Nat)) => ∀ y, y ∈ pre → y.2 = 0)) (OwnB.and (OwnB.block (by have := HPB.out; omega)) (OwnB.and (OwnB.block HPB.out) (OwnB.fr (Nat.le_refl _)))))
      (fun co s W W' hs hf => by
        obtain ⟨pre', y, g1, g2, g3, g4⟩ := hs
        exact ⟨pre', y, g1, OwnB.block (β := Unit) (M := w2.heap.size) (by have := HPB.out; omega) () W W' g2 hf, OwnB.block (β := Unit) (M := w2.heap.size) HPB.out () W W' g3 hf, OwnB.fr (β := Unit) (M := w2.heap.size) (Nat.le_refl _) () W W' g4 hf⟩)
      ⟨by simp, o2, o3, Fr.refl _ _⟩
      (fun x m a' W => ∃ Bx, m ≤ Bx ∧ W.heap[Bx]? = some (.cells #[.int .i64 (x.1.p0 : Nat), .int .i64 (x.1.p1 : Nat), .int .i64 (x.1.p2 : Nat), .int .i64 (x.1.p3 : Nat)] 139) ∧ a' = { tmps := #[RV1, RV2, .pointer (some ⟨P, 0, none⟩), .pointer (some ⟨P + 1, 0, none⟩), .pointer (some ⟨P + 1 + 1, 0, none⟩), .pointer (some ⟨P + 1 + 1 + 1, 0, none⟩), .pointer (some ⟨Bx, 0, none⟩), .int .i64 (x.2 : Nat), u8, u9, u10, u11, u12, .func (.func 212) #[] #[.pointer (some ⟨B, 0, none⟩), .pointer (some ⟨B + 1 + 1, 0, none⟩), .pointer (some ⟨B + 1, 0, none⟩)], paV x.1, .int .i64 (x.2 : Nat), undef, undef, undef, undef], defers := [] })
      (fun x m a' s A B row hs hg hr => by obtain ⟨Bx, g1, g2, g3⟩ := hs; exact ⟨Bx, g1, ownFrom_block (C := w2.heap.size) () A B row g2 hg hr, g3⟩) ?assign ?body ?done ?stop
    case assign =>
      rintro pre x W K hp ⟨g1, g2, g3, g4⟩ hK
      unfold paE paV
      gi_wp2
      have f : Fr (fun _ => False) W (W.alloc (.cells #[.int .i64 (x.1.p0 : Nat), .int .i64 (x.1.p1 : Nat), .int .i64 (x.1.p2 : Nat), .int .i64 (x.1.p3 : Nat)] 139)) := (Fr.refl _ _).alloc _
      exact hK _ _ (f.mono (fun _ h => h.elim)) ⟨g1, f.whole g2 (by simp), f.whole g3 (by simp), g4.trans (f.mono (fun _ h => h.elim))⟩ ⟨W.heap.size, Nat.le_refl _, heap_alloc_new W _, rfl⟩
    case body =>
      rintro pre x m a' W hp hm ⟨g1, g2, g3, g4⟩ ⟨Bx, hBx, hb, rfl⟩
      have HI := hid g1
      have HF := hid g4
      have HO2 := hid g2
      have HO3 := hid g3
      have HBb := hid hb
      clear hseq o2 o3 hSw g1 g4
      by_cases hx : 0 < x.2
      · have hz : (0 : Int) < (x.2 : Int) := by omega
        have HX := hid hx
        have y0 := block_cell hb 0 _ rfl
        have y1 := block_cell hb 1 _ rfl
        have y2 := block_cell hb 2 _ rfl
        have y3 := block_cell hb 3 _ rfl
        have c0 := block_cell g2 0 _ rfl
        have c1 := block_cell g2 1 _ rfl
        have c2 := block_cell g2 2 _ rfl
        have c3 := block_cell g2 3 _ rfl
        have z0 := block_frozen g2 0
        have z1 := block_frozen g2 1
        have z2 := block_frozen g2 2
        have z3 := block_frozen g2 3
        have d0 := block_cell g3 0 _ rfl
        have d1 := block_frozen g3 0
        clear hb g2 g3
        gi_wp2
        obtain ⟨k2, k3, k4⟩ := put5 (b := true) HO2.out HO3.out x.1.p0 x.1.p1 x.1.p2 x.1.p3
        have k5 := k4.mono (T := S) (by rintro k (rfl | rfl); exact HS2.out; exact HS3.out)
        exact ⟨k5.mono (fun k h => .inl h), pre, x, ⟨rfl, rfl, HI.out, HX.out⟩, k2, k3, HF.out.trans k5⟩
      · have hz : ¬ (0 : Int) < (x.2 : Int) := by omega
        have HX := hid hx
        clear hx hb g2 g3
        have HK : Hid (∀ y, y ∈ pre ++ [x] → y.2 = 0) := fun y hy => by
          rcases List.mem_append.1 hy with hy | hy
          · exact HI.out y hy
          · rw [List.mem_singleton.1 hy]; have := HX.out; omega
        gi_wp2
        exact ⟨Fr.refl _ _, fun a b h => HK.out (a, b) h, HO2.out, HO3.out, HF.out⟩
    case done =>
      rintro W ⟨g1, g2, g3, g4⟩ hD
      have HI := hid g1
      have HF := hid g4
      have HO2 := hid g2
      have HO3 := hid g3
      have HD := hid hD
      have c0 := block_cell g2 0 _ rfl
      have c1 := block_cell g2 1 _ rfl
      have c2 := block_cell g2 2 _ rfl
      have c3 := block_cell g2 3 _ rfl
      have z0 := block_frozen g2 0
      have z1 := block_frozen g2 1
      have z2 := block_frozen g2 2
      have z3 := block_frozen g2 3
      have d0 := block_cell g3 0 _ rfl
      have d1 := block_frozen g3 0
      clear g1 g2 g3 g4 hD hseq o2 o3 hSw
      go_wp2_with fail
      obtain ⟨k2, k3, k4⟩ := put5 (b := false) HO2.out HO3.out 0 0 0 0
      have k5 := k4.mono (T := S) (by rintro k (rfl | rfl); exact HS2.out; exact HS3.out)
      refine com_end (S := S) (y := (⟨0, 0, 0, 0⟩, 0)) HPB.out HFw.out HPw.out (HF.out.trans k5) (k4.whole HD.out (by rintro (h | h) <;> (have := HPB.out; omega))) k2 k3 ?_
      rw [HXs.out, show (xs.find? fun y => decide (0 < y.2)) = none from by
        rw [List.find?_eq_none]
        intro y hy
        simp [HI.out y hy]]
      rfl
    case stop =>
      rintro co pre W hp ⟨pre', y, ⟨rfl, rfl, g1, g2⟩, g3, g4, g5⟩ hD
      have HI := hid (show (∀ z, z ∈ pre' → z.2 = 0) ∧ 0 < y.2 from ⟨g1, g2⟩)
      have HF := hid g5
      have HO2 := hid g3
      have HO3 := hid g4
      have HD := hid hD
      have HP := hid hp
      clear g1 g2 g3 g4 g5 hD hseq o2 o3 hSw hp
      gi_wp2
      refine com_end (S := S) (y := y) HPB.out HFw.out HPw.out HF.out HD.out HO2.out HO3.out ?_
      rw [HXs.out, show (xs.find? fun y => decide (0 < y.2)) = some y from by
        obtain ⟨t, ht⟩ := HP.out
        rw [← ht, List.find?_append, List.find?_append]
        have e : (pre'.find? fun y => decide (0 < y.2)) = none := by
          rw [List.find?_eq_none]
          intro z hz
          simp [HI.out.1 z hz]
        rw [e]
        simp [HI.out.2]]
      rfl
end Go.Proofs.YtccikgogjfbpeaaGreatDoor
