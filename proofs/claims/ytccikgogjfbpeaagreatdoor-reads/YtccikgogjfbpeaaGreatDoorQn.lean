/- Compile, walked. -/
import Derived.Test.YtccikgogjfbpeaaGreatDoorQm
import Derived.Test.YtccikgogjfbpeaaGreatDoorZa
import Derived.Test.YtccikgogjfbpeaaGreatDoorGi
namespace Go.Proofs.YtccikgogjfbpeaaGreatDoor
open Go.RowKit

theorem StVs.less {zb zb' : Nat} {w : World} (h : zb' ≤ zb) : ∀ {l : List StepM} {xs : List Value}, StVs zb w l xs → StVs zb' w l xs
 | [], _, e => e
 | _ :: _, _, ⟨c, rest, e, ⟨vn, e1, h1⟩, h2⟩ => ⟨c, rest, e, ⟨vn, e1, ownsRow_base h1 h⟩, StVs.less h h2⟩
theorem TreeAt.less {zb zb' : Nat} {w : World} {T : Nat} {vr : Value} {R : List RuleM} {ord : Nat → Nat} (h : TreeAt zb w T vr R ord) (hz : zb' ≤ zb) : TreeAt zb' w T vr R ord := by
 obtain ⟨vn, vp, a, b, h1, h2, ⟨xs, h3, h4⟩, h5⟩ := h.bx
 refine ⟨Nat.le_trans hz h.tz, vn, vp, a, b, h1, ownsRow_base h2 hz, ⟨xs, ownsRow_base h3 hz, fun j m hj => ?_⟩, TrAt.low hz _ _ h5⟩
 obtain ⟨vj, e1, ys, e2, e3⟩ := h4 j m hj
 exact ⟨vj, e1, ys, ownsRow_base e2 hz, e3.less hz⟩
theorem Grow_book (w : World) (B : Nat) (vr vl : Value) (rts : List RouteM) (rls : List RuleM) (xs : List Value) (zb : Nat) (hk : Bk w B vr vl rts rls xs) (ho : BookOk rts rls) (hz : zb ≤ B) :
  Calls Tryz.prog 51 #[.pointer (some ⟨B, 0, none⟩)] w fun e w' => (∃ T, e = .returned (.pointer (some ⟨T, 0, none⟩)) ∧ w.heap.size ≤ T ∧ TreeAt zb w' T vr rls (stageF (rankF rls) rls.length)) ∧ Fr (fun _ => False) w w' := by
 have hBl : B < w.heap.size := World.block_lt_of_cell? w _ hk.c0
 obtain ⟨ra, rc, e1⟩ := ownsRow_len hk.ro
 subst e1
 obtain ⟨va, c, e2⟩ := ownsRow_len hk.lo
 subst e2
 refine Grow_any w B ra rts.length rc va rls.length c rls rfl hk.l8 (fun k h => stage_lt _ _ _ h) (fun r hr => ⟨(ho.rl r hr).mc.1, (ho.rl r hr).cu.1⟩) (fun r hr => ⟨⟨(ho.rl r hr).bn.1, (ho.rl r hr).bn.2.1⟩, ?_⟩) (by omega) hk.c0 hk.c1 (fun i r hi => ?_)
 ·obtain ⟨h1, h2, h3⟩ := (ho.rl r hr).bn
  have : 10 ^ r.digits ≤ 10 ^ 6 := Nat.pow_le_pow_right (by omega) h1
  omega
 ·obtain ⟨cs, ⟨vm, vc, vp, e, h1, h2, h3⟩, hc⟩ := hk.ru.at' hi
  obtain ⟨ma, mc, e4⟩ := ownsRow_len h1
  subst e4
  obtain ⟨ca, cc, e5⟩ := ownsRow_len h2
  subst e5
  obtain ⟨pa, pc, e6⟩ := ownsRow_len h3
  subst e6
  have hlt := (List.getElem?_eq_some_iff.1 hi).1
  obtain ⟨g, c', e7, hb, hl⟩ := hk.lo.form (by omega)
  injection e7 with e7 e8 e9
  subst e7 e9
  refine ⟨g, ma, mc, ca, cc, pa, pc, rfl, hl, fun o v hv => ?_, ownsRow_base h1 (by omega), ownsRow_base h2 (by omega), ownsRow_base h3 (by omega)⟩
  have hx := hk.lo.cells (g := g) rfl _ _ (hc o v (by rw [e]; exact hv))
  rw [addr_add', Nat.zero_add] at hx
  exact hx
def CPost (x : Except (Nat × Nat) (List RouteM × List RuleM)) (w : World) (e : Ending) (w' : World) : Prop :=
 match x with
 | .ok p => (∃ T B TT vr vl xs, e = .returned (.tuple #[.pointer (some ⟨T, 0, none⟩), .int .i64 0, .int .i64 0]) ∧ w.heap.size ≤ T ∧ w'.cell? ⟨T, 0, none⟩ = some (.pointer (some ⟨B, 0, none⟩)) ∧ w'.cell? ⟨T, 1, none⟩ = some (.pointer (some ⟨TT, 0, none⟩)) ∧ w.heap.size ≤ B ∧ Bk w' B vr vl p.1 p.2 xs ∧ TreeAt w.heap.size w' TT vr p.2 (stageF (rankF p.2) p.2.length)) ∧ Below w.heap.size w w'
 | .error f => e = .returned (.tuple #[.pointer none, .int .i64 f.1, .int .i64 f.2]) ∧ Below w.heap.size w w'
theorem CPost.ok {x : Except (Nat × Nat) (List RouteM × List RuleM)} {w w' : World} {e : Ending} {p : List RouteM × List RuleM} (h : x = .ok p) : CPost x w e w' ↔ (∃ T B TT vr vl xs, e = .returned (.tuple #[.pointer (some ⟨T, 0, none⟩), .int .i64 0, .int .i64 0]) ∧ w.heap.size ≤ T ∧ w'.cell? ⟨T, 0, none⟩ = some (.pointer (some ⟨B, 0, none⟩)) ∧ w'.cell? ⟨T, 1, none⟩ = some (.pointer (some ⟨TT, 0, none⟩)) ∧ w.heap.size ≤ B ∧ Bk w' B vr vl p.1 p.2 xs ∧ TreeAt w.heap.size w' TT vr p.2 (stageF (rankF p.2) p.2.length)) ∧ Below w.heap.size w w' := by subst h; exact Iff.rfl
theorem CPost.err {x : Except (Nat × Nat) (List RouteM × List RuleM)} {w w' : World} {e : Ending} {f : Nat × Nat} (h : x = .error f) : CPost x w e w' ↔ e = .returned (.tuple #[.pointer none, .int .i64 f.1, .int .i64 f.2]) ∧ Below w.heap.size w w' := by subst h; exact Iff.rfl

set_option maxRecDepth 30000 in
set_option maxHeartbeats 400000 in
theorem Compile_any (s : ByteArray) (w : World) : Calls Tryz.prog 32 #[.string s] w (CPost (readM s) w) := by
 have hmf : ∀ (fn : Fn) (first cap : Array Value) (w : World), (Instr.makeFunc fn first cap).run Tryz.prog w = .ok (.func fn first cap) w := fun _ _ _ _ => rfl
 go_enter_defers Tryz.func32, Tryz.ntmps32
 go_wp2_with fail
 refine (Read_any s _).mono ?_
 intro e w1 hT
 have hw0 : Fr (fun _ => False) w (((w.alloc (.cells #[.pointer none] 31)).alloc (.cells #[.int .i64 0] 74)).alloc (.cells #[.int .i64 0] 3)) := (((Fr.refl _ _).alloc _).alloc _).alloc _
 have q0 : (((w.alloc (.cells #[.pointer none] 31)).alloc (.cells #[.int .i64 0] 74)).alloc (.cells #[.int .i64 0] 3)).heap[w.heap.size]? = some (.cells #[.pointer none] 31) := (((Fr.refl (fun _ => False) _).alloc _).alloc _).whole (heap_alloc_new w _) (by simp)
 have q1 : (((w.alloc (.cells #[.pointer none] 31)).alloc (.cells #[.int .i64 0] 74)).alloc (.cells #[.int .i64 0] 3)).heap[w.heap.size + 1]? = some (.cells #[.int .i64 0] 74) := ((Fr.refl (fun _ => False) _).alloc _).whole (by have := heap_alloc_new (w.alloc (.cells #[.pointer none] 31)) (.cells #[.int .i64 0] 74); simpa using this) (by simp)
 have q2 : (((w.alloc (.cells #[.pointer none] 31)).alloc (.cells #[.int .i64 0] 74)).alloc (.cells #[.int .i64 0] 3)).heap[w.heap.size + 1 + 1]? = some (.cells #[.int .i64 0] 3) := by have := heap_alloc_new ((w.alloc (.cells #[.pointer none] 31)).alloc (.cells #[.int .i64 0] 74)) (.cells #[.int .i64 0] 3); simpa using this
 have hsz : w.heap.size ≤ (((w.alloc (.cells #[.pointer none] 31)).alloc (.cells #[.int .i64 0] 74)).alloc (.cells #[.int .i64 0] 3)).heap.size := hw0.size
 generalize ((w.alloc (.cells #[.pointer none] 31)).alloc (.cells #[.int .i64 0] 74)).alloc (.cells #[.int .i64 0] 3) = w0 at *
 cases hR : readM s with
 | error f =>
  obtain ⟨he, hf⟩ := (RPost.err hR).1 hT
  unfold faultE at he
  subst he
  have hfr : Fr (fun _ => False) w0 w1 := Fr.of_below hf
  refine leaves_cons (f := 57) (args := #[.pointer (some ⟨w.heap.size, 0, none⟩), .pointer (some ⟨w.heap.size + 1, 0, none⟩), .pointer (some ⟨w.heap.size + 1 + 1, 0, none⟩)]) (by simp) (by simp [go_sem]) ?_
  refine (catch_panicking w.heap.size (w.heap.size + 1) (w.heap.size + 1 + 1) f.1 f.2 _ _ _ w1 (block_cell (hfr.whole q0 (by simp)) 0 _ rfl) (block_cell (hfr.whole q1 (by simp)) 0 _ rfl) (block_cell (hfr.whole q2 (by simp)) 0 _ rfl) (block_frozen (hfr.whole q0 (by simp)) 0) (block_frozen (hfr.whole q1 (by simp)) 0) (block_frozen (hfr.whole q2 (by simp)) 0) (by omega) (by omega) (by omega) (by omega) (by omega) (by omega)).mono ?_
  rintro e u' w2 ⟨rfl, rfl, a0, a1, a2, hf2⟩
  have hB : Below w.heap.size w w2 := (hw0.trans hfr).below (Nat.le_refl _) (by simp) |>.trans (hf2.below (Nat.le_trans hsz hfr.size) (fun k hk => by omega))
  simp [Leaves, settle, results, Tryz.results32, go_sem, a0, a1, a2]
  exact (CPost.err rfl).2 ⟨rfl, hB⟩
 | ok p =>
  obtain ⟨⟨B, vr, vl, xs, rfl, hB, hk⟩, hf⟩ := (RPost.ok hR).1 hT
  have hfr : Fr (fun _ => False) w0 w1 := Fr.of_below hf
  have HGR : Hid (Calls Tryz.prog 51 #[.pointer (some ⟨B, 0, none⟩)] w1 fun e w' => (∃ T, e = .returned (.pointer (some ⟨T, 0, none⟩)) ∧ w1.heap.size ≤ T ∧ TreeAt w0.heap.size w' T vr p.2 (stageF (rankF p.2) p.2.length)) ∧ Fr (fun _ => False) w1 w') := Grow_book w1 B vr vl p.1 p.2 xs w0.heap.size hk (readM_book hR) hB
  have HK : Hid (Bk w1 B vr vl p.1 p.2 xs) := hk
  have HF0 : Hid (Fr (fun _ => False) w0 w1) := hfr
  have HW0 : Hid (Fr (fun _ => False) w w0) := hw0
  have HQ0 : Hid (w0.heap[w.heap.size]? = some (.cells #[.pointer none] 31)) := q0
  have HQ1 : Hid (w0.heap[w.heap.size + 1]? = some (.cells #[.int .i64 0] 74)) := q1
  have HQ2 : Hid (w0.heap[w.heap.size + 1 + 1]? = some (.cells #[.int .i64 0] 3)) := q2
  have HBs : Hid (w0.heap.size ≤ B) := hB
  have HR : Hid (readM s = .ok p) := hR
  clear hk hfr hf hw0 q0 q1 q2 hsz hB hT hR
  go_wp2_with fail
  refine HGR.out.mono ?_
  rintro e w2 ⟨⟨TT, rfl, hTT, hTr⟩, hf12⟩
  have hfr2 : Fr (fun _ => False) w0 w2 := HF0.out.trans hf12
  have hn1 : w.heap.size + 1 + 1 < w2.heap.size := Nat.lt_of_lt_of_le (Array.getElem?_eq_some_iff.1 HQ2.out).1 hfr2.size
  have hfa : Fr (fun _ => False) w0 (w2.alloc (.cells #[.pointer (some ⟨B, 0, none⟩), .pointer (some ⟨TT, 0, none⟩)] 80)) := hfr2.alloc _
  have c0 := block_cell (hfa.whole HQ0.out (by simp)) 0 _ rfl
  have c1 := block_cell (hfa.whole HQ1.out (by simp)) 0 _ rfl
  have c2 := block_cell (hfa.whole HQ2.out (by simp)) 0 _ rfl
  have z0 := block_frozen (hfa.whole HQ0.out (by simp)) 0
  have z1 := block_frozen (hfa.whole HQ1.out (by simp)) 0
  have z2 := block_frozen (hfa.whole HQ2.out (by simp)) 0
  have HK2 : Hid (Bk w2 B vr vl p.1 p.2 xs ∧ TreeAt w0.heap.size w2 TT vr p.2 (stageF (rankF p.2) p.2.length)) := ⟨HK.out.fr hf12 (by simp), hTr⟩
  have HF : Hid (Fr (fun _ => False) w w2) := HW0.out.trans hfr2
  have H0 : Hid (w.heap.size + 1 + 1 < w0.heap.size ∧ w.heap.size ≤ w0.heap.size) := ⟨(Array.getElem?_eq_some_iff.1 HQ2.out).1, HW0.out.size⟩
  clear hfa hfr2 hf12 hTr hTT
  go_wp2_with fail
  have oth : ∀ (v : World) (x y o : Nat) (u : Value), ¬ x = y → (v.setCell ⟨x, 0, none⟩ u).cell? ⟨y, o, none⟩ = v.cell? ⟨y, o, none⟩ := fun v x y o u h => World.cell?_setCell_other _ _ _ _ (fun e => h (by injection e))
  have hT := block_cell (heap_alloc_new w2 (.cells #[.pointer (some ⟨B, 0, none⟩), .pointer (some ⟨TT, 0, none⟩)] 80)) 0 _ rfl
  have hT1 := block_cell (heap_alloc_new w2 (.cells #[.pointer (some ⟨B, 0, none⟩), .pointer (some ⟨TT, 0, none⟩)] 80)) 1 _ rfl
  have HW : Fr (fun j => j = w.heap.size ∨ j = w.heap.size + 1 ∨ j = w.heap.size + 1 + 1) w2 ((((w2.alloc (.cells #[.pointer (some ⟨B, 0, none⟩), .pointer (some ⟨TT, 0, none⟩)] 80)).setCell ⟨w.heap.size, 0, none⟩ (.pointer (some ⟨w2.heap.size, 0, none⟩))).setCell ⟨w.heap.size + 1, 0, none⟩ (.int .i64 0)).setCell ⟨w.heap.size + 1 + 1, 0, none⟩ (.int .i64 0)) := ((((Fr.refl _ _).alloc _).setCell (Or.inl (Or.inl rfl)) _).setCell (Or.inl (Or.inr (Or.inl rfl))) _).setCell (Or.inl (Or.inr (Or.inr rfl))) _
  have d0 := (oth _ (w.heap.size + 1 + 1) w.heap.size 0 (.int .i64 0) (by omega)).trans ((oth _ (w.heap.size + 1) w.heap.size 0 (.int .i64 0) (by omega)).trans (World.cell?_setCell_same _ _ (.pointer (some ⟨w2.heap.size, 0, none⟩)) c0))
  have d1 := (oth _ (w.heap.size + 1 + 1) (w.heap.size + 1) 0 (.int .i64 0) (by omega)).trans (World.cell?_setCell_same _ _ (.int .i64 0) ((oth _ w.heap.size (w.heap.size + 1) 0 (.pointer (some ⟨w2.heap.size, 0, none⟩)) (by omega)).trans c1))
  have d2 := World.cell?_setCell_same _ _ (.int .i64 0) ((oth _ (w.heap.size + 1) (w.heap.size + 1 + 1) 0 (.int .i64 0) (by omega)).trans ((oth _ w.heap.size (w.heap.size + 1 + 1) 0 (.pointer (some ⟨w2.heap.size, 0, none⟩)) (by omega)).trans c2))
  have dT := (oth _ (w.heap.size + 1 + 1) w2.heap.size 0 (.int .i64 0) (by omega)).trans ((oth _ (w.heap.size + 1) w2.heap.size 0 (.int .i64 0) (by omega)).trans ((oth _ w.heap.size w2.heap.size 0 (.pointer (some ⟨w2.heap.size, 0, none⟩)) (by omega)).trans hT))
  have dT1 := (oth _ (w.heap.size + 1 + 1) w2.heap.size 1 (.int .i64 0) (by omega)).trans ((oth _ (w.heap.size + 1) w2.heap.size 1 (.int .i64 0) (by omega)).trans ((oth _ w.heap.size w2.heap.size 1 (.pointer (some ⟨w2.heap.size, 0, none⟩)) (by omega)).trans hT1))
  generalize ((((w2.alloc (.cells #[.pointer (some ⟨B, 0, none⟩), .pointer (some ⟨TT, 0, none⟩)] 80)).setCell ⟨w.heap.size, 0, none⟩ (.pointer (some ⟨w2.heap.size, 0, none⟩))).setCell ⟨w.heap.size + 1, 0, none⟩ (.int .i64 0)).setCell ⟨w.heap.size + 1 + 1, 0, none⟩ (.int .i64 0)) = W at *
  refine leaves_cons (f := 57) (args := #[.pointer (some ⟨w.heap.size, 0, none⟩), .pointer (some ⟨w.heap.size + 1, 0, none⟩), .pointer (some ⟨w.heap.size + 1 + 1, 0, none⟩)]) (by simp) (by simp [go_sem]) ?_
  refine (catch_idle w.heap.size (w.heap.size + 1) (w.heap.size + 1 + 1) W).mono ?_
  rintro e u' w3 ⟨rfl, rfl, hf2⟩
  have a0 := (hf2.cell (p := ⟨w.heap.size, 0, none⟩) (World.block_lt_of_cell? W _ d0) (by simp)).trans d0
  have a1 := (hf2.cell (p := ⟨w.heap.size + 1, 0, none⟩) (World.block_lt_of_cell? W _ d1) (by simp)).trans d1
  have a2 := (hf2.cell (p := ⟨w.heap.size + 1 + 1, 0, none⟩) (World.block_lt_of_cell? W _ d2) (by simp)).trans d2
  have aT := (hf2.cell (p := ⟨w2.heap.size, 0, none⟩) (World.block_lt_of_cell? W _ dT) (by simp)).trans dT
  have aT1 := (hf2.cell (p := ⟨w2.heap.size, 1, none⟩) (World.block_lt_of_cell? W _ dT1) (by simp)).trans dT1
  obtain ⟨h0, h00⟩ := H0.out
  have hb := HBs.out
  have hk2 := (HK2.out.1.fr HW (fun k hk => by omega)).fr hf2 (by simp)
  have htt := ((HK2.out.2.fr HW (fun k hk => by omega)).fr hf2 (by simp)).less h00
  have hb2 : Below w.heap.size w w3 := (HF.out.below (Nat.le_refl _) (by simp)).trans ((HW.below (by omega) (fun k hk => by omega)).trans (hf2.below (by have := HW.size; omega) (by simp)))
  simp [Leaves, settle, results, Tryz.results32, go_sem, a0, a1, a2]
  exact (CPost.ok HR.out).2 ⟨⟨_, _, _, _, _, _, rfl, by omega, aT, aT1, by omega, hk2, htt⟩, hb2⟩
end Go.Proofs.YtccikgogjfbpeaaGreatDoor
