/- Compile, walked. -/
import Derived.Test.YtepajndigiflgaaGreatDoorQm
namespace Go.Proofs.YtepajndigiflgaaGreatDoor
open Go.RowKit

def CPost (x : Except (Nat × Nat) (List RouteM × List RuleM)) (w : World) (e : Ending) (w' : World) : Prop :=
  match x with
  | .ok p => (∃ T B vr vl xs, e = .returned (.tuple #[.pointer (some ⟨T, 0, none⟩), .int .i64 0, .int .i64 0]) ∧ w.heap.size ≤ T ∧ w'.cell? ⟨T, 0, none⟩ = some (.pointer (some ⟨B, 0, none⟩)) ∧ w.heap.size ≤ B ∧ Bk w' B vr vl p.1 p.2 xs) ∧ Below w.heap.size w w'
  | .error f => e = .returned (.tuple #[.pointer none, .int .i64 f.1, .int .i64 f.2]) ∧ Below w.heap.size w w'
theorem CPost.ok {x : Except (Nat × Nat) (List RouteM × List RuleM)} {w w' : World} {e : Ending} {p : List RouteM × List RuleM} (h : x = .ok p) : CPost x w e w' ↔ (∃ T B vr vl xs, e = .returned (.tuple #[.pointer (some ⟨T, 0, none⟩), .int .i64 0, .int .i64 0]) ∧ w.heap.size ≤ T ∧ w'.cell? ⟨T, 0, none⟩ = some (.pointer (some ⟨B, 0, none⟩)) ∧ w.heap.size ≤ B ∧ Bk w' B vr vl p.1 p.2 xs) ∧ Below w.heap.size w w' := by subst h; exact Iff.rfl
theorem CPost.err {x : Except (Nat × Nat) (List RouteM × List RuleM)} {w w' : World} {e : Ending} {f : Nat × Nat} (h : x = .error f) : CPost x w e w' ↔ e = .returned (.tuple #[.pointer none, .int .i64 f.1, .int .i64 f.2]) ∧ Below w.heap.size w w' := by subst h; exact Iff.rfl

set_option maxRecDepth 30000 in
set_option maxHeartbeats 400000 in
theorem Compile_any (s : ByteArray) (w : World) : Calls Tryz.prog 10 #[.string s] w (CPost (readM s) w) := by
  have hmf : ∀ (fn : Fn) (first cap : Array Value) (w : World), (Instr.makeFunc fn first cap).run Tryz.prog w = .ok (.func fn first cap) w := fun _ _ _ _ => rfl
  go_enter_defers Tryz.func10, Tryz.ntmps10
  go_wp2_with fail
  refine (Read_any s _).mono ?_
  intro e w1 hT
  have hw0 : Fr (fun _ => False) w (((w.alloc (.cells #[.pointer none] 51)).alloc (.cells #[.int .i64 0] 52)).alloc (.cells #[.int .i64 0] 3)) := (((Fr.refl _ _).alloc _).alloc _).alloc _
  have q0 : (((w.alloc (.cells #[.pointer none] 51)).alloc (.cells #[.int .i64 0] 52)).alloc (.cells #[.int .i64 0] 3)).heap[w.heap.size]? = some (.cells #[.pointer none] 51) := (((Fr.refl (fun _ => False) _).alloc _).alloc _).whole (heap_alloc_new w _) (by simp)
  have q1 : (((w.alloc (.cells #[.pointer none] 51)).alloc (.cells #[.int .i64 0] 52)).alloc (.cells #[.int .i64 0] 3)).heap[w.heap.size + 1]? = some (.cells #[.int .i64 0] 52) := ((Fr.refl (fun _ => False) _).alloc _).whole (by have := heap_alloc_new (w.alloc (.cells #[.pointer none] 51)) (.cells #[.int .i64 0] 52); simpa using this) (by simp)
  have q2 : (((w.alloc (.cells #[.pointer none] 51)).alloc (.cells #[.int .i64 0] 52)).alloc (.cells #[.int .i64 0] 3)).heap[w.heap.size + 1 + 1]? = some (.cells #[.int .i64 0] 3) := by have := heap_alloc_new ((w.alloc (.cells #[.pointer none] 51)).alloc (.cells #[.int .i64 0] 52)) (.cells #[.int .i64 0] 3); simpa using this
  have hsz : w.heap.size ≤ (((w.alloc (.cells #[.pointer none] 51)).alloc (.cells #[.int .i64 0] 52)).alloc (.cells #[.int .i64 0] 3)).heap.size := hw0.size
  generalize ((w.alloc (.cells #[.pointer none] 51)).alloc (.cells #[.int .i64 0] 52)).alloc (.cells #[.int .i64 0] 3) = w0 at *
  cases hR : readM s with
  | error f =>
    obtain ⟨he, hf⟩ := (RPost.err hR).1 hT
    unfold faultE at he
    subst he
    have hfr : Fr (fun _ => False) w0 w1 := Fr.of_below hf
    refine leaves_cons (f := 25) (args := #[.pointer (some ⟨w.heap.size, 0, none⟩), .pointer (some ⟨w.heap.size + 1, 0, none⟩), .pointer (some ⟨w.heap.size + 1 + 1, 0, none⟩)]) (by simp) (by simp [go_sem]) ?_
    refine (catch_panicking w.heap.size (w.heap.size + 1) (w.heap.size + 1 + 1) f.1 f.2 _ _ _ w1 (block_cell (hfr.whole q0 (by simp)) 0 _ rfl) (block_cell (hfr.whole q1 (by simp)) 0 _ rfl) (block_cell (hfr.whole q2 (by simp)) 0 _ rfl) (block_frozen (hfr.whole q0 (by simp)) 0) (block_frozen (hfr.whole q1 (by simp)) 0) (block_frozen (hfr.whole q2 (by simp)) 0) (by omega) (by omega) (by omega) (by omega) (by omega) (by omega)).mono ?_
    rintro e u' w2 ⟨rfl, rfl, a0, a1, a2, hf2⟩
    have hB : Below w.heap.size w w2 := (hw0.trans hfr).below (Nat.le_refl _) (by simp) |>.trans (hf2.below (Nat.le_trans hsz hfr.size) (fun k hk => by omega))
    simp [Leaves, settle, results, Tryz.results10, go_sem, a0, a1, a2]
    exact (CPost.err rfl).2 ⟨rfl, hB⟩
  | ok p =>
    obtain ⟨⟨B, vr, vl, xs, rfl, hB, hk⟩, hf⟩ := (RPost.ok hR).1 hT
    have hfr : Fr (fun _ => False) w0 w1 := Fr.of_below hf
    have hn1 : w.heap.size + 1 + 1 < w1.heap.size := Nat.lt_of_lt_of_le (Array.getElem?_eq_some_iff.1 q2).1 hfr.size
    have hfa : Fr (fun _ => False) w0 (w1.alloc (.cells #[.pointer (some ⟨B, 0, none⟩)] 84)) := hfr.alloc _
    have c0 := block_cell (hfa.whole q0 (by simp)) 0 _ rfl
    have c1 := block_cell (hfa.whole q1 (by simp)) 0 _ rfl
    have c2 := block_cell (hfa.whole q2 (by simp)) 0 _ rfl
    have z0 := block_frozen (hfa.whole q0 (by simp)) 0
    have z1 := block_frozen (hfa.whole q1 (by simp)) 0
    have z2 := block_frozen (hfa.whole q2 (by simp)) 0
    have HK : Hid (Bk w1 B vr vl p.1 p.2 xs) := hk
    have HF : Hid (Fr (fun _ => False) w w1) := hw0.trans hfr
    have HBs : Hid (w0.heap.size ≤ B) := hB
    have H0 : Hid (w.heap.size + 1 + 1 < w0.heap.size) := (Array.getElem?_eq_some_iff.1 q2).1
    have HR : Hid (readM s = .ok p) := hR
    clear hfa hk hfr hf hw0 q0 q1 q2 hsz hB hT hR
    go_wp2_with fail
    have oth : ∀ (v : World) (x y : Nat) (u : Value), ¬ x = y → (v.setCell ⟨x, 0, none⟩ u).cell? ⟨y, 0, none⟩ = v.cell? ⟨y, 0, none⟩ := fun v x y u h => World.cell?_setCell_other _ _ _ _ (fun e => h (by injection e))
    have hT := block_cell (heap_alloc_new w1 (.cells #[.pointer (some ⟨B, 0, none⟩)] 84)) 0 _ rfl
    have HW : Fr (fun j => j = w.heap.size ∨ j = w.heap.size + 1 ∨ j = w.heap.size + 1 + 1) w1 ((((w1.alloc (.cells #[.pointer (some ⟨B, 0, none⟩)] 84)).setCell ⟨w.heap.size, 0, none⟩ (.pointer (some ⟨w1.heap.size, 0, none⟩))).setCell ⟨w.heap.size + 1, 0, none⟩ (.int .i64 0)).setCell ⟨w.heap.size + 1 + 1, 0, none⟩ (.int .i64 0)) := ((((Fr.refl _ _).alloc _).setCell (Or.inl (Or.inl rfl)) _).setCell (Or.inl (Or.inr (Or.inl rfl))) _).setCell (Or.inl (Or.inr (Or.inr rfl))) _
    have d0 := (oth _ (w.heap.size + 1 + 1) w.heap.size (.int .i64 0) (by omega)).trans ((oth _ (w.heap.size + 1) w.heap.size (.int .i64 0) (by omega)).trans (World.cell?_setCell_same _ _ (.pointer (some ⟨w1.heap.size, 0, none⟩)) c0))
    have d1 := (oth _ (w.heap.size + 1 + 1) (w.heap.size + 1) (.int .i64 0) (by omega)).trans (World.cell?_setCell_same _ _ (.int .i64 0) ((oth _ w.heap.size (w.heap.size + 1) (.pointer (some ⟨w1.heap.size, 0, none⟩)) (by omega)).trans c1))
    have d2 := World.cell?_setCell_same _ _ (.int .i64 0) ((oth _ (w.heap.size + 1) (w.heap.size + 1 + 1) (.int .i64 0) (by omega)).trans ((oth _ w.heap.size (w.heap.size + 1 + 1) (.pointer (some ⟨w1.heap.size, 0, none⟩)) (by omega)).trans c2))
    have dT := (oth _ (w.heap.size + 1 + 1) w1.heap.size (.int .i64 0) (by omega)).trans ((oth _ (w.heap.size + 1) w1.heap.size (.int .i64 0) (by omega)).trans ((oth _ w.heap.size w1.heap.size (.pointer (some ⟨w1.heap.size, 0, none⟩)) (by omega)).trans hT))
    generalize ((((w1.alloc (.cells #[.pointer (some ⟨B, 0, none⟩)] 84)).setCell ⟨w.heap.size, 0, none⟩ (.pointer (some ⟨w1.heap.size, 0, none⟩))).setCell ⟨w.heap.size + 1, 0, none⟩ (.int .i64 0)).setCell ⟨w.heap.size + 1 + 1, 0, none⟩ (.int .i64 0)) = W at *
    refine leaves_cons (f := 25) (args := #[.pointer (some ⟨w.heap.size, 0, none⟩), .pointer (some ⟨w.heap.size + 1, 0, none⟩), .pointer (some ⟨w.heap.size + 1 + 1, 0, none⟩)]) (by simp) (by simp [go_sem]) ?_
    refine (catch_idle w.heap.size (w.heap.size + 1) (w.heap.size + 1 + 1) W).mono ?_
    rintro e u' w2 ⟨rfl, rfl, hf2⟩
    have a0 := (hf2.cell (p := ⟨w.heap.size, 0, none⟩) (World.block_lt_of_cell? W _ d0) (by simp)).trans d0
    have a1 := (hf2.cell (p := ⟨w.heap.size + 1, 0, none⟩) (World.block_lt_of_cell? W _ d1) (by simp)).trans d1
    have a2 := (hf2.cell (p := ⟨w.heap.size + 1 + 1, 0, none⟩) (World.block_lt_of_cell? W _ d2) (by simp)).trans d2
    have aT := (hf2.cell (p := ⟨w1.heap.size, 0, none⟩) (World.block_lt_of_cell? W _ dT) (by simp)).trans dT
    have h0 := H0.out
    have hb := HBs.out
    have hk2 := (HK.out.fr HW (fun k hk => by omega)).fr hf2 (by simp)
    have hb2 : Below w.heap.size w w2 := (HF.out.below (Nat.le_refl _) (by simp)).trans ((HW.below (by omega) (fun k hk => by omega)).trans (hf2.below (by have := HW.size; omega) (by simp)))
    simp [Leaves, settle, results, Tryz.results10, go_sem, a0, a1, a2]
    exact (CPost.ok HR.out).2 ⟨⟨_, _, _, _, _, rfl, by omega, aT, by omega, hk2⟩, hb2⟩
end Go.Proofs.YtepajndigiflgaaGreatDoor
