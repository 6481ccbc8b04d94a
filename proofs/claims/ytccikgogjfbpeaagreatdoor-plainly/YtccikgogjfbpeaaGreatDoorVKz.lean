/- Lists of numbers that came in, read. -/
import Derived.Test.YtccikgogjfbpeaaGreatDoorVKc
import Derived.ProofKit
import Derived.OpenShut
import Derived.Carry
import Derived.SizedLaws
import Derived.Deep.Slices
import Derived.Deep.DeepHandedRow
namespace Go.Proofs.YtccikgogjfbpeaaGreatDoor
open Go.ChangeShapes Go.WideShapes Go.ChangeAt Go.RowKit Go.Deep

theorem own : ownKnob Tryz.prog.godebug = none := by kernel_rfl
theorem laidOut : laidOutB Tryz.prog = true := by kernel_rfl
theorem cellsInt : Tryz.prog.cellsOf 3 = 1 := by kernel_rfl
theorem wf_in {a : Int} (h : (Lit.int .i64 a).wf = true) : InI a := (by simpa [Lit.wf] using h : IntKind.i64.min ≤ a ∧ a ≤ 9223372036854775807)
theorem listI_of {Q : Nat → Int → Prop} : ∀ n, (∀ i, i < n → ∃ s, Q i s) → ∃ l : List Int, l.length = n ∧ ∀ k s, l[k]? = some s → Q k s
 | 0, _ => ⟨[], rfl, fun k s h => by simp at h⟩
 | n + 1, h => by
  obtain ⟨l, h1, h2⟩ := listI_of n (fun i hi => h i (by omega))
  obtain ⟨s, hs⟩ := h n (by omega)
  refine ⟨l ++ [s], by simp [h1], fun k s' hk => ?_⟩
  by_cases hkn : k < l.length
  ·rw [List.getElem?_append_left hkn] at hk
   exact h2 k s' hk
  ·rw [List.getElem?_append_right (by omega)] at hk
   have : k - l.length = 0 := by have := (List.getElem?_eq_some_iff.1 hk).1; simp at this; omega
   rw [this] at hk
   injection hk with hk
   subst hk
   have : k = n := by omega
   subst this
   exact hs
/-- A list of numbers, read. -/
theorem ints_read {H : Type} {enc : TypeId × Value → H} {w : World} {base : Nat} {spare : Nat → Bool} {held : Bool} {n : Nat} {v : Value} {x : DataW H × List MemPlace} (h : DataW.trod enc Tryz.prog w base spare held n 25 [v] = some x) :
  ∃ (da : Option Addr) (dn dc : Nat) (dl : List Int), v = .slice da dn dc ∧ dl.length = dn ∧ RawAt w da dl ∧ (∀ y, y ∈ dl → InI y) ∧ dn ≤ dc := by
 rcases open_slice Tryz.underlying25 h with ⟨hcs, _⟩ | ⟨a, len, cap, m, n, D, Pl, hcs, hb, hl, hm, hmm, hx, hel⟩
 ·simp only [List.cons.injEq, and_true] at hcs
  exact ⟨none, 0, 0, [], hcs, rfl, fun k s hk => by simp at hk, fun y hy => (by simp at hy), Nat.le_refl _⟩
 ·simp only [List.cons.injEq, and_true] at hcs
  have hlm : len ≤ m := by rw [hmm]; split <;> omega
  obtain ⟨dl, h1, h2⟩ := listI_of (Q := fun k s => w.cell? (a.add k) = some (.int .i64 s) ∧ InI s) len (fun i hi => by
   obtain ⟨cs', e1, e2⟩ := hel i (by omega)
   rw [cellsInt, Nat.mul_one] at e1
   obtain ⟨s, e3, _, e4⟩ := DataW.trod_int Tryz.underlying3 e2
   subst e3
   obtain ⟨_, _, hc⟩ := World.cells?_some e1
   have := hc 0 (by simp)
   refine ⟨s, ?_, wf_in e4⟩
   simpa [Addr.add] using this)
  refine ⟨some a, len, cap, dl, hcs, h1, fun k s hk => ?_, fun y hy => ?_, hl⟩
  ·have hc := (h2 k s hk).1
   obtain ⟨g, o, spot⟩ := a
   have h00 : 0 < dl.length := by have := (List.getElem?_eq_some_iff.1 hk).1; omega
   have hc0 := (h2 0 _ (List.getElem?_eq_getElem h00)).1
   have hspot : spot = none := by simpa [Addr.add] using World.cell?_spot hc0
   subst hspot
   exact ⟨g, o, rfl, by rw [addr_add'] at hc; exact hc⟩
  ·obtain ⟨k, hk, rfl⟩ := List.getElem_of_mem hy
   exact (h2 k _ (List.getElem?_eq_getElem hk)).2
end Go.Proofs.YtccikgogjfbpeaaGreatDoor
