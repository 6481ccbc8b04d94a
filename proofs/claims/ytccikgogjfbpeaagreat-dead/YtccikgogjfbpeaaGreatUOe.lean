/- Lists of numbers that came in, read. For every two lists of numbers and every number Dead answers true, and the lists read afterwards as they did: without the rules that are told to be dead every payment is decided as with them, and none of those left is dead; a rule of the greatest rank that is first among all is not dead, the same rule once more behind it, of the same rank, is. No condition. -/
import Derived.Test.YtccikgogjfbpeaaGreatUKc
import Derived.ProofKit
import Derived.OpenShut
import Derived.Carry
import Derived.SizedLaws
import Derived.Deep.Slices
import Derived.Deep.DeepHandedRow
import Derived.Test.YtccikgogjfbpeaaGreatRows
import Derived.Test.YtccikgogjfbpeaaGreatUOd
namespace Go.Proofs.YtccikgogjfbpeaaGreat
open Go.ChangeShapes Go.WideShapes Go.ChangeAt Go.RowKit Go.Deep

theorem own : ownKnob Tryz.prog.godebug = none := by kernel_rfl
theorem laidOut : laidOutB Tryz.prog = true := by kernel_rfl
theorem cellsInt : Tryz.prog.cellsOf 3 = 1 := by kernel_rfl
theorem wf_in {a : Int} (h : (Lit.int .i64 a).wf = true) : InI a := (by simpa [Lit.wf] using h : IntKind.i64.min ≤ a ∧ a ≤ 9223372036854775807)
theorem listI_of {Q : Nat → Int → Prop} : ∀ n, (∀ i, i < n → ∃ s, Q i s) → ∃ l : List Int, l.length = n ∧ ∀ k s, l[k]? = some s → Q k s
 | 0, _ => ⟨[], rfl, fun k s h => by simp at h⟩
 | n + 1, h => by
  obtain ⟨l, h1, h2⟩ := listI_of n (fun i hi => h i (by omega))
  obtain ⟨s, hs⟩ := h n (by omega)
  refine ⟨l ++ [s], by simp [h1], fun k s' hk => ?_⟩
  by_cases hkn : k < l.length
  ·rw [List.getElem?_append_left hkn] at hk
   exact h2 k s' hk
  ·rw [List.getElem?_append_right (by omega)] at hk
   have : k - l.length = 0 := by have := (List.getElem?_eq_some_iff.1 hk).1; simp at this; omega
   rw [this] at hk
   injection hk with hk
   subst hk
   have : k = n := by omega
   subst this
   exact hs
/-- A list of numbers, read. -/
theorem ints_read {H : Type} {enc : TypeId × Value → H} {w : World} {base : Nat} {spare : Nat → Bool} {held : Bool} {n : Nat} {v : Value} {x : DataW H × List MemPlace} (h : DataW.trod enc Tryz.prog w base spare held n 22 [v] = some x) :
  ∃ (da : Option Addr) (dn dc : Nat) (dl : List Int), v = .slice da dn dc ∧ dl.length = dn ∧ RawAt w da dl ∧ (∀ y, y ∈ dl → InI y) ∧ dn ≤ dc := by
 rcases open_slice Tryz.underlying22 h with ⟨hcs, _⟩ | ⟨a, len, cap, m, n, D, Pl, hcs, hb, hl, hm, hmm, hx, hel⟩
 ·simp only [List.cons.injEq, and_true] at hcs
  exact ⟨none, 0, 0, [], hcs, rfl, fun k s hk => by simp at hk, fun y hy => (by simp at hy), Nat.le_refl _⟩
 ·simp only [List.cons.injEq, and_true] at hcs
  have hlm : len ≤ m := by rw [hmm]; split <;> omega
  obtain ⟨dl, h1, h2⟩ := listI_of (Q := fun k s => w.cell? (a.add k) = some (.int .i64 s) ∧ InI s) len (fun i hi => by
   obtain ⟨cs', e1, e2⟩ := hel i (by omega)
   rw [cellsInt, Nat.mul_one] at e1
   obtain ⟨s, e3, _, e4⟩ := DataW.trod_int Tryz.underlying3 e2
   subst e3
   obtain ⟨_, _, hc⟩ := World.cells?_some e1
   have := hc 0 (by simp)
   refine ⟨s, ?_, wf_in e4⟩
   simpa [Addr.add] using this)
  refine ⟨some a, len, cap, dl, hcs, h1, fun k s hk => ?_, fun y hy => ?_, hl⟩
  ·have hc := (h2 k s hk).1
   obtain ⟨g, o, spot⟩ := a
   have h00 : 0 < dl.length := by have := (List.getElem?_eq_some_iff.1 hk).1; omega
   have hc0 := (h2 0 _ (List.getElem?_eq_getElem h00)).1
   have hspot : spot = none := by simpa [Addr.add] using World.cell?_spot hc0
   subst hspot
   exact ⟨g, o, rfl, by rw [addr_add'] at hc; exact hc⟩
  ·obtain ⟨k, hk, rfl⟩ := List.getElem_of_mem hy
   exact (h2 k _ (List.getElem?_eq_getElem hk)).2
end Go.Proofs.YtccikgogjfbpeaaGreat

namespace Go.Proofs.YtccikgogjfbpeaaGreat
open Go.ChangeShapes Go.WideShapes Go.ChangeAt Go.RowKit Go.Deep

set_option maxRecDepth 100000 in
theorem dead_lifted (os : Os) (started : os.Started) (H : Type) (enc : TypeId × Value → H) :
  ReturnsInHanded {} Tryz.checked os 5 .any (Rows.deadSpec.pre6 enc Tryz.prog Tryz.f5 Rows.deadRow.domain false) (Rows.deadSpec.post enc Tryz.prog Tryz.f5 false true false false) := by
 refine returnsInHanded_of_change (C := Tryz.checked) own started (by kernel_rfl) Tryz.func5
  (ChangeSpec.witness6 (enc := enc) (C := Tryz.checked) false ⟨#[], #[.slice none 0 0, .slice none 0 0, .int .i64 0], []⟩ 8 (by kernel_rfl) (by kernel_rfl) (by kernel_rfl) (by kernel_rfl)) ?_
 intro W base args ds gs before hval0 hW hcnd _
 have hval : ∀ (j : Nat) t v, Tryz.f5.params[j]? = some t → args[j]? = some v → Value.okWide Tryz.prog W .any base t v := hval0
 have hW' := hW
 obtain ⟨p, q, hA0, hV, rfl, _, _⟩ := hW
 have hA : DataW.TrodAll enc Tryz.prog W 0 (fun _ => true) true Tryz.f5.params.toList args.toList ds p := hA0
 rw [Tryz.params5] at hA hval
 obtain ⟨v0, vs0, d0, ds0, p0, q0, hargs, rfl, rfl, h0, r0⟩ := trodAll_cons hA
 obtain ⟨v1, vs1, d1, ds1, p1, q1, rfl, rfl, rfl, h1, r1⟩ := trodAll_cons r0
 obtain ⟨v2, vs2, d2, ds2, p2, q2, rfl, rfl, rfl, h2, r2⟩ := trodAll_cons r1
 obtain ⟨rfl, rfl, rfl⟩ := trodAll_nil r2
 obtain rfl : args = #[v0, v1, v2] := by cases args; simp_all
 obtain ⟨rfl, rfl⟩ := trodVars_none hV
 obtain ⟨a1, rfl, rfl, rfl, w1⟩ := open_int Tryz.underlying3 (hval 2 3 v2 rfl rfl) h2
 have h0k := h0
 have h2k := h1
 obtain ⟨fuel, hf⟩ := h0
 obtain ⟨fuel2, hf2⟩ := h1
 clear hA0 hval0
 simp only [List.append_nil] at hW'
 have hlt : ∀ x ∈ p0, x.block < W.heap.size := fun x hx => by simpa using hW'.lt x (by simp [hx])
 have hlt2 : ∀ x ∈ p1, x.block < W.heap.size := fun x hx => by simpa using hW'.lt x (by simp [hx])
 obtain ⟨da, dn, dc, rfl⟩ := okWide_slice Tryz.underlying22 (hval 0 22 v0 rfl rfl)
 obtain ⟨ea, en, ec, rfl⟩ := okWide_slice Tryz.underlying22 (hval 1 22 v1 rfl rfl)
 obtain ⟨da', dn', dc', dl, e, l1, l2, l3, l4⟩ := ints_read hf
 injection e with e1 e2 e3
 subst e1 e2 e3
 obtain ⟨ea', en', ec', el, e, m1, m2, m3, m4⟩ := ints_read hf2
 injection e with e1 e2 e3
 subst e1 e2 e3
 refine (kDead_any W da dn dc dl ea en ec el a1 l1 l4 l2 l3 (wf_in w1) m1 m2 m3).mono fun e W' ⟨he, hfr⟩ => ?_
 subst he
 have hB : Below W.heap.size W W' := hfr.below (Nat.le_refl _) (by simp)
 exact ⟨_, rfl, ⟨_, _, _, [], _, [], hW', trodAll_mk1 (shut_bool Tryz.underlying4 true), trodAll_cons_mk (Below.trod laidOut (by kernel_rfl) (of_decide_eq_true (by kernel_rfl)) h0k hB hlt) (trodAll_cons_mk (Below.trod laidOut (by kernel_rfl) (of_decide_eq_true (by kernel_rfl)) h2k hB hlt2) (trodAll_cons_mk (shut_int Tryz.underlying3 w1) trodAll_mk0)), rfl, hB.frame _, fun h => by cases h⟩⟩
/-- The statement. -/
theorem dead_said : Rows.DeadSaid :=
 OpenClaim.holds_of_wide 5 Tryz.f5 rfl rfl rfl rfl rfl rfl rfl ⟨rfl, rfl, rfl, rfl, rfl⟩ rfl rfl rfl rfl rfl (by kernel_rfl) Tryz.func5 (by kernel_rfl)
  (of_decide_eq_true (by kernel_rfl)) (by unfold Func.isWrapper; first | (rw [if_pos (by decide +kernel)]; kernel_rfl) | (rw [if_neg (by decide +kernel)]; exact ⟨rfl, rfl⟩))
  (fun os started H enc _ => dead_lifted os started H enc)
end Go.Proofs.YtccikgogjfbpeaaGreat
