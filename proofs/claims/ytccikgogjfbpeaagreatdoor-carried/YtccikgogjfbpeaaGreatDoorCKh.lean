/- Rules of raw numbers, one above them, one below: what is read and what is decided; plain. Lists of numbers that came in, read. -/
import Derived.Test.YtccikgogjfbpeaaGreatDoorCKg
import Derived.Test.YtccikgogjfbpeaaGreatDoorCKc
import Derived.ProofKit
import Derived.OpenShut
import Derived.Carry
import Derived.SizedLaws
import Derived.Deep.Slices
import Derived.Deep.DeepHandedRow
namespace Go.Proofs.YtccikgogjfbpeaaGreatDoor
theorem dig1 {k : Nat} (h : k < 10) : digL k 1 = [UInt8.ofNat (48 + k)] := by
 rw [digL_step (by omega), show k / 10 = 0 from by omega, show 1 - 1 = 0 from rfl, digL_zero, show k % 10 = k from by omega]
 rfl
def rN (i : Nat) : List UInt8 := 114 :: digL i 1
theorem rN_NmL {i : Nat} (h : i < 8) : NmL (rN i) := by
 unfold rN
 rw [dig1 (by omega)]
 have : i = 0 ∨ i = 1 ∨ i = 2 ∨ i = 3 ∨ i = 4 ∨ i = 5 ∨ i = 6 ∨ i = 7 := by omega
 rcases this with rfl | rfl | rfl | rfl | rfl | rfl | rfl | rfl <;> exact nmL_of rfl (by decide) (by decide) (by decide) (by decide)
theorem rN_ne {i j : Nat} (h : i ≠ j) : ((bs (rN j)).toList == (bs (rN i)).toList) = false := by
 rw [bs_toList, bs_toList]
 cases he : (rN j == rN i) with
 | false => rfl
 | true =>
  have e := eq_of_beq he
  unfold rN at e
  injection e with _ e
  have := congrArg numOf e
  rw [tx_num, tx_num] at this
  omega
theorem act_ok {k : Nat} (h : k < 6) : (∀ w, w ∈ actR k → NmL w) ∧ ((actD k = true ∧ actC k = false ∧ actR k = []) ∨ (actD k = false ∧ actR k ≠ [])) := by
 have nb : NmL [98] := nmL_of rfl (by decide) (by decide) (by decide) (by decide)
 have nc : NmL [99] := nmL_of rfl (by decide) (by decide) (by decide) (by decide)
 have na := nm_a
 have : k = 0 ∨ k = 1 ∨ k = 2 ∨ k = 3 ∨ k = 4 ∨ k = 5 := by omega
 rcases this with rfl | rfl | rfl | rfl | rfl | rfl
 ·exact ⟨fun w hw => (by cases hw), .inl ⟨rfl, rfl, rfl⟩⟩
 all_goals
  refine ⟨fun w hw => ?_, .inr ⟨by decide, by simp [actR]⟩⟩
  simp [actR] at hw
 ·subst hw; exact na
 ·rcases hw with rfl | rfl <;> assumption
 ·rcases hw with rfl | rfl | rfl <;> assumption
 ·rcases hw with rfl | rfl <;> assumption
 ·rcases hw with rfl | rfl | rfl <;> assumption
theorem rlK_lt (c : Int) : rlK c < 6 := pickK_lt _ 6 (by decide)
theorem rlX_ok {i : Nat} (h : i < 8) (c : Int) : (rlX i c).Ok :=
 gd_ok (rN_NmL h) (tx_DgL (by have := pickK_lt (c.tdiv 41) 3 (by decide); omega)) (act_ok (rlK_lt c)).1 (act_ok (rlK_lt c)).2
theorem rlX_fit (i : Nat) (c : Int) : (rlX i c).Fit := gd_fit (by rw [tx_num]; have := pickK_lt (c.tdiv 41) 3 (by decide); omega)
def rlM (i : Nat) (c : Int) : RuleM := (rlX i c).rl (actP (rlK c)) 3
theorem hasName_app (nm : ByteArray) : ∀ (a b : List RuleM), hasName nm (a ++ b) = (hasName nm a || hasName nm b)
 | [], b => by simp [hasName]
 | r :: a, b => by
  simp only [List.cons_append, hasName]
  split
  ·rfl
  ·exact hasName_app nm a b
def rsX (l : List Int) (i : Nat) : Nat → List RuX
 | 0 => []
 | k + 1 => rlX i (rawK l i) :: rsX l (i + 1) k
def rsM (l : List Int) (i : Nat) : Nat → List RuleM
 | 0 => []
 | k + 1 => rlM i (rawK l i) :: rsM l (i + 1) k
def rsE (l : List Int) (line i : Nat) : Nat → List EntE
 | 0 => []
 | k + 1 => .rule ((rlX i (rawK l i)).ent line) :: rsE l (line + 1) (i + 1) k
def rsT (l : List Int) (i : Nat) : Nat → List UInt8
 | 0 => []
 | k + 1 => rlT i (rawK l i) ++ rsT l (i + 1) k
theorem rs_tx (l : List Int) {t : List UInt8} {xs : List EntE} : ∀ (k i line : Nat), i + k ≤ 8 → TxL t (line + k) xs → TxL (rsT l i k ++ t) line (rsE l line i k ++ xs)
 | 0, _, _, _, h => h
 | k + 1, i, line, hk, h => by
  have ih := rs_tx l k (i + 1) (line + 1) (by omega) (by rw [show line + 1 + k = line + (k + 1) from by omega]; exact h)
  have := tx_rule (rlX_ok (i := i) (by omega) (rawK l i)) (tx_nl ih)
  simpa [rsT, rlT, rsE] using this
theorem rs_under (l : List Int) {xs : List EntE} : ∀ (k i line : Nat) (rls : List RuleM), rls.length + k ≤ 8 → (∀ j, i ≤ j → j < i + k → hasName (bs (rN j)) rls = false) → underM rts3 rls (rsE l line i k ++ xs) = underM rts3 (rls ++ rsM l i k) xs
 | 0, _, _, rls, _, _ => by simp [rsE, rsM]
 | k + 1, i, line, rls, hk, hn => by
  have ih := rs_under l (xs := xs) k (i + 1) (line + 1) (rls ++ [rlM i (rawK l i)]) (by simp; omega) (fun j h1 h2 => by
   rw [hasName_app, hn j (by omega) (by omega)]
   show hasName _ [rlM i (rawK l i)] = false
   have e := rN_ne (i := j) (j := i) (by omega)
   simp only [hasName]
   rw [show (rlM i (rawK l i)).name = bs (rN i) from rfl, if_neg (by rw [e]; decide)])
  simp only [rsE, List.cons_append]
  rw [under_rule (r := rlX i (rawK l i)) (ps := actP (rlK (rawK l i))) (by omega) (hn i (by omega) (by omega)) (rlX_fit i _) (pls3 (rlK_lt _))]
  show underM rts3 (rls ++ [rlM i (rawK l i)]) _ = _
  rw [ih, List.append_assoc]
  rfl
theorem rsT_len (l : List Int) : ∀ (k i : Nat), i + k ≤ 100 → (rsT l i k).length ≤ 90 * k
 | 0, _, _ => by simp [rsT]
 | k + 1, i, h => by
  have h1 := rsT_len l k (i + 1) (by omega)
  have h2 := rlT_len (i := i) (by omega) (rawK l i)
  simp only [rsT, List.length_append]
  omega
theorem rsT_flat (l : List Int) : ∀ (k i : Nat), rsT l i k = ((List.range' i k).map fun j => bs (rlT j (rawK l j))).flatMap fun b => b.data.toList
 | 0, _ => rfl
 | k + 1, i => by
  rw [List.range'_succ]
  simp only [rsT, List.map_cons, List.flatMap_cons]
  rw [rsT_flat l k (i + 1)]
theorem whT_rl (l : List Int) (m : Nat) : whT (rlL l m) = routes3 ++ rsT l 0 m := by
 unfold whT rlL
 rw [rsT_flat, List.range_eq_range']
theorem rsM_len (l : List Int) : ∀ (k i : Nat), (rsM l i k).length = k
 | 0, _ => rfl
 | k + 1, i => by simp [rsM, rsM_len l k (i + 1)]
theorem base_read (l : List Int) (m : Nat) (hm : m ≤ 8) : readM (bs (whT (rlL l m))) = .ok (rts3, rsM l 0 m) := by
 have h := tx_routes3 (rs_tx l m 0 2 (by omega) (tx_nil _))
 have e : whT (rlL l m) = routes3 ++ (rsT l 0 m ++ []) := by rw [whT_rl, List.append_nil]
 have hl := rsT_len l m 0 (by omega)
 rw [e, readM_of h (by simp [routes3]; omega), under_routes3, rs_under l m 0 2 [] (by simp; omega) (fun j _ _ => rfl)]
 rfl
end Go.Proofs.YtccikgogjfbpeaaGreatDoor

namespace Go.Proofs.YtccikgogjfbpeaaGreatDoor
open Go.ChangeShapes Go.WideShapes Go.ChangeAt Go.RowKit Go.Deep
theorem own : ownKnob Tryz.prog.godebug = none := by kernel_rfl
theorem laidOut : laidOutB Tryz.prog = true := by kernel_rfl
theorem cellsInt : Tryz.prog.cellsOf 3 = 1 := by kernel_rfl
theorem wf_in {a : Int} (h : (Lit.int .i64 a).wf = true) : InI a := (by simpa [Lit.wf] using h : IntKind.i64.min ≤ a ∧ a ≤ 9223372036854775807)
theorem listI_of {Q : Nat → Int → Prop} : ∀ n, (∀ i, i < n → ∃ s, Q i s) → ∃ l : List Int, l.length = n ∧ ∀ k s, l[k]? = some s → Q k s
 | 0, _ => ⟨[], rfl, fun k s h => by simp at h⟩
 | n + 1, h => by
  obtain ⟨l, h1, h2⟩ := listI_of n (fun i hi => h i (by omega))
  obtain ⟨s, hs⟩ := h n (by omega)
  refine ⟨l ++ [s], by simp [h1], fun k s' hk => ?_⟩
  by_cases hkn : k < l.length
  ·rw [List.getElem?_append_left hkn] at hk
   exact h2 k s' hk
  ·rw [List.getElem?_append_right (by omega)] at hk
   have : k - l.length = 0 := by have := (List.getElem?_eq_some_iff.1 hk).1; simp at this; omega
   rw [this] at hk
   injection hk with hk
   subst hk
   have : k = n := by omega
   subst this
   exact hs
theorem ints_read {H : Type} {enc : TypeId × Value → H} {w : World} {base : Nat} {spare : Nat → Bool} {held : Bool} {n : Nat} {v : Value} {x : DataW H × List MemPlace} (h : DataW.trod enc Tryz.prog w base spare held n 25 [v] = some x) :
  ∃ (da : Option Addr) (dn dc : Nat) (dl : List Int), v = .slice da dn dc ∧ dl.length = dn ∧ RawAt w da dl ∧ (∀ y, y ∈ dl → InI y) ∧ dn ≤ dc := by
 rcases open_slice Tryz.underlying25 h with ⟨hcs, _⟩ | ⟨a, len, cap, m, n, D, Pl, hcs, hb, hl, hm, hmm, hx, hel⟩
 ·simp only [List.cons.injEq, and_true] at hcs
  exact ⟨none, 0, 0, [], hcs, rfl, fun k s hk => by simp at hk, fun y hy => (by simp at hy), Nat.le_refl _⟩
 ·simp only [List.cons.injEq, and_true] at hcs
  have hlm : len ≤ m := by rw [hmm]; split <;> omega
  obtain ⟨dl, h1, h2⟩ := listI_of (Q := fun k s => w.cell? (a.add k) = some (.int .i64 s) ∧ InI s) len (fun i hi => by
   obtain ⟨cs', e1, e2⟩ := hel i (by omega)
   rw [cellsInt, Nat.mul_one] at e1
   obtain ⟨s, e3, _, e4⟩ := DataW.trod_int Tryz.underlying3 e2
   subst e3
   obtain ⟨_, _, hc⟩ := World.cells?_some e1
   have := hc 0 (by simp)
   refine ⟨s, ?_, wf_in e4⟩
   simpa [Addr.add] using this)
  refine ⟨some a, len, cap, dl, hcs, h1, fun k s hk => ?_, fun y hy => ?_, hl⟩
  ·have hc := (h2 k s hk).1
   obtain ⟨g, o, spot⟩ := a
   have h00 : 0 < dl.length := by have := (List.getElem?_eq_some_iff.1 hk).1; omega
   have hc0 := (h2 0 _ (List.getElem?_eq_getElem h00)).1
   have hspot : spot = none := by simpa [Addr.add] using World.cell?_spot hc0
   subst hspot
   exact ⟨g, o, rfl, by rw [addr_add'] at hc; exact hc⟩
  ·obtain ⟨k, hk, rfl⟩ := List.getElem_of_mem hy
   exact (h2 k _ (List.getElem?_eq_getElem hk)).2
end Go.Proofs.YtccikgogjfbpeaaGreatDoor
