/- Regions: starts. Regions: the library's Sort and Compact of numbers, in my words. Regions: starts, walked. -/
import Derived.Test.YtccikgogjfbpeaaGreatDoorYHa
import Derived.Test.YtccikgogjfbpeaaGreatDoorYZb
import Derived.Test.YtccikgogjfbpeaaGreatDoorYShelf
namespace Go.Proofs.YtccikgogjfbpeaaGreatDoor
open Go.RowKit
def st1 (side : Nat) (own : SpM) (es : List ArE) : List Nat := own.1 :: es.flatMap fun e => cutsM own (e.A.at side)
def stRaw (side : Nat) (own : List SpM) (es : List ArE) : List Nat := own.flatMap fun s => st1 side s es
theorem st1_snoc (side : Nat) (own : SpM) {es : List ArE} {k : Nat} {e : ArE} (h : es[k]? = some e) : st1 side own (es.take (k + 1)) = st1 side own (es.take k) ++ cutsM own (e.A.at side) := by
 rw [List.take_add_one, h]
 simp [st1]
theorem stRaw_snoc (side : Nat) {own : List SpM} {es : List ArE} {k : Nat} {s : SpM} (h : own[k]? = some s) : stRaw side (own.take (k + 1)) es = stRaw side (own.take k) es ++ st1 side s es := by
 rw [List.take_add_one, h]
 simp [stRaw]
theorem st1_len (side : Nat) (own : SpM) : ∀ es : List ArE, (∀ e, e ∈ es → (e.A.at side).length ≤ 10) → (st1 side own es).length ≤ 1 + 20 * es.length := by
 intro es
 induction es with
 | nil => intro _; simp [st1]
 | cons e r ih =>
  intro h
  have h1 := ih (fun x hx => h x (by simp [hx]))
  have h2 := cutsM_len own (e.A.at side)
  have h3 := h e (by simp)
  simp only [st1, List.flatMap_cons, List.length_cons, List.length_append] at *
  omega
end Go.Proofs.YtccikgogjfbpeaaGreatDoor

namespace Go.Proofs.YtccikgogjfbpeaaGreatDoor
open Go.RowKit
def asI (ns : List Nat) : List Int := ns.map fun n : Nat => (n : Int)
theorem holds_row {w : World} {base g n cap : Nat} {ns : List Nat} (h : w.ownsRow base 3 1 (.slice (some ⟨g, 0, none⟩) n cap) n (intRow ns)) : Sort.Holds (Value.int .i64) w g 0 (asI ns).toArray ∧ n ≤ cap ∧ g < w.heap.size ∧ ns.length = n ∧ base ≤ g := by
 obtain ⟨hlen, hh⟩ := h
 have hl : ns.length = n := by simpa [intRow] using hlen
 rcases hh with ⟨hh, _⟩ | ⟨g', cap', cs, e, hb, hheap, hn, hmax, hcs, hx⟩
 ·cases hh
 ·injection e with e1 e2 e3
  injection e1 with e1
  injection e1 with e1
  subst e1 e3
  refine ⟨fun j hj => ⟨?_, block_frozen hheap _⟩, hn, (Array.getElem?_eq_some_iff.1 hheap).1, hl, hb⟩
  have hj' : j < ns.length := by simpa [asI] using hj
  have hxj : (cs.toList.take (n * 1))[j]? = some (.int .i64 ((ns[j]'hj' : Nat) : Int)) := by
   rw [hx]
   simp [intRow, hj']
  rw [List.getElem?_take] at hxj
  split at hxj
  ·rw [Nat.zero_add]
   have e4 : (asI ns).toArray[j]! = ((ns[j]'hj' : Nat) : Int) := by simp [asI, hj']
   rw [e4]
   exact block_cell hheap j _ (by simpa using hxj)
  ·cases hxj
theorem fr_putRow {w : World} {g off n : Nat} {d : Array Int} {os : Array Obj} : Fr (fun k => k = g) w (Sort.grow (Sort.putRow (Value.int .i64) (Sort.ahead w n) g off d) os) := by
 refine ⟨rfl, rfl, rfl, by simp, fun k hk hn => ?_⟩
 rw [Sort.heap_grow_old _ _ (by simpa using hk)]
 unfold Sort.putRow Sort.mapBlock
 simp [Array.getElem?_modify, show ¬ g = k from fun e => hn e.symm]
def startL (ns : List Nat) : List Int := Lib.compact ((asI ns).mergeSort fun x y => decide (x ≤ y))
theorem sort_row {w : World} {base g n cap : Nat} {ns : List Nat} (h : w.ownsRow base 3 1 (.slice (some ⟨g, 0, none⟩) n cap) n (intRow ns)) (hb : n ≤ 100000) :
  Calls Tryz.prog 243 #[.slice (some ⟨g, 0, none⟩) n cap] w fun e w' => e = .returned (.tuple #[]) ∧ Sort.Holds (Value.int .i64) w' g 0 ((asI ns).mergeSort fun x y => decide (x ≤ y)).toArray ∧ Fr (fun k => k = g) w w' := by
 obtain ⟨h1, h2, h3, h4, _⟩ := holds_row h
 have hl : (asI ns).length = n := by simp [asI, h4]
 have c := Tryz.slices_Sort_int g 0 cap (asI ns) w h1 h3 (by omega)
 rw [hl] at c
 refine c.mono ?_
 rintro e w' ⟨rfl, q, os, rfl⟩
 refine ⟨rfl, Sort.holds_grow _ _ _ _ _ _ (by simpa using h3) (Sort.holds_putRow _ _ _ _ _ _ (Sort.holds_ahead _ _ q _ _ _ h1) (by simp)), fr_putRow⟩
theorem compact_row {w : World} {g n cap : Nat} {zs : List Int} (h : Sort.Holds (Value.int .i64) w g 0 zs.toArray) (hl : zs.length = n) (hc : n ≤ cap) (hb : n ≤ 100000) :
  Calls Tryz.prog 244 #[.slice (some ⟨g, 0, none⟩) n cap] w fun e w' => e = .returned (.slice (some ⟨g, 0, none⟩) (Lib.compact zs).length cap) ∧ (∀ j x, (Lib.compact zs)[j]? = some x → w'.cell? ⟨g, j, none⟩ = some (.int .i64 x)) ∧ Fr (fun k => k = g) w w' := by
 have c := Tryz.slices_Compact_int g 0 cap zs w h (by omega) (by omega)
 rw [hl] at c
 refine c.mono ?_
 rintro e w' ⟨rfl, q, rfl⟩
 have hle : (Lib.compact zs).length ≤ zs.length := Lib.compact_length_le zs
 have hH := Sort.holds_putRow (Value.int .i64) (Sort.ahead w q) g 0 zs.toArray (Lib.compact zs ++ List.replicate (n - (Lib.compact zs).length) 0).toArray (Sort.holds_ahead _ _ q _ _ _ h) (by simp; omega)
 refine ⟨rfl, fun j x hx => ?_, ?_⟩
 ·have hj := (List.getElem?_eq_some_iff.1 hx).1
  have e := (hH j (by simp; omega)).1
  rw [Nat.zero_add] at e
  rw [e]
  congr 2
  rw [getElem!_def]
  simp only [List.getElem?_toArray, List.getElem?_append, hj, if_true, hx]
 ·have f := fr_putRow (w := w) (g := g) (off := 0) (n := q) (d := (Lib.compact zs ++ List.replicate (n - (Lib.compact zs).length) 0).toArray) (os := #[])
  rw [Sort.grow_empty] at f
  exact f
end Go.Proofs.YtccikgogjfbpeaaGreatDoor

namespace Go.Proofs.YtccikgogjfbpeaaGreatDoor
open Go.RowKit
theorem wp_append_none {P : Program} {w : World} {o : Oper} {a : Act} {K : Act → World → Prop} {Q : Exit → Act → World → Prop} (s x : Operand) (t : TypeId) (ho : o.op = .call { callee := .builtin .append, args := #[s, x], argTypes := #[t, t] })
  (base : Nat) (e : TypeId) (i : TypeInfo) (size : Nat) (ht : P.underlying t = some (.slice e)) (hi : P.info? e = some i) (v : Value) (n : Nat) (xs : List Value) (hs : a.eval s = v) (hown : w.ownsRow base e size v n xs) (hx : a.eval x = .slice none 0 0)
  (h : K (a.put o.dst v) w) : o.wp P a w K Q := by
 unfold Oper.wp execOp
 simp only [ho, resolve, invoke, builtin, Sem.run_bind, Sem.run_pure, Result.andThen_ok, List.map_toArray, List.map_cons, List.map_nil, hs, hx, run_append_owned_none w base t o.type e i size ht hi v n xs hown]
 exact h
theorem stRaw_len (side : Nat) (es : List ArE) (h : ∀ e, e ∈ es → (e.A.at side).length ≤ 10) : ∀ l : List SpM, (stRaw side l es).length ≤ (1 + 20 * es.length) * l.length
 | [] => by simp [stRaw]
 | s :: r => by
  have h1 := stRaw_len side es h r
  have h2 := st1_len side s es h
  simp only [stRaw, List.flatMap_cons, List.length_append, List.length_cons, Nat.mul_add, Nat.mul_one] at *
  omega
theorem intRow_one (ns : List Nat) : ∀ u ∈ intRow ns, u.oneCell' = true := by
 intro u hu
 simp only [intRow, List.mem_map] at hu
 obtain ⟨n, _, rfl⟩ := hu
 rfl
theorem intRow_len (ns : List Nat) : (intRow ns).length = ns.length := by simp [intRow]
theorem intRow_app (a b : List Nat) : intRow (a ++ b) = intRow a ++ intRow b := by simp [intRow]
theorem ArE.at {w : World} {e : ArE} (h : e.ok w) (k : Nat) : SpAt w (slAt e.x0 e.x1 e.x2 e.x3 k).a (e.A.at k) := ArV.at h k
theorem compactUpTo_mem (d : Array Int) : ∀ m x, x ∈ Lib.compactUpTo d m ↔ ∃ j, j < m ∧ x = d[j]! := by
 intro m
 induction m with
 | zero => intro x; simp [Lib.compactUpTo]
 | succ m ih =>
  intro x
  rw [Lib.compactUpTo_succ, List.mem_append, ih]
  constructor
  ·rintro (⟨j, hj, rfl⟩ | h)
   ·exact ⟨j, by omega, rfl⟩
   ·split at h
    ·exact ⟨m, by omega, by simpa using h⟩
    ·cases h
  ·rintro ⟨j, hj, rfl⟩
   by_cases hlt : j < m
   ·exact Or.inl ⟨j, hlt, rfl⟩
   ·have e : j = m := by omega
    subst e
    cases hk : Lib.keeps d j with
    | true => exact Or.inr (by simp)
    | false =>
     refine Or.inl ⟨j - 1, ?_, ?_⟩
     ·have : j ≠ 0 := fun e => by subst e; simp [Lib.keeps] at hk
      omega
     ·simp [Lib.keeps] at hk
      exact hk.2
theorem mem_compact (zs : List Int) (x : Int) : x ∈ Lib.compact zs ↔ x ∈ zs := by
 unfold Lib.compact
 rw [compactUpTo_mem]
 constructor
 ·rintro ⟨j, hj, rfl⟩
  simp [hj]
 ·intro h
  obtain ⟨j, hj, rfl⟩ := List.mem_iff_getElem.1 h
  exact ⟨j, hj, by simp [hj]⟩
def startN (ns : List Nat) : List Nat := (startL ns).map Int.toNat
theorem startL_mem {ns : List Nat} {x : Int} (h : x ∈ startL ns) : ∃ n, n ∈ ns ∧ x = (n : Nat) := by
 have h1 := (mem_compact _ _).1 h
 rw [List.mem_mergeSort] at h1
 simp only [asI, List.mem_map] at h1
 obtain ⟨n, hn, rfl⟩ := h1
 exact ⟨n, hn, rfl⟩
theorem startL_eq (ns : List Nat) : startL ns = asI (startN ns) := by
 unfold asI startN
 rw [List.map_map]
 conv => lhs; rw [← List.map_id (startL ns)]
 refine List.map_congr_left fun x hx => ?_
 obtain ⟨n, _, rfl⟩ := startL_mem hx
 simp
theorem startN_mem (ns : List Nat) (n : Nat) : n ∈ startN ns ↔ n ∈ ns := by
 constructor
 ·intro h
  simp only [startN, List.mem_map] at h
  obtain ⟨x, hx, rfl⟩ := h
  obtain ⟨k, hk, rfl⟩ := startL_mem hx
  simpa using hk
 ·intro h
  simp only [startN, List.mem_map]
  refine ⟨(n : Int), ?_, by simp⟩
  unfold startL
  rw [mem_compact, List.mem_mergeSort]
  simp only [asI, List.mem_map]
  exact ⟨n, h, rfl⟩
theorem startN_len (ns : List Nat) : (startN ns).length ≤ ns.length := by
 unfold startN startL
 rw [List.length_map]
 have h := Lib.compact_length_le ((asI ns).mergeSort fun x y => decide (x ≤ y))
 rw [List.length_mergeSort] at h
 simpa [asI] using h
end Go.Proofs.YtccikgogjfbpeaaGreatDoor
