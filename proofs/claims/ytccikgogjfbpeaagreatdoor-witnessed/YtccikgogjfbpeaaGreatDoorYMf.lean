/- Regions: from, and what it yields, plainly. Regions, plainly: what is yielded stands for all. Regions, plainly: what is yielded stands for all payments. -/
import Derived.Test.YtccikgogjfbpeaaGreatDoorYHa
import Derived.Test.YtccikgogjfbpeaaGreatDoorYMe
import Derived.Test.YtccikgogjfbpeaaGreatDoorYMc
namespace Go.Proofs.YtccikgogjfbpeaaGreatDoor
open Go.RowKit
set_option maxRecDepth 30000 in
set_option maxHeartbeats 400000 in
theorem from_any (side : Nat) (A : ArM) (x0 x1 x2 x3 : SlM) (a : Option Addr) (n c : Nat) (w : World) :
  Calls Tryz.prog 172 #[.int .i64 (side : Nat), .agg #[spV x0 A.s0, spV x1 A.s1, spV x2 A.s2, spV x3 A.s3], .slice a n c] w fun e w' => e = .returned (.func (.func 212) #[] #[.pointer (some ⟨w.heap.size, 0, none⟩), .pointer (some ⟨w.heap.size + 1 + 1, 0, none⟩), .pointer (some ⟨w.heap.size + 1, 0, none⟩)]) ∧ w' = ((w.alloc (.cells #[.int .i64 (side : Nat)] 3)).alloc (.cells #[spV x0 A.s0, spV x1 A.s1, spV x2 A.s2, spV x3 A.s3] 215)).alloc (.cells #[.slice a n c] 217) := by
 have hmf : ∀ (fn : Fn) (first cap : Array Value) (w : World), (Instr.makeFunc fn first cap).run Tryz.prog w = .ok (.func fn first cap) w := fun _ _ _ _ => rfl
 unfold spV
 go_enter Tryz.func172, Tryz.ntmps172
 go_wp2
 go_ret
 exact ⟨rfl, rfl⟩
structure PaM where
 p0 : Nat
 p1 : Nat
 p2 : Nat
 p3 : Nat
def PaM.set (p : PaM) (side n : Nat) : PaM :=
 match side with
 | 0 => { p with p0 := n }
 | 1 => { p with p1 := n }
 | 2 => { p with p2 := n }
 | _ => { p with p3 := n }
def PaM.at (p : PaM) : Nat → Nat
 | 0 => p.p0
 | 1 => p.p1
 | 2 => p.p2
 | _ => p.p3
def fromM (A : ArM) : Nat → List ArE → List (PaM × Nat)
 | 0, es => [(⟨0, 0, 0, 0⟩, es.length)]
 | k + 1, es => (startsM (3 - k) A es).flatMap fun n => (fromM A k (havE (3 - k) n es)).map fun y => (y.1.set (3 - k) n, y.2)
end Go.Proofs.YtccikgogjfbpeaaGreatDoor

namespace Go.Proofs.YtccikgogjfbpeaaGreatDoor
open Go.RowKit
theorem greatest_upto (n : Nat) : ∀ l : List Nat, (∃ x, x ∈ l ∧ x ≤ n) → ∃ m, m ∈ l ∧ m ≤ n ∧ ∀ x, x ∈ l → x ≤ n → x ≤ m
 | [], h => by obtain ⟨x, hx, _⟩ := h; cases hx
 | y :: r, h => by
  by_cases hr : ∃ x, x ∈ r ∧ x ≤ n
  ·obtain ⟨m, h1, h2, h3⟩ := greatest_upto n r hr
   by_cases hy : y ≤ n ∧ m ≤ y
   ·refine ⟨y, by simp, hy.1, fun x hx hn => ?_⟩
    rcases List.mem_cons.1 hx with rfl | hx
    ·omega
    ·have := h3 x hx hn; omega
   ·refine ⟨m, by simp [h1], h2, fun x hx hn => ?_⟩
    rcases List.mem_cons.1 hx with rfl | hx
    ·omega
    ·exact h3 x hx hn
  ·obtain ⟨x, hx, hn⟩ := h
   rcases List.mem_cons.1 hx with rfl | hx
   ·refine ⟨x, by simp, hn, fun z hz hzn => ?_⟩
    rcases List.mem_cons.1 hz with rfl | hz
    ·omega
    ·exact absurd ⟨z, hz, hzn⟩ hr
   ·exact absurd ⟨x, hx, hn⟩ hr
theorem mem_cut1 {own : SpM} {n : Nat} (h : own.1 ≤ n ∧ n ≤ own.2) : n ∈ cut1 own n := by simp [cut1, inSp, h]
theorem start_same {side n : Nat} {own : SpM} {es : List ArE} (hn : inSp own n = true) : ∃ m, m ∈ st1 side own es ∧ inSp own m = true ∧ ∀ e, e ∈ es → hasM e.A side m = hasM e.A side n := by
 simp only [inSp, Bool.and_eq_true, decide_eq_true_eq] at hn
 obtain ⟨m, h1, h2, h3⟩ := greatest_upto n (st1 side own es) ⟨own.1, by simp [st1], hn.1⟩
 have hlo : own.1 ≤ m := h3 own.1 (by simp [st1]) hn.1
 refine ⟨m, h1, by simp only [inSp, Bool.and_eq_true, decide_eq_true_eq]; omega, fun e he => ?_⟩
 have key : ∀ t, t ∈ e.A.at side → inSp t m = inSp t n := by
  intro t ht
  have c1 : own.1 ≤ t.1 → t.1 ≤ n → t.1 ≤ m := fun a b => h3 t.1 (by
   simp only [st1, List.mem_cons, List.mem_flatMap]
   refine Or.inr ⟨e, he, ?_⟩
   simp only [cutsM, List.mem_flatMap]
   exact ⟨t, ht, by simp only [cutS, List.mem_append]; exact Or.inl (mem_cut1 (by omega))⟩) b
  have c2 : own.1 ≤ t.2 + 1 → t.2 + 1 ≤ n → t.2 + 1 ≤ m := fun a b => h3 (t.2 + 1) (by
   simp only [st1, List.mem_cons, List.mem_flatMap]
   refine Or.inr ⟨e, he, ?_⟩
   simp only [cutsM, List.mem_flatMap]
   exact ⟨t, ht, by simp only [cutS, List.mem_append]; exact Or.inr (mem_cut1 (by omega))⟩) b
  rw [Bool.eq_iff_iff]
  simp only [inSp, Bool.and_eq_true, decide_eq_true_eq]
  omega
 unfold hasM
 rw [Bool.eq_iff_iff]
 simp only [List.any_eq_true]
 constructor
 ·rintro ⟨t, ht, h⟩; exact ⟨t, ht, by rw [← key t ht]; exact h⟩
 ·rintro ⟨t, ht, h⟩; exact ⟨t, ht, by rw [key t ht]; exact h⟩
theorem starts_same {side n : Nat} {A : ArM} {es : List ArE} (hn : hasM A side n = true) : ∃ m, m ∈ startsM side A es ∧ hasM A side m = true ∧ ∀ e, e ∈ es → hasM e.A side m = hasM e.A side n := by
 simp only [hasM, List.any_eq_true] at hn
 obtain ⟨own, ho, hn⟩ := hn
 obtain ⟨m, h1, h2, h3⟩ := start_same (side := side) (es := es) hn
 refine ⟨m, ?_, ?_, h3⟩
 ·unfold startsM
  rw [startN_mem]
  simp only [stRaw, List.mem_flatMap]
  exact ⟨own, ho, h1⟩
 ·simp only [hasM, List.any_eq_true]
  exact ⟨own, ho, h2⟩
theorem starts_in {side m : Nat} {A : ArM} {es : List ArE} (hA : ∀ s, s ∈ A.at side → s.1 ≤ s.2) (h : m ∈ startsM side A es) : hasM A side m = true := by
 unfold startsM at h
 rw [startN_mem] at h
 simp only [stRaw, List.mem_flatMap] at h
 obtain ⟨own, ho, h⟩ := h
 simp only [hasM, List.any_eq_true]
 refine ⟨own, ho, ?_⟩
 simp only [st1, List.mem_cons, List.mem_flatMap] at h
 rcases h with rfl | ⟨e, _, h⟩
 ·have := hA own ho
  simp only [inSp, Bool.and_eq_true, decide_eq_true_eq]
  omega
 ·simp only [cutsM, List.mem_flatMap, cutS, List.mem_append] at h
  obtain ⟨t, _, h⟩ := h
  have g : ∀ x, m ∈ cut1 own x → inSp own m = true := by
   intro x hx
   unfold cut1 at hx
   split at hx
   ·rename_i hh
    simp at hx
    subst hx
    exact hh
   ·cases hx
  rcases h with h | h
  ·exact g _ h
  ·exact g _ h
end Go.Proofs.YtccikgogjfbpeaaGreatDoor

namespace Go.Proofs.YtccikgogjfbpeaaGreatDoor
open Go.RowKit
def allB (A : ArM) : Nat → PaM → Bool
 | 0, _ => true
 | k + 1, p => hasM A (3 - k) (p.at (3 - k)) && allB A k p
theorem at_set_same (p : PaM) {s : Nat} (h : s < 4) (n : Nat) : (p.set s n).at s = n := by
 have : s = 0 ∨ s = 1 ∨ s = 2 ∨ s = 3 := by omega
 rcases this with rfl | rfl | rfl | rfl <;> rfl
theorem at_set_other (p : PaM) {s t : Nat} (h : s < 4) (ht : t < 4) (hne : s ≠ t) (n : Nat) : (p.set s n).at t = p.at t := by
 have h1 : s = 0 ∨ s = 1 ∨ s = 2 ∨ s = 3 := by omega
 have h2 : t = 0 ∨ t = 1 ∨ t = 2 ∨ t = 3 := by omega
 rcases h1 with rfl | rfl | rfl | rfl <;> rcases h2 with rfl | rfl | rfl | rfl <;> first | rfl | exact absurd rfl hne
theorem allB_set (A : ArM) (p : PaM) (s n : Nat) (hs : s < 4) : ∀ k, k + s ≤ 3 → allB A k (p.set s n) = allB A k p
 | 0, _ => rfl
 | k + 1, h => by
  unfold allB
  rw [at_set_other p hs (by omega) (by omega) n, allB_set A p s n hs k (by omega)]
theorem from_sound {A : ArM} (hA : ∀ side s, s ∈ A.at side → s.1 ≤ s.2) : ∀ k, k ≤ 4 → ∀ (es : List ArE) (y : PaM × Nat), y ∈ fromM A k es → allB A k y.1 = true ∧ y.2 = (es.filter fun e => allB e.A k y.1).length
 | 0, _, es, y, h => by
  simp only [fromM, List.mem_singleton] at h
  subst h
  refine ⟨rfl, ?_⟩
  show es.length = (List.filter (fun _ => true) es).length
  rw [List.filter_eq_self.2 (fun _ _ => rfl)]
 | k + 1, hk, es, y, h => by
  simp only [fromM, List.mem_flatMap, List.mem_map] at h
  obtain ⟨n, hn, z, hz, rfl⟩ := h
  obtain ⟨h1, h2⟩ := from_sound hA k (by omega) _ z hz
  have e1 : ∀ B : ArM, allB B (k + 1) (z.1.set (3 - k) n) = (hasM B (3 - k) n && allB B k z.1) := fun B => by
   conv => lhs; unfold allB
   rw [at_set_same z.1 (by omega) n, allB_set B z.1 (3 - k) n (by omega) k (by omega)]
  refine ⟨?_, ?_⟩
  ·show allB A (k + 1) (z.1.set (3 - k) n) = true
   rw [e1, starts_in (hA _) hn, h1]
   rfl
  ·show z.2 = _
   rw [h2]
   unfold havE
   rw [List.filter_filter]
   congr 1
   refine List.filter_congr fun e _ => ?_
   rw [e1, Bool.and_comm]
theorem from_cover {A : ArM} : ∀ k, k ≤ 4 → ∀ (es : List ArE) (p : PaM), allB A k p = true → ∃ y, y ∈ fromM A k es ∧ ∀ e, e ∈ es → allB e.A k y.1 = allB e.A k p
 | 0, _, es, p, _ => ⟨_, List.mem_singleton.2 rfl, fun _ _ => rfl⟩
 | k + 1, hk, es, p, h => by
  unfold allB at h
  rw [Bool.and_eq_true] at h
  obtain ⟨m, hm, _, hs⟩ := starts_same (es := es) h.1
  obtain ⟨z, hz, hq⟩ := from_cover k (by omega) (havE (3 - k) m es) p h.2
  refine ⟨(z.1.set (3 - k) m, z.2), ?_, fun e he => ?_⟩
  ·simp only [fromM, List.mem_flatMap, List.mem_map]
   exact ⟨m, hm, z, hz, rfl⟩
  ·show allB e.A (k + 1) (z.1.set (3 - k) m) = _
   unfold allB
   rw [at_set_same z.1 (by omega) m, allB_set e.A z.1 (3 - k) m (by omega) k (by omega), ← hs e he]
   cases hh : hasM e.A (3 - k) m with
   | false => rfl
   | true =>
    rw [hq e (by unfold havE; rw [List.mem_filter]; exact ⟨he, hh⟩)]
end Go.Proofs.YtccikgogjfbpeaaGreatDoor
